/- A hash as it lies in memory; New, Len. -/
import Derived.Test.YtcihbkdpkhhhcaaDoorBehind
import Derived.Test.YtcihbkdpkhhhcaaDoorTag
import Derived.Test.YtcihbkdpkhhhcaaDoorEnd
namespace Go.Proofs.YtcihbkdpkhhhcaaDoor
open Go.ChangeShapes Go.WideShapes Go.ChangeAt Go.RowKit
set_option linter.unusedVariables false
open Plain Sha
attribute [local go_sem ↓] Go.wp_at_zero Go.wp_at_succ
/-- The first numbers lie in their variable. -/
def LaidF (w : World) : Prop := ∀ j, j < 8 → w.cell? ⟨0, j, none⟩ = some (.int .u32 ((h0.list.getD j 0 : Nat) : Int))
theorem LaidF.lt {w : World} (h : LaidF w) : 0 < w.heap.size := World.block_lt_of_cell? _ _ (h 0 (by omega))
theorem LaidF.below {w w' : World} {B : Nat} (h : LaidF w) (hb : Below B w w') (hB : 0 < B) : LaidF w' := fun j hj => (hb.cell (p := ⟨0, j, none⟩) hB).trans (h j hj)
structure HashIs (w : World) (b : Nat) (v : H8) (rest : List Int) (n : Nat) : Prop where
  made : w.cell? ⟨b, 0, none⟩ = some (.bool true)
  now : w.rangeAt b 1 (u32s v.list)
  buf : w.rangeAt b 9 (vals rest)
  n : w.cell? ⟨b, 73, none⟩ = some (.int .i64 (n : Int))
  there : w.there b 0 74
  len : rest.length = 64
theorem HashIs.same {w w' : World} {b : Nat} {v : H8} {rest : List Int} {n : Nat} (h : HashIs w b v rest n) (e : w'.heap[b]? = w.heap[b]?) : HashIs w' b v rest n :=
  ⟨(World.cell?_of_block (a := ⟨b, 0, none⟩) e).trans h.made, rangeAt_same h.now e, rangeAt_same h.buf e, (World.cell?_of_block (a := ⟨b, 73, none⟩) e).trans h.n, there_same h.there e, h.len⟩
theorem HashIs.lt {w : World} {b : Nat} {v : H8} {rest : List Int} {n : Nat} (h : HashIs w b v rest n) : b < w.heap.size := World.block_lt_of_cell? _ _ h.made
def pad64 (l : List Int) : List Int := l ++ List.replicate (64 - l.length) 0
theorem pad64_len (l : List Int) (h : l.length ≤ 64) : (pad64 l).length = 64 := by simp [pad64]; omega
/-- Block b holds a hash of the bytes bs. -/
def HashOf (w : World) (b : Nat) (bs : List Int) : Prop := HashIs w b (Sha.behind h0 bs) (pad64 (restZ bs)) bs.length
theorem HashOf.same {w w' : World} {b : Nat} {bs : List Int} (h : HashOf w b bs) (e : w'.heap[b]? = w.heap[b]?) : HashOf w' b bs := HashIs.same h e
theorem HashOf.lt {w : World} {b : Nat} {bs : List Int} (h : HashOf w b bs) : b < w.heap.size := HashIs.lt h
theorem HashOf.below {w w' : World} {b B : Nat} {bs : List Int} (h : HashOf w b bs) (hb : Below B w w') (hB : b < B) : HashOf w' b bs := h.same (hb.block b hB)
theorem HashOf.grown {w w' : World} {b c : Nat} {bs : List Int} (h : HashOf w b bs) (hg : w.grownBy w' (some c)) (hne : b ≠ c) : HashOf w' b bs := h.same (hg.block b h.lt (fun e => hne (by injection e)))
theorem rangeAt_block {w : World} {b : Nat} {cs : List Value} {t : TypeId} (h : w.heap[b]? = some (.cells cs.toArray t (0, 0))) (o : Nat) (l : List Value) (hl : ∀ j v, l[j]? = some v → cs[o + j]? = some v) : w.rangeAt b o l := fun j v hv => by
  rw [cell_of_row _ _ _ _ _ _ h]; simpa using hl j v hv
theorem there_block {w : World} {b : Nat} {cs : List Value} {t : TypeId} (h : w.heap[b]? = some (.cells cs.toArray t (0, 0))) : w.there b 0 cs.length := fun j hj => by
  rw [cell_of_row _ _ _ _ _ _ h]
  refine ⟨?_, frozen_of_row _ _ _ _ _ h⟩
  simp [List.getElem?_eq_getElem hj]
theorem nought_at (n j : Nat) : (List.replicate n (0 : Int)).getD j 0 = 0 := by
  rw [List.getD_eq_getElem?_getD, List.getElem?_replicate]
  split <;> rfl
def newCells : List Value := .bool true :: (u32s h0.list ++ (vals (List.replicate 64 0) ++ [.int .i64 0]))
theorem hash_new {w : World} {b : Nat} {t : TypeId} (h : w.heap[b]? = some (.cells newCells.toArray t (0, 0))) : HashOf w b [] := by
  refine ⟨?_, ?_, ?_, ?_, ?_, by decide⟩
  · rw [cell_of_row _ _ _ _ _ _ h]; rfl
  · exact rangeAt_block h 1 _ (fun j v hv => by
      have hj : j < 8 := by have := (List.getElem?_eq_some_iff.1 hv).1; simpa [u32s_len, H8.list] using this
      rw [← hv]
      match j, hj with
      | 0, _ => rfl
      | 1, _ => rfl
      | 2, _ => rfl
      | 3, _ => rfl
      | 4, _ => rfl
      | 5, _ => rfl
      | 6, _ => rfl
      | 7, _ => rfl)
  · exact rangeAt_block h 9 _ (fun j v hv => by
      have hj : j < 64 := by have := (List.getElem?_eq_some_iff.1 hv).1; rw [vals_len] at this; exact this
      have e : (vals (pad64 (restZ [])))[j]? = some (.int .u8 0) := by
        rw [vals_at (pad64 (restZ [])) j (by rw [pad64_len _ (by decide)]; exact hj)]
        congr 2
        exact nought_at 64 j
      rw [e] at hv
      injection hv with hv
      subst hv
      show (Value.bool true :: (u32s h0.list ++ (vals (List.replicate 64 0) ++ [.int .i64 0])))[9 + j]? = _
      rw [show 9 + j = (8 + j) + 1 from by omega, List.getElem?_cons_succ, List.getElem?_append_right (by simp [u32s_len, H8.list]), List.getElem?_append_left (by simp [u32s_len, H8.list, vals_len]; omega)]
      have : (u32s h0.list).length = 8 := rfl
      rw [this, show 8 + j - 8 = j from by omega, vals_at _ j (by simpa using hj)]
      rw [nought_at])
  · rw [cell_of_row _ _ _ _ _ _ h]; rfl
  · exact there_block h
/-- An operation whose run is known. -/
theorem wpList_exec {P : Program} {ops : Array Oper} {rest : List Oper} {op : Oper} {a : Act} {w : World} {Q : Exit → Act → World → Prop} (hgd : op.guard = none) (v : Value)
    (hrun : (execOp a.eval op).run P w = .ok (.value v) w) (h : wpList P ops Q rest (a.put op.dst v) w) : wpList P ops Q (op :: rest) a w :=
  wpList_plain hgd fun K hK => by
    unfold Oper.wp
    simp only [hrun]
    exact hK _ _ h
theorem new_any (w : World) (hF : LaidF w) :
    Calls Tryd.prog 40 #[] w fun e w' => e = .returned (.pointer (some ⟨w.heap.size, 0, none⟩)) ∧ HashOf w' w.heap.size [] ∧ Below w.heap.size w w' ∧ w.heap.size < w'.heap.size := by
  have hr : w.rangeAt 0 0 (u32s h0.list) := fun j v hv => by
    have hj : j < 8 := by have := (List.getElem?_eq_some_iff.1 hv).1; simpa [u32s_len, H8.list] using this
    rw [u32s_at h0.list j hj] at hv
    rw [Nat.zero_add, hF j hj, hv]
  have HR := Lib.hid hr
  have HI8 := Lib.hid (show (Tryd.prog.info? 73).map (·.size) = some (u32s h0.list).length by rw [u32s_len]; simp only [H8.list, List.length_cons, List.length_nil]; kernel_rfl)
  have HH : Hid (HashOf (w.alloc (.cells newCells.toArray 76)) w.heap.size []) := Lib.hid (hash_new (heap_alloc_new w _))
  have HB : Hid (Below w.heap.size w (w.alloc (.cells newCells.toArray 76))) := Lib.hid ((Below.refl _ _).alloc (Nat.le_refl _) _)
  clear hr hF
  go_enter Tryd.func40, Tryd.ntmps40
  go_wp2_with (first
    | (refine wpList_load_mid (op := ⟨some 1, _, _, _, _, _⟩) rfl 73 (.global 0) rfl 0 0 rfl (u32s h0.list) _ HR.out Tryd.underlying73 rfl HI8.out ?_)
    | (refine wpList_exec (op := ⟨some 2, _, _, _, _, _⟩) rfl (.agg newCells.toArray) (by kernel_rfl) ?_))
  go_ret
  exact ⟨rfl, HH.out, HB.out, by simp⟩
end Go.Proofs.YtcihbkdpkhhhcaaDoor
