/- Texts of the proof, one behind the other: Tag End Hash Write Sum ShaSumB TagEq Fast. -/
import Derived.Test.YtlknjaoamkcmjaaB2
import Derived.Deep.DrawnRows
import Derived.Test.YtlknjaoamkcmjaaB1
import Derived.ChangeKeysEq
/- The tag of eight numbers. -/
namespace Go.Proofs.Ytlknjaoamkcmjaa
open Go.ChangeShapes Go.WideShapes Go.ChangeAt Go.RowKit
set_option linter.unusedVariables false
open Plain Sha
attribute [local go_sem ↓] Go.wp_at_zero Go.wp_at_succ
/-- The bytes of the first k of eight numbers. -/
def tagTo (v : H8) (k : Nat) : List Int := catTo (fun j => putZ ((v.list.getD j 0 : Nat) : Int) 4) k
theorem tagTo_8 (v : H8) : tagTo v 8 = tagZ v := rfl
theorem take_splice (l zs : List Int) (k : Nat) (h : k + zs.length ≤ l.length) : (splice l k zs).take (k + zs.length) = l.take k ++ zs := by
  unfold splice
  have e : (l.take k ++ zs).length = k + zs.length := by simp; omega
  rw [← List.append_assoc, ← e, List.take_left]
theorem Row8.below {w w' : World} {b o B : Nat} {l : List Int} (h : Row8 w b o l) (hb : Below B w w') (hB : b < B) : Row8 w' b o l := h.same (hb.block b hB)
theorem u32_row : (Try.prog.info? 65).map (fun i => (i.zero, i.size, i.bytes)) = some (some (.int .u32 0), 1, 4) := by kernel_rfl
theorem list_lt (v : H8) (hv : v.ok) (k : Nat) (hk : k < 8) : v.list.getD k 0 < 4294967296 := by
  match k, hk with
  | 0, _ => exact hv.a
  | 1, _ => exact hv.b
  | 2, _ => exact hv.c
  | 3, _ => exact hv.d
  | 4, _ => exact hv.e
  | 5, _ => exact hv.f
  | 6, _ => exact hv.g
  | 7, _ => exact hv.h
end Go.Proofs.Ytlknjaoamkcmjaa
/- What stands behind a message. -/
namespace Go.Proofs.Ytlknjaoamkcmjaa
open Go.ChangeShapes Go.WideShapes Go.ChangeAt Go.RowKit
set_option linter.unusedVariables false
open Plain Sha
attribute [local go_sem ↓] Go.wp_at_zero Go.wp_at_succ
theorem noughts_bytes (k : Nat) : IsBytes (List.replicate k 0) := fun j hj => by
  simp [List.getD_eq_getElem?_getD, List.getElem?_replicate]
  split <;> decide
end Go.Proofs.Ytlknjaoamkcmjaa
/- A hash as it lies in memory; New, Len. -/
namespace Go.Proofs.Ytlknjaoamkcmjaa
open Go.ChangeShapes Go.WideShapes Go.ChangeAt Go.RowKit
set_option linter.unusedVariables false
open Plain Sha
attribute [local go_sem ↓] Go.wp_at_zero Go.wp_at_succ
structure HashIs (w : World) (b : Nat) (v : H8) (rest : List Int) (n : Nat) : Prop where
  made : w.cell? ⟨b, 0, none⟩ = some (.bool true)
  now : w.rangeAt b 1 (u32s v.list)
  buf : w.rangeAt b 9 (vals rest)
  n : w.cell? ⟨b, 73, none⟩ = some (.int .i64 (n : Int))
  there : w.there b 0 74
  len : rest.length = 64
theorem HashIs.same {w w' : World} {b : Nat} {v : H8} {rest : List Int} {n : Nat} (h : HashIs w b v rest n) (e : w'.heap[b]? = w.heap[b]?) : HashIs w' b v rest n :=
  ⟨(World.cell?_of_block (a := ⟨b, 0, none⟩) e).trans h.made, rangeAt_same h.now e, rangeAt_same h.buf e, (World.cell?_of_block (a := ⟨b, 73, none⟩) e).trans h.n, there_same h.there e, h.len⟩
theorem HashIs.lt {w : World} {b : Nat} {v : H8} {rest : List Int} {n : Nat} (h : HashIs w b v rest n) : b < w.heap.size := World.block_lt_of_cell? _ _ h.made
def pad64 (l : List Int) : List Int := l ++ List.replicate (64 - l.length) 0
theorem pad64_len (l : List Int) (h : l.length ≤ 64) : (pad64 l).length = 64 := by simp [pad64]; omega
/-- Block b holds a hash of the bytes bs. -/
def HashOf (w : World) (b : Nat) (bs : List Int) : Prop := HashIs w b (Sha.behind h0 bs) (pad64 (restZ bs)) bs.length
theorem HashOf.same {w w' : World} {b : Nat} {bs : List Int} (h : HashOf w b bs) (e : w'.heap[b]? = w.heap[b]?) : HashOf w' b bs := HashIs.same h e
theorem HashOf.lt {w : World} {b : Nat} {bs : List Int} (h : HashOf w b bs) : b < w.heap.size := HashIs.lt h
theorem HashOf.below {w w' : World} {b B : Nat} {bs : List Int} (h : HashOf w b bs) (hb : Below B w w') (hB : b < B) : HashOf w' b bs := h.same (hb.block b hB)
theorem HashOf.grown {w w' : World} {b c : Nat} {bs : List Int} (h : HashOf w b bs) (hg : w.grownBy w' (some c)) (hne : b ≠ c) : HashOf w' b bs := h.same (hg.block b h.lt (fun e => hne (by injection e)))
theorem rangeAt_block {w : World} {b : Nat} {cs : List Value} {t : TypeId} (h : w.heap[b]? = some (.cells cs.toArray t (0, 0))) (o : Nat) (l : List Value) (hl : ∀ j v, l[j]? = some v → cs[o + j]? = some v) : w.rangeAt b o l := fun j v hv => by
  rw [cell_of_row _ _ _ _ _ _ h]; simpa using hl j v hv
theorem there_block {w : World} {b : Nat} {cs : List Value} {t : TypeId} (h : w.heap[b]? = some (.cells cs.toArray t (0, 0))) : w.there b 0 cs.length := fun j hj => by
  rw [cell_of_row _ _ _ _ _ _ h]
  refine ⟨?_, frozen_of_row _ _ _ _ _ h⟩
  simp [List.getElem?_eq_getElem hj]
theorem nought_at (n j : Nat) : (List.replicate n (0 : Int)).getD j 0 = 0 := by
  rw [List.getD_eq_getElem?_getD, List.getElem?_replicate]
  split <;> rfl
def newCells : List Value := .bool true :: (u32s h0.list ++ (vals (List.replicate 64 0) ++ [.int .i64 0]))
theorem hash_new {w : World} {b : Nat} {t : TypeId} (h : w.heap[b]? = some (.cells newCells.toArray t (0, 0))) : HashOf w b [] := by
  refine ⟨?_, ?_, ?_, ?_, ?_, by decide⟩
  · rw [cell_of_row _ _ _ _ _ _ h]; rfl
  · exact rangeAt_block h 1 _ (fun j v hv => by
      have hj : j < 8 := by have := (List.getElem?_eq_some_iff.1 hv).1; simpa [u32s_len, H8.list] using this
      rw [← hv]
      match j, hj with
      | 0, _ => rfl
      | 1, _ => rfl
      | 2, _ => rfl
      | 3, _ => rfl
      | 4, _ => rfl
      | 5, _ => rfl
      | 6, _ => rfl
      | 7, _ => rfl)
  · exact rangeAt_block h 9 _ (fun j v hv => by
      have hj : j < 64 := by have := (List.getElem?_eq_some_iff.1 hv).1; rw [vals_len] at this; exact this
      have e : (vals (pad64 (restZ [])))[j]? = some (.int .u8 0) := by
        rw [vals_at (pad64 (restZ [])) j (by rw [pad64_len _ (by decide)]; exact hj)]
        congr 2
        exact nought_at 64 j
      rw [e] at hv
      injection hv with hv
      subst hv
      show (Value.bool true :: (u32s h0.list ++ (vals (List.replicate 64 0) ++ [.int .i64 0])))[9 + j]? = _
      rw [show 9 + j = (8 + j) + 1 from by omega, List.getElem?_cons_succ, List.getElem?_append_right (by simp [u32s_len, H8.list]), List.getElem?_append_left (by simp [u32s_len, H8.list, vals_len]; omega)]
      have : (u32s h0.list).length = 8 := rfl
      rw [this, show 8 + j - 8 = j from by omega, vals_at _ j (by simpa using hj)]
      rw [nought_at])
  · rw [cell_of_row _ _ _ _ _ _ h]; rfl
  · exact there_block h
/-- An operation whose run is known. -/
theorem wpList_exec {P : Program} {ops : Array Oper} {rest : List Oper} {op : Oper} {a : Act} {w : World} {Q : Exit → Act → World → Prop} (hgd : op.guard = none) (v : Value)
    (hrun : (execOp a.eval op).run P w = .ok (.value v) w) (h : wpList P ops Q rest (a.put op.dst v) w) : wpList P ops Q (op :: rest) a w :=
  wpList_plain hgd fun K hK => by
    unfold Oper.wp
    simp only [hrun]
    exact hK _ _ h
end Go.Proofs.Ytlknjaoamkcmjaa
/- A hash is written to. -/
namespace Go.Proofs.Ytlknjaoamkcmjaa
open Go.ChangeShapes Go.WideShapes Go.ChangeAt Go.RowKit
set_option linter.unusedVariables false
open Plain Sha
attribute [local go_sem ↓] Go.wp_at_zero Go.wp_at_succ
theorem restZ_lt (bs : List Int) : (restZ bs).length < 64 := by rw [restZ_len]; omega
/-- The bytes that wait, as a slice of the hash's own. -/
theorem HashIs.bs {w : World} {b : Nat} {v : H8} {bs : List Int} {n : Nat} (h : HashIs w b v (pad64 (restZ bs)) n) (hb : IsBytes bs) (m : Nat) (hm : m = bs.length % 64) : Bs w (b + 1) (some ⟨b, 9, none⟩) m (restZ bs) := by
  have hl := restZ_len bs
  refine ⟨by rw [hl, hm], fun j hj => restZ_bytes hb j (by omega), fun _ => ⟨b, 9, rfl, by omega, fun j hj => ?_⟩⟩
  have hp := pad64_len (restZ bs) (by have := restZ_lt bs; omega)
  rw [h.buf j _ (vals_at _ j (by rw [hp]; omega))]
  unfold pad64
  rw [List.getD_eq_getElem?_getD, List.getElem?_append_left (by omega), ← List.getD_eq_getElem?_getD]
theorem tmod_nat (n k : Nat) : ((n : Int)).tmod (k : Int) = ((n % k : Nat) : Int) := by
  rw [Int.tmod_eq_emod_of_nonneg (by omega)]; omega
theorem splice_zero (r : List Int) (h : r.length ≤ 64) : splice (List.replicate 64 (0 : Int)) 0 r = pad64 r := by
  unfold splice pad64
  rw [List.take_zero, List.nil_append, List.drop_replicate, Nat.zero_add]
theorem drew_setCells (b : Nat) : ∀ (vs : List Value) (o : Nat) (w : World), w.drew.setCells b o vs = (w.setCells b o vs).drew
  | [], _, _ => rfl
  | v :: r, o, w => by rw [World.setCells, World.setCells, ← drew_setCells b r (o + 1)]; rfl
theorem write_end {w2 w3 w4 w5 : World} {b : Nat} {bs zs : List Int} (H : HashOf w2 b bs) (hw3 : w3 = w2.setCells b 1 (u32s (Sha.behind h0 (bs ++ zs)).list)) (hw4 : w4 = w3.setCells b 9 (vals (List.replicate 64 0)))
    (hw5 : w5 = w4.setCells b 9 (vals (restZ (bs ++ zs)))) (x : Int) (hx : x = ((bs ++ zs).length : Nat)) :
    HashOf (w5.setCell ⟨b, 73, none⟩ (.int .i64 x)) b (bs ++ zs) := by
  have hl : (vals (restZ (bs ++ zs))).length < 64 := by rw [vals_len]; exact restZ_lt _
  have hu : (u32s (Sha.behind h0 (bs ++ zs)).list).length = 8 := by rw [u32s_len, H8.len]
  have hz : (vals (List.replicate 64 0)).length = 64 := by rw [vals_len, List.length_replicate]
  have T2 : w2.there b 0 74 := H.there
  have T3 : w3.there b 0 74 := by rw [hw3]; exact World.there_setCells T2 _ _ _
  have T4 : w4.there b 0 74 := by rw [hw4]; exact World.there_setCells T3 _ _ _
  have T5 : w5.there b 0 74 := by rw [hw5]; exact World.there_setCells T4 _ _ _
  have R4 : Row8 w4 b 9 (List.replicate 64 0) := by
    rw [hw4]
    exact ⟨World.rangeAt_setCells_same _ _ _ _ (there_sub T3 (by omega) (by omega)), World.there_setCells (there_sub T3 (by omega) (by rw [List.length_replicate]; omega)) _ _ _⟩
  have R5 : Row8 w5 b 9 (pad64 (restZ (bs ++ zs))) := by
    rw [hw5, ← splice_zero _ (by rw [vals_len] at hl; omega)]
    exact R4.splice 0 _ (by rw [vals_len] at hl; rw [List.length_replicate]; omega)
  have N5 : w5.rangeAt b 1 (u32s (Sha.behind h0 (bs ++ zs)).list) := by
    rw [hw5, hw4]
    refine World.rangeAt_setCells_apart (World.rangeAt_setCells_apart ?_ _ _ _ (.inr (.inl (by omega)))) _ _ _ (.inr (.inl (by omega)))
    rw [hw3]
    exact World.rangeAt_setCells_same _ _ _ _ (there_sub T2 (by omega) (by omega))
  have M5 : w5.cell? ⟨b, 0, none⟩ = some (.bool true) := by
    rw [hw5, World.cell?_setCells_out b _ _ _ _ (fun _ _ => .inl (by show (0 : Nat) < _; omega)), hw4, World.cell?_setCells_out b _ _ _ _ (fun _ _ => .inl (by show (0 : Nat) < _; omega)), hw3, World.cell?_setCells_out b _ _ _ _ (fun _ _ => .inl (by show (0 : Nat) < _; omega))]
    exact H.made
  have e73 : w5.setCell ⟨b, 73, none⟩ (.int .i64 x) = w5.setCells b 73 [.int .i64 x] := rfl
  have hp := pad64_len (restZ (bs ++ zs)) (by have := restZ_lt (bs ++ zs); omega)
  refine ⟨?_, ?_, ?_, ?_, ?_, hp⟩
  · rw [World.cell?_setCell_other _ _ _ _ (fun e => by injection e with _ e2; cases e2)]; exact M5
  · rw [e73]; exact World.rangeAt_setCells_apart N5 _ _ _ (.inr (.inl (by omega)))
  · rw [e73]; exact World.rangeAt_setCells_apart R5.range _ _ _ (.inr (.inl (by rw [vals_len, hp]; omega)))
  · obtain ⟨u, hu⟩ := Option.isSome_iff_exists.1 (T5 73 (by omega)).1
    rw [World.cell?_setCell_same _ _ _ (by simpa using hu), hx]
  · rw [e73]; exact World.there_setCells T5 _ _ _
end Go.Proofs.Ytlknjaoamkcmjaa
/- A hash is asked for its tag, and for its length; the tag of bytes. -/
namespace Go.Proofs.Ytlknjaoamkcmjaa
open Go.ChangeShapes Go.WideShapes Go.ChangeAt Go.RowKit
set_option linter.unusedVariables false
open Plain Sha
attribute [local go_sem ↓] Go.wp_at_zero Go.wp_at_succ
end Go.Proofs.Ytlknjaoamkcmjaa
/- The tag of bytes, as the program's Sum tells it. -/
namespace Go.Proofs.Ytlknjaoamkcmjaa
open Go.ChangeShapes Go.WideShapes Go.ChangeAt Go.RowKit
set_option linter.unusedVariables false
open Plain Sha
theorem below_hash {w w' : World} {b : Nat} (h : w.grownBy w' (some b)) {B : Nat} (hb : B ≤ b) {a : World} (ha : Below B a w) (hB : B ≤ w.heap.size) : Below B a w' := ha.grown h hB (fun k e => by injection e with e; omega)
end Go.Proofs.Ytlknjaoamkcmjaa
/- Two tags are held against each other. -/
namespace Go.Proofs.Ytlknjaoamkcmjaa
open Go.ChangeShapes Go.WideShapes Go.ChangeAt Go.RowKit
set_option linter.unusedVariables false
open Plain Sha
/-- A tag is stored into a new variable: what is known of the world behind it. -/
theorem stored_tag {w w' : World} {T : List Int} (hl : T.length = 32) (h : Hid (w' = (w.alloc (.cells (vals (List.replicate 32 0)).toArray 24)).setCells w.heap.size 0 (vals T).toArray.toList)) :
    w'.rangeAt w.heap.size 0 (vals T) ∧ Below w.heap.size w w' ∧ w.heap.size < w'.heap.size := by
  have e : (vals T).toArray.size = 32 := by rw [List.size_toArray, vals_len, hl]
  have ht : (w.alloc (.cells (vals (List.replicate 32 0)).toArray 24)).there w.heap.size 0 (vals T).toArray.size := by
    rw [e]; simpa using (Row8.new w (List.replicate 32 0) 24).there
  rw [h.out]
  refine ⟨World.rangeAt_setCells_same _ _ _ _ ht, ?_, ?_⟩
  · have : ∀ (vs : List Value) (o : Nat) (u : World), Below w.heap.size w u → Below w.heap.size w (u.setCells w.heap.size o vs) := by
      intro vs
      induction vs with
      | nil => intro o u hu; exact hu
      | cons v r ih => intro o u hu; rw [World.setCells]; exact ih _ _ (hu.setCell (Nat.le_refl _) _)
    exact this _ _ _ ((Below.refl _ _).alloc (Nat.le_refl _) _)
  · have : ∀ (vs : List Value) (o : Nat) (u : World), (u.setCells w.heap.size o vs).heap.size = u.heap.size := by
      intro vs
      induction vs with
      | nil => intro o u; rfl
      | cons v r ih => intro o u; rw [World.setCells, ih]; simp [World.setCell]
    rw [this]; simp
theorem tag_there (w : World) (T : List Int) (hl : T.length = 32) : (w.alloc (.cells (vals (List.replicate 32 0)).toArray 24)).there w.heap.size 0 (vals T).toArray.size := by
  have e : (vals T).toArray.size = 32 := by rw [List.size_toArray, vals_len, hl]
  rw [e]; simpa using (Row8.new w (List.replicate 32 0) 24).there
theorem tag_size (T : List Int) (hl : T.length = 32) : (Try.prog.info? 24).map (·.size) = some (vals T).length := by rw [vals_len, hl]; kernel_rfl
end Go.Proofs.Ytlknjaoamkcmjaa
/- The hash, reckoned fast: for the kernel; it is the same. The tags of the examples; of up to 200 noughts all are unlike. -/
namespace Go.Proofs.Ytlknjaoamkcmjaa.Sha
open Go.Proofs.Ytlknjaoamkcmjaa.Plain
set_option linter.unusedVariables false
end Go.Proofs.Ytlknjaoamkcmjaa.Sha
