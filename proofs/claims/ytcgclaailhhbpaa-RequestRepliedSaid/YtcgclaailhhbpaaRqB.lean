/- What each Op asks for: the program's array of functions. -/
import Derived.Test.YtcgclaailhhbpaaRqA
namespace Go.Proofs.Ytcgclaailhhbpaa
open Go.ChangeShapes Go.WideShapes Go.ChangeAt Go.RowKit
set_option linter.unusedVariables false
set_option linter.unusedSimpArgs false
set_option maxRecDepth 100000
open Plain Sha Au Rp Rq
/-- A closure over two numbers that stand in blocks g and g + 1. -/
def cS (g : Nat) : Value := .func (.func 89) #[] #[.pointer (some ⟨g, 0, none⟩), .pointer (some ⟨g + 1, 0, none⟩)]
def cI (g : Nat) : Value := .func (.func 90) #[] #[.pointer (some ⟨g, 0, none⟩), .pointer (some ⟨g + 1, 0, none⟩)]
def two (w : World) (g : Nat) (lo hi : Int) : Prop := w.cell? ⟨g, 0, none⟩ = some (.int .i64 lo) ∧ w.cell? ⟨g + 1, 0, none⟩ = some (.int .i64 hi)
theorem two_new (w : World) (lo hi : Int) (t : TypeId) : two ((w.alloc (.cells #[.int .i64 lo] t)).alloc (.cells #[.int .i64 hi] t)) w.heap.size lo hi := by
  refine ⟨?_, ?_⟩
  · rw [(below_one _ _).cell (by simp), cell_of_row _ _ _ _ _ _ (heap_alloc_new w _)]; rfl
  · rw [cell_of_row _ _ _ _ _ _ (by have := heap_alloc_new (w.alloc (.cells #[.int .i64 lo] t)) (.cells #[.int .i64 hi] t); simpa using this)]; rfl
theorem two.grow {w w' : World} {g : Nat} {lo hi : Int} (h : two w g lo hi) (hb : Below w.heap.size w w') : two w' g lo hi :=
  ⟨(hb.cell (p := ⟨g, 0, none⟩) (World.block_lt_of_cell? _ _ h.1)).trans h.1, (hb.cell (p := ⟨g + 1, 0, none⟩) (World.block_lt_of_cell? _ _ h.2)).trans h.2⟩
theorem two.s {w : World} {g : Nat} {lo hi : Int} (h : two w g lo hi) : FnS w (cS g) (fun s => inB (s.size : Nat) lo hi) := .inr ⟨g, g + 1, lo, hi, rfl, h.1, h.2, rfl⟩
theorem two.i {w : World} {g : Nat} {lo hi : Int} (h : two w g lo hi) : FnI w (cI g) (fun n => inB n lo hi) := .inr ⟨g, g + 1, lo, hi, rfl, h.1, h.2, rfl⟩
theorem length_any (w : World) (lo hi : Int) : Calls Try.prog 66 #[.int .i64 lo, .int .i64 hi] w (fun e w' => e = .returned (cS w.heap.size) ∧ two w' w.heap.size lo hi ∧ Below w.heap.size w w' ∧ w'.heap.size = w.heap.size + 2) := by
  have HT := Lib.hid (two_new w lo hi 3)
  have HB := Lib.hid (show Below w.heap.size w ((w.alloc (.cells #[.int .i64 lo] 3)).alloc (.cells #[.int .i64 hi] 3)) from (below_one w _).alloc (by simp) _)
  go_enter Try.func66, Try.ntmps66
  go_wp2
  go_ret
  exact ⟨rfl, HT.out, HB.out, by simp⟩
theorem from_any (w : World) (lo hi : Int) : Calls Try.prog 67 #[.int .i64 lo, .int .i64 hi] w (fun e w' => e = .returned (cI w.heap.size) ∧ two w' w.heap.size lo hi ∧ Below w.heap.size w w' ∧ w'.heap.size = w.heap.size + 2) := by
  have HT := Lib.hid (two_new w lo hi 3)
  have HB := Lib.hid (show Below w.heap.size w ((w.alloc (.cells #[.int .i64 lo] 3)).alloc (.cells #[.int .i64 hi] 3)) from (below_one w _).alloc (by simp) _)
  go_enter Try.func67, Try.ntmps67
  go_wp2
  go_ret
  exact ⟨rfl, HT.out, HB.out, by simp⟩
/-- What an Op asks for, as eight functions. -/
def ak (a b c d e f g h : Value) : List Value := [a, b, c, d, e, f, g, h]
def n8 : List Value := ak .nilFunc .nilFunc .nilFunc .nilFunc .nilFunc .nilFunc .nilFunc .nilFunc
/-- The array: its functions' numbers stand from block h on. -/
def askRow (h : Nat) (k : Nat) : List Value :=
  if k = 1 then ak (cS h) .nilFunc .nilFunc .nilFunc .nilFunc .nilFunc .nilFunc .nilFunc
  else if k = 2 then ak (cS h) (cS (h + 2)) .nilFunc .nilFunc .nilFunc .nilFunc .nilFunc .nilFunc
  else if k = 3 then ak (cS h) (cS (h + 2)) (cS (h + 2)) .nilFunc .nilFunc .nilFunc .nilFunc .nilFunc
  else if k = 4 then ak (cS h) .nilFunc .nilFunc .nilFunc .nilFunc .nilFunc .nilFunc .nilFunc
  else if k = 5 then ak (cS (h + 10)) .nilFunc .nilFunc (cI (h + 12)) .nilFunc .nilFunc .nilFunc .nilFunc
  else if k = 6 then ak .nilFunc .nilFunc .nilFunc .nilFunc (cI (h + 4)) (cI (h + 8)) (cI (h + 8)) .nilFunc
  else if k = 7 then ak .nilFunc .nilFunc .nilFunc .nilFunc (cI (h + 4)) (cI (h + 8)) (cI (h + 8)) .nilFunc
  else if k = 8 then ak .nilFunc .nilFunc .nilFunc .nilFunc (cI (h + 6)) .nilFunc .nilFunc (.func (.func 68) #[] #[])
  else if k = 9 then ak .nilFunc .nilFunc .nilFunc (cI (h + 8)) (cI (h + 6)) .nilFunc .nilFunc .nilFunc
  else if k = 10 then ak .nilFunc .nilFunc .nilFunc (cI (h + 8)) .nilFunc .nilFunc .nilFunc .nilFunc
  else n8
def askC (h : Nat) : List Value := askRow h 0 ++ askRow h 1 ++ askRow h 2 ++ askRow h 3 ++ askRow h 4 ++ askRow h 5 ++ askRow h 6 ++ askRow h 7 ++ askRow h 8 ++ askRow h 9 ++ askRow h 10
theorem askC_len (h : Nat) : (askC h).length = 88 := rfl
def zA : Array Value := (n8 ++ n8 ++ n8 ++ n8 ++ n8 ++ n8 ++ n8 ++ n8 ++ n8 ++ n8 ++ n8).toArray
theorem zA_size : zA.size = 88 := rfl
theorem zA_ne : ¬ zA = #[] := fun h => by have := zA_size; rw [h] at this; simp at this
theorem zAk (w : World) : (zeroValue 77).run Try.prog w = .ok (.agg zA) w := by
  obtain ⟨i, hi, hz, hs, hb⟩ := info_parts (show (Try.prog.info? 77).map (fun i => (i.zero, i.size, i.bytes)) = some (some (.agg zA), 88, 704) by kernel_rfl)
  simp [zeroValue, run_typeInfo w hi, hz]
theorem a_size (h : Nat) : (Try.prog.info? 77).map (·.size) = some (askC h).length := by rw [askC_len]; kernel_rfl
theorem a_sizeA (h : Nat) : (Try.prog.info? 77).map (·.size) = some (askC h).toArray.size := by rw [List.size_toArray]; exact a_size h
theorem askRow_one (h k : Nat) : (askRow h k).all (·.oneCell') = true := by
  unfold askRow
  repeat' split
  all_goals rfl
theorem a_oneA (h : Nat) : (askC h).toArray.all (·.oneCell') = true := by
  rw [List.all_toArray]
  unfold askC
  simp only [List.all_append, askRow_one, Bool.and_self]
/-- The numbers that the array's functions know. -/
structure AskAt (w : World) (h : Nat) : Prop where
  k1 : two w h 1 24
  k2 : two w (h + 2) 0 64
  k3 : two w (h + 4) 1 8
  k4 : two w (h + 6) 0 8
  k5 : two w (h + 8) 0 65536
  k6 : two w (h + 10) 0 24
  k7 : two w (h + 12) 1 16
theorem AskAt.grow {w w' : World} {h : Nat} (a : AskAt w h) (hb : Below w.heap.size w w') : AskAt w' h := ⟨a.k1.grow hb, a.k2.grow hb, a.k3.grow hb, a.k4.grow hb, a.k5.grow hb, a.k6.grow hb, a.k7.grow hb⟩
end Go.Proofs.Ytcgclaailhhbpaa
