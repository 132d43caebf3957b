/- A window in which a number has come, too: the program's with. -/
import Derived.Test.YtnnfcbcjepbjiaaWnM
import Derived.Deep.DeepCutAuto
import Derived.Deep.CutRange
import Derived.Lib.MinMax
namespace Go.Proofs.Ytnnfcbcjepbjiaa
open Go.ChangeShapes Go.WideShapes Go.ChangeAt Go.RowKit
set_option linter.unusedVariables false
set_option linter.unusedSimpArgs false
open Plain Sha Wn
set_option maxRecDepth 100000 in
set_option maxHeartbeats 1000000 in
theorem with_old {w : World} (x : WZ) (k n : Int) (h : k < x.boot ∨ (k = x.boot ∧ n ≤ x.top - 64)) (hx : 0 ≤ x.top ∧ x.top ≤ 9223372036854775807) :
    Calls Try.prog 18 #[.agg (wc x).toArray, .int .i64 k, .int .i64 n] w (fun e w' => e = .returned (.agg (wc x).toArray) ∧ Below w.heap.size w w') := by
  obtain ⟨W1, hW1⟩ : ∃ W, W = (w.alloc (.cells (wc x).toArray 40)).alloc (.cells zWc 40) := ⟨_, rfl⟩
  have b1 : Below w.heap.size w W1 := by rw [hW1]; exact ((Below.refl _ _).alloc (Nat.le_refl _) _).alloc (by simp) _
  have x1 : WBox W1 w.heap.size x := by
    rw [hW1]
    exact (wbox_new w x 40 _ rfl).grow ((Below.refl _ _).alloc (Nat.le_refl _) _)
  have t1 : Hid (W1.there (w.heap.size + 1) 0 (wc x).toArray.size) := Lib.hid (by rw [hW1]; exact wthere_new _ x _ _ (by simp))
  have B1 := Lib.hid b1
  have HW1 := Lib.hid hW1
  have X1 := Lib.hid x1
  have c1 := x1.c1
  have c2 := x1.c2
  have G1 := t1
  have G2 := t1
  clear hW1 b1 x1
  have zk := zWk
  have zs := zWc_size
  have zn := zWc_ne
  go_enter Try.func18, Try.ntmps18
  go_upto_region 1 with fail
  rw [← HW1.out]
  clear zk zs zn
  have e0 : ¬ x.boot < k := by omega
  rcases h with h | ⟨h, h'⟩
  · go_wp2_with (first
      | (have g := G1; clear g; refine wpList_load_mid (op := ⟨some 25, .load 40 (.tmp 3), _, _, _, _⟩) rfl 40 (.tmp 3) rfl (w.heap.size) 0 rfl (wc x) _ (X1.out.range) Try.underlying40 rfl (wn_size x) ?_; clear G1)
      | (have g := G2; clear g; refine wpList_store_as (op := ⟨none, .store 40 (.tmp 6) (.tmp 25), _, _, _, _⟩) rfl 40 (.tmp 6) (.tmp 25) rfl (w.heap.size + 1) 0 (wc x).toArray rfl rfl (t1.out) (wn_sizeA x) (wn_one x) ?_; intro w2 hw2; clear G2))
    have R2 : w2.rangeAt (w.heap.size + 1) 0 (wc x) := by rw [hw2.out]; exact World.rangeAt_setCells_same _ _ _ _ t1.out
    have b2 : Below w.heap.size w w2 := by rw [hw2.out]; exact below_setCells (by omega) _ _ _ B1.out
    exact bodyPost_ret (v := .agg (wc x).toArray) (results_mid (p := 6) (ty := 40) rfl _ _ (w.heap.size + 1) 0 (wc x) _ rfl R2 Try.underlying40 rfl (wn_size x)) rfl ⟨rfl, b2⟩
  · subst h
    have e1 : ¬ x.boot < x.boot := by omega
    go_wp2_with (first
      | (have g := G1; clear g; refine wpList_load_mid (op := ⟨some 25, .load 40 (.tmp 3), _, _, _, _⟩) rfl 40 (.tmp 3) rfl (w.heap.size) 0 rfl (wc x) _ (X1.out.range) Try.underlying40 rfl (wn_size x) ?_; clear G1)
      | (have g := G2; clear g; refine wpList_store_as (op := ⟨none, .store 40 (.tmp 6) (.tmp 25), _, _, _, _⟩) rfl 40 (.tmp 6) (.tmp 25) rfl (w.heap.size + 1) 0 (wc x).toArray rfl rfl (t1.out) (wn_sizeA x) (wn_one x) ?_; intro w2 hw2; clear G2))
    have R2 : w2.rangeAt (w.heap.size + 1) 0 (wc x) := by rw [hw2.out]; exact World.rangeAt_setCells_same _ _ _ _ t1.out
    have b2 : Below w.heap.size w w2 := by rw [hw2.out]; exact below_setCells (by omega) _ _ _ B1.out
    exact bodyPost_ret (v := .agg (wc x).toArray) (results_mid (p := 6) (ty := 40) rfl _ _ (w.heap.size + 1) 0 (wc x) _ rfl R2 Try.underlying40 rfl (wn_size x)) rfl ⟨rfl, b2⟩
end Go.Proofs.Ytnnfcbcjepbjiaa
