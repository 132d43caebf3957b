/- The link at a place. -/
import Derived.Test.YtkaojhcmdichfaaDoorAuB
namespace Go.Proofs.YtkaojhcmdichfaaDoor
open Go.ChangeShapes Go.WideShapes Go.ChangeAt Go.RowKit
set_option linter.unusedVariables false
set_option linter.unusedSimpArgs false
open Plain Sha Au
/-- A new link's cells. -/
def zLc : Array Value := (lc l0).toArray
theorem zLc_size : zLc.size = 71 := by unfold zLc; rw [List.size_toArray, lc_len]
theorem zLc_ne : ¬ zLc = #[] := fun h => by have := zLc_size; rw [h] at this; simp at this
theorem zLk (w : World) : (zeroValue 26).run Tryd.prog w = .ok (.agg zLc) w := by
  obtain ⟨i, hi, hz, hs, hb⟩ := info_parts (show (Tryd.prog.info? 26).map (fun i => (i.zero, i.size, i.bytes)) = some (some (.agg (lc l0).toArray), 71, 120) by kernel_rfl)
  simp [zeroValue, run_typeInfo w hi, hz, zLc]
theorem lthere_new (w : World) (g : LinkZ) (y : TypeId) (k : Nat) (hk : w.heap.size = k) : (w.alloc (.cells zLc y)).there k 0 (lc g).toArray.size := (lbox_new w l0 y k hk).thereA g
/-- A link is stored into a new variable. -/
theorem lbox_stored {w w' : World} {x : LinkZ} {g : Nat} {y : TypeId} (hg : w.heap.size = g) (h : Hid (w' = (w.alloc (.cells zLc y)).setCells g 0 (lc x).toArray.toList)) :
    LBox w' g x ∧ Below w.heap.size w w' ∧ g < w'.heap.size := by
  subst hg
  have b := lbox_new w l0 y _ rfl
  have hb : Below w.heap.size w w' := by rw [h.out]; exact below_setCells (Nat.le_refl _) _ _ _ ((Below.refl _ _).alloc (Nat.le_refl _) _)
  have hx : LBox w' w.heap.size x := by rw [h.out]; exact b.store x
  exact ⟨hx, hb, hx.lt⟩
set_option maxRecDepth 100000 in
set_option maxHeartbeats 1000000 in
theorem at_low {w : World} (A : Option Addr) (n c : Nat) (i : Int) (hi : i < 1) (hn : n ≤ maxLen) :
    Calls Tryd.prog 13 #[.slice A n c, .int .i64 i] w (fun e w' => e = .returned (.tuple #[.agg (lc l0).toArray, .int .i64 130]) ∧ Below w.heap.size w w') := by
  obtain ⟨W1, hW1⟩ : ∃ W, W = w.alloc (.cells zLc 26) := ⟨_, rfl⟩
  have b1 : Below w.heap.size w W1 := by rw [hW1]; exact (Below.refl _ _).alloc (Nat.le_refl _) _
  have t1 : Hid (W1.there w.heap.size 0 (lc l0).toArray.size) := Lib.hid (by rw [hW1]; exact lthere_new w l0 _ _ rfl)
  have B1 := Lib.hid b1
  have HW1 := Lib.hid hW1
  have hnm : n ≤ 9223372036854775807 := by unfold maxLen at hn; exact hn
  have G1 := t1
  have G2 := t1
  clear hW1 b1 hn
  have zk := zLk
  have zs := zLc_size
  have zn := zLc_ne
  go_enter Tryd.func13, Tryd.ntmps13
  go_upto_region 1 with fail
  rw [← HW1.out]
  clear zk zs zn
  go_wp2_with (first
      | (have g := G1; clear g; refine wpList_exec (op := ⟨some 14, .build 26 #[], _, _, _, _⟩) rfl (.agg (lc l0).toArray) (by kernel_rfl) ?_; clear G1)
      | (have g := G2; clear g; refine wpList_store_as (op := ⟨none, .store 26 (.tmp 4) (.tmp 14), _, _, _, _⟩) rfl 26 (.tmp 4) (.tmp 14) rfl (w.heap.size) 0 (lc l0).toArray rfl rfl (t1.out) (lk_sizeA l0) (lk_one l0) ?_; intro w2 hw2; clear G2))
  have R2 : w2.rangeAt w.heap.size 0 (lc l0) := by rw [hw2.out]; exact World.rangeAt_setCells_same _ _ _ _ t1.out
  have b2 : Below w.heap.size w w2 := by rw [hw2.out]; exact below_setCells (Nat.le_refl _) _ _ _ B1.out
  exact bodyPost_ret (v := .tuple #[.agg (lc l0).toArray, .int .i64 130]) (results_mid_tmp (p := 4) (u := 5) (ty := 26) rfl _ _ w.heap.size 0 (lc l0) _ rfl R2 Tryd.underlying26 rfl (lk_size l0)) rfl ⟨rfl, b2⟩
set_option maxRecDepth 100000 in
set_option maxHeartbeats 1000000 in
theorem at_high {w : World} (A : Option Addr) (n c : Nat) (i : Int) (h1 : ¬ i < 1) (hi : (n : Int) < i) (hn : n ≤ maxLen) :
    Calls Tryd.prog 13 #[.slice A n c, .int .i64 i] w (fun e w' => e = .returned (.tuple #[.agg (lc l0).toArray, .int .i64 130]) ∧ Below w.heap.size w w') := by
  obtain ⟨W1, hW1⟩ : ∃ W, W = w.alloc (.cells zLc 26) := ⟨_, rfl⟩
  have b1 : Below w.heap.size w W1 := by rw [hW1]; exact (Below.refl _ _).alloc (Nat.le_refl _) _
  have t1 : Hid (W1.there w.heap.size 0 (lc l0).toArray.size) := Lib.hid (by rw [hW1]; exact lthere_new w l0 _ _ rfl)
  have B1 := Lib.hid b1
  have HW1 := Lib.hid hW1
  have hnm : n ≤ 9223372036854775807 := by unfold maxLen at hn; exact hn
  have G1 := t1
  have G2 := t1
  clear hW1 b1 hn
  have zk := zLk
  have zs := zLc_size
  have zn := zLc_ne
  go_enter Tryd.func13, Tryd.ntmps13
  go_upto_region 1 with fail
  rw [← HW1.out]
  clear zk zs zn
  go_wp2_with (first
      | (have g := G1; clear g; refine wpList_exec (op := ⟨some 14, .build 26 #[], _, _, _, _⟩) rfl (.agg (lc l0).toArray) (by kernel_rfl) ?_; clear G1)
      | (have g := G2; clear g; refine wpList_store_as (op := ⟨none, .store 26 (.tmp 4) (.tmp 14), _, _, _, _⟩) rfl 26 (.tmp 4) (.tmp 14) rfl (w.heap.size) 0 (lc l0).toArray rfl rfl (t1.out) (lk_sizeA l0) (lk_one l0) ?_; intro w2 hw2; clear G2))
  have R2 : w2.rangeAt w.heap.size 0 (lc l0) := by rw [hw2.out]; exact World.rangeAt_setCells_same _ _ _ _ t1.out
  have b2 : Below w.heap.size w w2 := by rw [hw2.out]; exact below_setCells (Nat.le_refl _) _ _ _ B1.out
  exact bodyPost_ret (v := .tuple #[.agg (lc l0).toArray, .int .i64 130]) (results_mid_tmp (p := 4) (u := 5) (ty := 26) rfl _ _ w.heap.size 0 (lc l0) _ rfl R2 Tryd.underlying26 rfl (lk_size l0)) rfl ⟨rfl, b2⟩
set_option maxRecDepth 100000 in
set_option maxHeartbeats 1000000 in
theorem at_yes {w : World} {B n k : Nat} {A : Option Addr} (c : Nat) {l : List LinkZ} (h : Lks w B A n l) (hB : B ≤ w.heap.size) (hn : n ≤ maxLen) (g : LinkZ) (hk : l[k]? = some g) :
    Calls Tryd.prog 13 #[.slice A n c, .int .i64 ((k : Int) + 1)] w (fun e w' => e = .returned (.tuple #[.agg (lc g).toArray, .int .i64 0]) ∧ Below w.heap.size w w') := by
  obtain ⟨W1, hW1⟩ : ∃ W, W = w.alloc (.cells zLc 26) := ⟨_, rfl⟩
  have b1 : Below w.heap.size w W1 := by rw [hW1]; exact (Below.refl _ _).alloc (Nat.le_refl _) _
  have t1 : Hid (W1.there w.heap.size 0 (lc g).toArray.size) := Lib.hid (by rw [hW1]; exact lthere_new w g _ _ rfl)
  have B1 := Lib.hid b1
  have HW1 := Lib.hid hW1
  have hnm : n ≤ 9223372036854775807 := by unfold maxLen at hn; exact hn
  have G1 := t1
  have G2 := t1
  have hkn : k < n := by rw [← h.len]; exact (List.getElem?_eq_some_iff.1 hk).1
  obtain ⟨b, off, g', rfl, hb, HG, _, hr⟩ := (h.below b1 hB).at_ hkn
  have hgg : g' = g := by have := HG.out; rw [hk] at this; injection this with e; exact e.symm
  rw [hgg] at hr
  have HR := Lib.hid hr
  have e0 : ¬ ((k : Int) + 1 < 1) := by omega
  have e1 : ¬ ((n : Int) < (k : Int) + 1) := by omega
  have e2 : (k : Int) + 1 - 1 = (k : Int) := by omega
  clear HG hgg hr h hk
  clear hW1 b1 hn
  have zk := zLk
  have zs := zLc_size
  have zn := zLc_ne
  go_enter Tryd.func13, Tryd.ntmps13
  go_upto_region 1 with fail
  rw [← HW1.out]
  clear zk zs zn
  go_wp2_with (first
      | (have g := G1; clear g; refine wpList_load_mid (op := ⟨some 19, .load 26 (.tmp 18), _, _, _, _⟩) rfl 26 (.tmp 18) rfl (b) (off + k * 71) rfl (lc g) _ (HR.out) Tryd.underlying26 rfl (lk_size g) ?_; clear G1)
      | (have g := G2; clear g; refine wpList_store_as (op := ⟨none, .store 26 (.tmp 4) (.tmp 19), _, _, _, _⟩) rfl 26 (.tmp 4) (.tmp 19) rfl (w.heap.size) 0 (lc g).toArray rfl rfl (t1.out) (lk_sizeA g) (lk_one g) ?_; intro w2 hw2; clear G2))
  have R2 : w2.rangeAt w.heap.size 0 (lc g) := by rw [hw2.out]; exact World.rangeAt_setCells_same _ _ _ _ t1.out
  have b2 : Below w.heap.size w w2 := by rw [hw2.out]; exact below_setCells (Nat.le_refl _) _ _ _ B1.out
  exact bodyPost_ret (v := .tuple #[.agg (lc g).toArray, .int .i64 0]) (results_mid_tmp (p := 4) (u := 5) (ty := 26) rfl _ _ w.heap.size 0 (lc g) _ rfl R2 Tryd.underlying26 rfl (lk_size g)) rfl ⟨rfl, b2⟩
end Go.Proofs.YtkaojhcmdichfaaDoor
