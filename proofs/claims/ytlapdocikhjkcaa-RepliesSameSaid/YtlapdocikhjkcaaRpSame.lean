/- The statement RepliesSame: the walk. -/
import Derived.Test.YtlapdocikhjkcaaRpT
namespace Go.Proofs.Ytlapdocikhjkcaa
open Go.ChangeShapes Go.WideShapes Go.ChangeAt Go.RowKit
set_option linter.unusedVariables false
set_option linter.unusedSimpArgs false
open Plain Sha Au Rp
set_option maxRecDepth 100000 in
set_option maxHeartbeats 16000000 in
theorem rpsame_in (A1 : Option Addr) (n1 c1 : Nat) (la : List LX) (A2 : Option Addr) (n2 c2 : Nat) (lb : List LX) (r y : RX) (w : World) (h1 : Las w w.heap.size A1 n1 la) (hn1 : n1 ≤ 140737488355328) (hk1 : ∀ x, x ∈ la → x.r.kn ≤ 140737488355328) (h2 : Las w w.heap.size A2 n2 lb) (hn2 : n2 ≤ 140737488355328) (hk2 : ∀ x, x ∈ lb → x.r.kn ≤ 140737488355328) (hr : ROk w w.heap.size r) (hrk : r.kn ≤ 140737488355328) (hy : ROk w w.heap.size y) (hyk : y.kn ≤ 140737488355328) :
    Calls Try.prog 5 #[.slice A1 n1 c1, .slice A2 n2 c2, .agg (rc r).toArray, .agg (rc y).toArray] w (fun e w' => e = .returned (.bool true) ∧ Below w.heap.size w w') := by
  obtain ⟨W1, hW1⟩ : ∃ W, W = (w.alloc (.cells (rc r).toArray 33)).alloc (.cells (rc y).toArray 33) := ⟨_, rfl⟩
  have b1 := Lib.hid (show Below w.heap.size w W1 by rw [hW1]; exact ((Below.refl _ _).alloc (Nat.le_refl _) _).alloc (by simp) _)
  have V1 : Hid (VBox W1 w.heap.size 75 (rc r)) := Lib.hid (by rw [hW1]; exact (vbox_new w (rc r) _ _ 75 rfl (rc_len _) (by omega)).grow (below_one _ _))
  have V2 : Hid (VBox W1 (w.heap.size + 1) 75 (rc y)) := Lib.hid (by rw [hW1]; exact vbox_new _ _ _ _ _ (by simp) (rc_len _) (by omega))
  obtain ⟨_, _, p2, _, _⟩ := rng_r V1.out.range
  obtain ⟨_, _, q2, _, _⟩ := rng_r V2.out.range
  simp only [Nat.zero_add] at p2 q2
  have HW1 := Lib.hid hW1
  obtain ⟨qa, hqa⟩ : ∃ q, greatB n1 la = q := ⟨_, rfl⟩
  obtain ⟨qb, hqb⟩ : ∃ q, greatB n2 lb = q := ⟨_, rfl⟩
  have GA := Lib.hid (great_val c1 qa (h1.below b1.out (Nat.le_refl _)) hn1 hk1 hqa)
  have GB := Lib.hid (great_val c2 qb (h2.below b1.out (Nat.le_refl _)) hn2 hk2 hqb)
  have G1 := V1
  have G2 := V1
  cases qa with
  | true =>
    clear hW1 h1 h2 hk1 hk2 hr hy hqa hqb
    go_enter Try.func5, Try.ntmps5
    go_upto_region 1 with fail
    rw [← HW1.out]
    go_wp2_with (have g0 := G1; clear g0; go_at_call 8; refine GA.out.mono ?_; rintro e1 w1 ⟨rfl, hw1⟩; obtain rfl : W1 = w1 := hw1.symm; clear G1)
    go_ret
    exact ⟨rfl, b1.out⟩
  | false =>
  cases qb with
  | true =>
    clear hW1 h1 h2 hk1 hk2 hr hy hqa hqb
    go_enter Try.func5, Try.ntmps5
    go_upto_region 1 with fail
    rw [← HW1.out]
    go_wp2_with (first
          | (have g0 := G1; clear g0; go_at_call 8; refine GA.out.mono ?_; rintro e1 w1 ⟨rfl, hw1⟩; obtain rfl : W1 = w1 := hw1.symm; clear G1)
          | (have g0 := G2; clear g0; go_at_call 8; refine GB.out.mono ?_; rintro e2 w2 ⟨rfl, hw2⟩; obtain rfl : W1 = w2 := hw2.symm; clear G2))
    go_ret
    exact ⟨rfl, b1.out⟩
  | false =>
  by_cases hr1 : 100 < r.kn
  · have hr1I : 100 < (r.kn : Int) := by omega
    clear hW1 h1 h2 hk1 hk2 hr hy hqa hqb
    go_enter Try.func5, Try.ntmps5
    go_upto_region 1 with fail
    rw [← HW1.out]
    go_wp2_with (first
          | (have g0 := G1; clear g0; go_at_call 8; refine GA.out.mono ?_; rintro e1 w1 ⟨rfl, hw1⟩; obtain rfl : W1 = w1 := hw1.symm; clear G1)
          | (have g0 := G2; clear g0; go_at_call 8; refine GB.out.mono ?_; rintro e2 w2 ⟨rfl, hw2⟩; obtain rfl : W1 = w2 := hw2.symm; clear G2))
    go_ret
    exact ⟨rfl, b1.out⟩
  have hr1I : ¬ 100 < (r.kn : Int) := by omega
  by_cases hy1 : 100 < y.kn
  · have hy1I : 100 < (y.kn : Int) := by omega
    clear hW1 h1 h2 hk1 hk2 hr hy hqa hqb
    go_enter Try.func5, Try.ntmps5
    go_upto_region 1 with fail
    rw [← HW1.out]
    go_wp2_with (first
          | (have g0 := G1; clear g0; go_at_call 8; refine GA.out.mono ?_; rintro e1 w1 ⟨rfl, hw1⟩; obtain rfl : W1 = w1 := hw1.symm; clear G1)
          | (have g0 := G2; clear g0; go_at_call 8; refine GB.out.mono ?_; rintro e2 w2 ⟨rfl, hw2⟩; obtain rfl : W1 = w2 := hw2.symm; clear G2))
    go_ret
    exact ⟨rfl, b1.out⟩
  have hy1I : ¬ 100 < (y.kn : Int) := by omega
  obtain ⟨hna, hka⟩ := great_no hqa
  obtain ⟨hnb, hkb⟩ := great_no hqb
  have HWS := Lib.hid b1.out.size
  have HA := Lib.hid (fun (V : World) (hV : Below W1.heap.size W1 V) => (h1.below b1.out (Nat.le_refl _)).below hV b1.out.size)
  have HB := Lib.hid (fun (V : World) (hV : Below W1.heap.size W1 V) => (h2.below b1.out (Nat.le_refl _)).below hV b1.out.size)
  have HR := Lib.hid (fun (V : World) (hV : Below W1.heap.size W1 V) => (hr.below b1.out (Nat.le_refl _)).below hV b1.out.size)
  have HT := Lib.hid (fun (V : World) (hV : Below W1.heap.size W1 V) => (hy.below b1.out (Nat.le_refl _)).below hV b1.out.size)
  have TA := Lib.hid (fun (V : World) (hV : Below W1.heap.size W1 V) => to_any c1 (HA.out V hV) (Nat.le_trans HWS.out hV.size) (by omega) (fun x hx => Nat.le_trans (hka x hx) (by omega)))
  have TB := Lib.hid (fun (V : World) (hV : Below W1.heap.size W1 V) => to_any c2 (HB.out V hV) (Nat.le_trans HWS.out hV.size) (by omega) (fun x hx => Nat.le_trans (hkb x hx) (by omega)))
  obtain ⟨s, hs⟩ : ∃ s, tabB (la.map LX.z) (lb.map LX.z) = s := ⟨_, rfl⟩
  obtain ⟨u, hu⟩ : ∃ s, repB r.z y.z = s := ⟨_, rfl⟩
  have HS := Lib.hid hs
  have HU := Lib.hid hu
  have hnx : n1 ≤ 9223372036854775807 := by omega
  clear hW1 h1 h2 hk1 hk2 hr hy hqa hqb hka hkb hs hu
  go_enter Try.func5, Try.ntmps5
  go_upto_region 1 with fail
  rw [← HW1.out]
  go_upto_region 3 with (first
        | (have g0 := G1; clear g0; go_at_call 8; refine GA.out.mono ?_; rintro e1 w1 ⟨rfl, hw1⟩; obtain rfl : W1 = w1 := hw1.symm; clear G1)
        | (have g0 := G2; clear g0; go_at_call 8; refine GB.out.mono ?_; rintro e2 w2 ⟨rfl, hw2⟩; obtain rfl : W1 = w2 := hw2.symm; clear G2))
  clear p2 q2
  refine Late.region (fun w' => Below W1.heap.size W1 w') [] (by kernel_rfl) (Below.refl _ _).drew (fun hHeld => ?_)
  refine Late.take (i := 0) (oi := ⟨some 27, Op.move (Operand.tmp 0), _, _, _, _⟩) (v := ?_) rfl (by kernel_rfl) (by kernel_rfl) (by kernel_rfl) (by kernel_rfl) (fun _ _ _ h => h) (Or.inl ⟨by rfl, fun w hSw => ?_⟩) (by assumption) ?_
  rotate_left
  · (have s1 := hSw; go_simp; try with_reducible rfl)
  try simp only [Act.put, List.setIfInBounds_toArray, List.set_cons_zero, List.set_cons_succ]
  refine Late.take (i := 2) (oi := ⟨some 29, Op.move (Operand.tmp 1), _, _, _, _⟩) (v := ?_) rfl (by kernel_rfl) (by kernel_rfl) (by kernel_rfl) (by kernel_rfl) (fun _ _ _ h => h) (Or.inl ⟨by rfl, fun w hSw => ?_⟩) (by assumption) ?_
  rotate_left
  · (have s1 := hSw; go_simp; try with_reducible rfl)
  try simp only [Act.put, List.setIfInBounds_toArray, List.set_cons_zero, List.set_cons_succ]
  refine Late.take (i := 5) (oi := ⟨some 32, Op.move (Operand.tmp 0), _, _, _, _⟩) (v := ?_) rfl (by kernel_rfl) (by kernel_rfl) (by kernel_rfl) (by kernel_rfl) (fun _ _ _ h => h) (Or.inl ⟨by rfl, fun w hSw => ?_⟩) (by assumption) ?_
  rotate_left
  · (have s1 := hSw; go_simp; try with_reducible rfl)
  try simp only [Act.put, List.setIfInBounds_toArray, List.set_cons_zero, List.set_cons_succ]
  refine Late.take (i := 6) (oi := ⟨some 33, Op.move (Operand.tmp 1), _, _, _, _⟩) (v := ?_) rfl (by kernel_rfl) (by kernel_rfl) (by kernel_rfl) (by kernel_rfl) (fun _ _ _ h => h) (Or.inl ⟨by rfl, fun w hSw => ?_⟩) (by assumption) ?_
  rotate_left
  · (have s1 := hSw; go_simp; try with_reducible rfl)
  try simp only [Act.put, List.setIfInBounds_toArray, List.set_cons_zero, List.set_cons_succ]
  refine Late.one (i := 1) (o := ⟨some 28, Op.call { callee := Callee.value (Operand.func 9), args := #[Operand.tmp 27], argTypes := #[22] }, _, _, _, _⟩) (by kernel_rfl) rfl (fun K hK => ?_)
  go_simp
  refine (TA.out _ hHeld).mono ?_
  rintro e1 v1 ⟨D1, d1, l1, rfl, z1, _, L1, h11, h12, b1⟩
  have S1 := Lib.hid (hHeld.trans (b1.mono hHeld.size))
  have LT1 := Lib.hid (fun (V : World) (hV : Below v1.heap.size v1 V) => L1.below hV (Nat.le_refl _))
  have Z1 := Lib.hid z1
  have BB1 := Lib.hid b1
  clear z1 L1 h11 h12 b1
  refine hK.out _ _ (S1.out) (fun hHeld2 => ?_)
  clear hK K hHeld
  have hHeld := hHeld2
  clear hHeld2
  try simp only [Act.put, List.setIfInBounds_toArray, List.set_cons_zero, List.set_cons_succ]
  refine Late.one (i := 3) (o := ⟨some 30, Op.call { callee := Callee.value (Operand.func 9), args := #[Operand.tmp 29], argTypes := #[22] }, _, _, _, _⟩) (by kernel_rfl) rfl (fun K hK => ?_)
  go_simp
  refine (TB.out _ hHeld).mono ?_
  rintro e3 v3 ⟨D3, d3, l3, rfl, z3, _, L3, h31, h32, b3⟩
  have S3 := Lib.hid (hHeld.trans (b3.mono hHeld.size))
  have LT3 := Lib.hid (fun (V : World) (hV : Below v3.heap.size v3 V) => L3.below hV (Nat.le_refl _))
  have Z3 := Lib.hid z3
  have BB3 := Lib.hid b3
  clear z3 L3 h31 h32 b3
  refine hK.out _ _ (S3.out) (fun hHeld2 => ?_)
  clear hK K hHeld
  have hHeld := hHeld2
  clear hHeld2
  try simp only [Act.put, List.setIfInBounds_toArray, List.set_cons_zero, List.set_cons_succ]
  refine Late.one (i := 4) (o := ⟨some 31, Op.call { callee := Callee.value (Operand.func 22), args := #[Operand.tmp 28, Operand.tmp 30], argTypes := #[24, 24] }, _, _, _, _⟩) (by kernel_rfl) rfl (fun K hK => ?_)
  go_simp
  refine (psame_any (w := v3) d1 d3 s (LT1.out _ BB3.out) (LT3.out _ (Below.refl _ _)) BB3.out.size (Nat.le_refl _) hnx (by rw [Z1.out, Z3.out]; exact HS.out)).mono ?_
  rintro e4 v4 ⟨rfl, b4⟩
  have S4 := Lib.hid (hHeld.trans (b4.mono hHeld.size))
  have BB4 := Lib.hid b4
  clear b4
  refine hK.out _ _ (S4.out) (fun hHeld2 => ?_)
  clear hK K hHeld
  have hHeld := hHeld2
  clear hHeld2
  try simp only [Act.put, List.setIfInBounds_toArray, List.set_cons_zero, List.set_cons_succ]
  refine Late.one (i := 7) (o := ⟨some 34, Op.call { callee := Callee.value (Operand.func 17), args := #[Operand.tmp 32, Operand.tmp 33], argTypes := #[22, 22] }, _, _, _, _⟩) (by kernel_rfl) rfl (fun K hK => ?_)
  go_simp
  refine (rsame_any (w := v4) c1 c2 s (HA.out _ hHeld) (HB.out _ hHeld) (Nat.le_trans HWS.out hHeld.size) (Nat.le_trans HWS.out hHeld.size) hnx HS.out).mono ?_
  rintro e7 v7 ⟨rfl, b7⟩
  have S7 := Lib.hid (hHeld.trans (b7.mono hHeld.size))
  have BB7 := Lib.hid b7
  clear b7
  refine hK.out _ _ (S7.out) (fun hHeld2 => ?_)
  clear hK K hHeld
  have hHeld := hHeld2
  clear hHeld2
  try simp only [Act.put, List.setIfInBounds_toArray, List.set_cons_zero, List.set_cons_succ]
  refine Late.take (i := 8) (oi := ⟨some 35, Op.binOp BinOp.eql 4 (Operand.tmp 31) (Operand.tmp 34) 4, _, _, _, _⟩) (v := ?_) rfl (by kernel_rfl) (by kernel_rfl) (by kernel_rfl) (by kernel_rfl) (fun _ _ _ h => h) (Or.inl ⟨by rfl, fun w hSw => ?_⟩) (by assumption) ?_
  rotate_left
  · (have s1 := hSw; go_simp; try with_reducible rfl)
  try simp only [Act.put, List.setIfInBounds_toArray, List.set_cons_zero, List.set_cons_succ]
  refine Late.take (i := 9) (oi := ⟨some 36, Op.move (Operand.tmp 35), _, _, _, _⟩) (v := ?_) rfl (by kernel_rfl) (by kernel_rfl) (by kernel_rfl) (by kernel_rfl) (fun _ _ _ h => h) (Or.inl ⟨by rfl, fun w hSw => ?_⟩) (by assumption) ?_
  rotate_left
  · (have s1 := hSw; go_simp; try with_reducible rfl)
  try simp only [Act.put, List.setIfInBounds_toArray, List.set_cons_zero, List.set_cons_succ]
  refine Late.take (i := 10) (oi := ⟨some 37, Op.move (Operand.tmp 0), _, _, _, _⟩) (v := ?_) rfl (by kernel_rfl) (by kernel_rfl) (by kernel_rfl) (by kernel_rfl) (fun _ _ _ h => h) (Or.inl ⟨by rfl, fun w hSw => ?_⟩) (by assumption) ?_
  rotate_left
  · (have s1 := hSw; go_simp; try with_reducible rfl)
  try simp only [Act.put, List.setIfInBounds_toArray, List.set_cons_zero, List.set_cons_succ]
  refine Late.take (i := 12) (oi := ⟨some 39, Op.move (Operand.tmp 0), _, _, _, _⟩) (v := ?_) rfl (by kernel_rfl) (by kernel_rfl) (by kernel_rfl) (by kernel_rfl) (fun _ _ _ h => h) (Or.inl ⟨by rfl, fun w hSw => ?_⟩) (by assumption) ?_
  rotate_left
  · (have s1 := hSw; go_simp; try with_reducible rfl)
  try simp only [Act.put, List.setIfInBounds_toArray, List.set_cons_zero, List.set_cons_succ]
  refine Late.one (i := 11) (o := ⟨some 38, Op.call { callee := Callee.value (Operand.func 9), args := #[Operand.tmp 37], argTypes := #[22] }, _, _, _, _⟩) (by kernel_rfl) rfl (fun K hK => ?_)
  go_simp
  refine (TA.out _ hHeld).mono ?_
  rintro e11 v11 ⟨D11, d11, l11, rfl, z11, _, L11, h111, h112, b11⟩
  have S11 := Lib.hid (hHeld.trans (b11.mono hHeld.size))
  have LT11 := Lib.hid (fun (V : World) (hV : Below v11.heap.size v11 V) => L11.below hV (Nat.le_refl _))
  have Z11 := Lib.hid z11
  have BB11 := Lib.hid b11
  clear z11 L11 h111 h112 b11
  refine hK.out _ _ (S11.out) (fun hHeld2 => ?_)
  clear hK K hHeld
  have hHeld := hHeld2
  clear hHeld2
  try simp only [Act.put, List.setIfInBounds_toArray, List.set_cons_zero, List.set_cons_succ]
  refine Late.one (i := 13) (o := ⟨some 40, Op.call { callee := Callee.value (Operand.func 9), args := #[Operand.tmp 39], argTypes := #[22] }, _, _, _, _⟩) (by kernel_rfl) rfl (fun K hK => ?_)
  go_simp
  refine (TA.out _ hHeld).mono ?_
  rintro e13 v13 ⟨D13, d13, l13, rfl, z13, _, L13, h131, h132, b13⟩
  have S13 := Lib.hid (hHeld.trans (b13.mono hHeld.size))
  have LT13 := Lib.hid (fun (V : World) (hV : Below v13.heap.size v13 V) => L13.below hV (Nat.le_refl _))
  have Z13 := Lib.hid z13
  have BB13 := Lib.hid b13
  clear z13 L13 h131 h132 b13
  refine hK.out _ _ (S13.out) (fun hHeld2 => ?_)
  clear hK K hHeld
  have hHeld := hHeld2
  clear hHeld2
  try simp only [Act.put, List.setIfInBounds_toArray, List.set_cons_zero, List.set_cons_succ]
  refine Late.one (i := 14) (o := ⟨some 41, Op.call { callee := Callee.value (Operand.func 22), args := #[Operand.tmp 38, Operand.tmp 40], argTypes := #[24, 24] }, _, _, _, _⟩) (by kernel_rfl) rfl (fun K hK => ?_)
  go_simp
  refine (psame_any (w := v13) d11 d13 true (LT11.out _ BB13.out) (LT13.out _ (Below.refl _ _)) BB13.out.size (Nat.le_refl _) hnx (by rw [Z11.out, Z13.out]; exact tabB_refl _)).mono ?_
  rintro e14 v14 ⟨rfl, b14⟩
  have S14 := Lib.hid (hHeld.trans (b14.mono hHeld.size))
  have BB14 := Lib.hid b14
  clear b14
  refine hK.out _ _ (S14.out) (fun hHeld2 => ?_)
  clear hK K hHeld
  have hHeld := hHeld2
  clear hHeld2
  try simp only [Act.put, List.setIfInBounds_toArray, List.set_cons_zero, List.set_cons_succ]
  refine Late.take (i := 15) (oi := ⟨some 42, Op.pick (Operand.tmp 36) (Operand.tmp 41) (Operand.const (Value.bool false)), _, _, _, _⟩) (v := ?_) rfl (by kernel_rfl) (by kernel_rfl) (by kernel_rfl) (by kernel_rfl) (fun _ _ _ h => h) (Or.inl ⟨by rfl, fun w hSw => ?_⟩) (by assumption) ?_
  rotate_left
  · (have s1 := hSw; go_simp; try with_reducible rfl)
  try simp only [Act.put, List.setIfInBounds_toArray, List.set_cons_zero, List.set_cons_succ]
  refine Late.take (i := 16) (oi := ⟨some 43, Op.move (Operand.tmp 42), _, _, _, _⟩) (v := ?_) rfl (by kernel_rfl) (by kernel_rfl) (by kernel_rfl) (by kernel_rfl) (fun _ _ _ h => h) (Or.inl ⟨by rfl, fun w hSw => ?_⟩) (by assumption) ?_
  rotate_left
  · (have s1 := hSw; go_simp; try with_reducible rfl)
  try simp only [Act.put, List.setIfInBounds_toArray, List.set_cons_zero, List.set_cons_succ]
  refine Late.take (i := 17) (oi := ⟨some 44, Op.load 33 (Operand.tmp 6), _, _, _, _⟩) (v := _) rfl (by kernel_rfl) (by kernel_rfl) (by kernel_rfl) (by kernel_rfl) (fun _ _ _ h => h) (yieldsIf_load_mid (by rfl) _ _ rfl _ _ rfl (rc r) _ (fun W hW => (V1.out.grow hW).range) Try.underlying33 rfl (r_size r)) (by assumption) ?_
  try simp only [Act.put, List.setIfInBounds_toArray, List.set_cons_zero, List.set_cons_succ]
  refine Late.take (i := 18) (oi := ⟨some 45, Op.load 33 (Operand.tmp 7), _, _, _, _⟩) (v := _) rfl (by kernel_rfl) (by kernel_rfl) (by kernel_rfl) (by kernel_rfl) (fun _ _ _ h => h) (yieldsIf_load_mid (by rfl) _ _ rfl _ _ rfl (rc y) _ (fun W hW => (V2.out.grow hW).range) Try.underlying33 rfl (r_size y)) (by assumption) ?_
  try simp only [Act.put, List.setIfInBounds_toArray, List.set_cons_zero, List.set_cons_succ]
  refine Late.take (i := 20) (oi := ⟨some 47, Op.load 33 (Operand.tmp 6), _, _, _, _⟩) (v := _) rfl (by kernel_rfl) (by kernel_rfl) (by kernel_rfl) (by kernel_rfl) (fun _ _ _ h => h) (yieldsIf_load_mid (by rfl) _ _ rfl _ _ rfl (rc r) _ (fun W hW => (V1.out.grow hW).range) Try.underlying33 rfl (r_size r)) (by assumption) ?_
  try simp only [Act.put, List.setIfInBounds_toArray, List.set_cons_zero, List.set_cons_succ]
  refine Late.take (i := 21) (oi := ⟨some 48, Op.load 33 (Operand.tmp 7), _, _, _, _⟩) (v := _) rfl (by kernel_rfl) (by kernel_rfl) (by kernel_rfl) (by kernel_rfl) (fun _ _ _ h => h) (yieldsIf_load_mid (by rfl) _ _ rfl _ _ rfl (rc y) _ (fun W hW => (V2.out.grow hW).range) Try.underlying33 rfl (r_size y)) (by assumption) ?_
  try simp only [Act.put, List.setIfInBounds_toArray, List.set_cons_zero, List.set_cons_succ]
  refine Late.one (i := 19) (o := ⟨some 46, Op.call { callee := Callee.value (Operand.func 23), args := #[Operand.tmp 44, Operand.tmp 45], argTypes := #[33, 33] }, _, _, _, _⟩) (by kernel_rfl) rfl (fun K hK => ?_)
  go_simp
  refine (srep_any (w := v14) u (HR.out _ hHeld) (HT.out _ hHeld) (Nat.le_trans HWS.out hHeld.size) (Nat.le_trans HWS.out hHeld.size) HU.out).mono ?_
  rintro e19 v19 ⟨rfl, b19⟩
  have S19 := Lib.hid (hHeld.trans (b19.mono hHeld.size))
  have BB19 := Lib.hid b19
  clear b19
  refine hK.out _ _ (S19.out) (fun hHeld2 => ?_)
  clear hK K hHeld
  have hHeld := hHeld2
  clear hHeld2
  try simp only [Act.put, List.setIfInBounds_toArray, List.set_cons_zero, List.set_cons_succ]
  refine Late.one (i := 22) (o := ⟨some 49, Op.call { callee := Callee.value (Operand.func 12), args := #[Operand.tmp 47, Operand.tmp 48], argTypes := #[33, 33] }, _, _, _, _⟩) (by kernel_rfl) rfl (fun K hK => ?_)
  go_simp
  refine (rsrep_any (w := v19) u (HR.out _ hHeld) (HT.out _ hHeld) (Nat.le_trans HWS.out hHeld.size) (Nat.le_trans HWS.out hHeld.size) HU.out).mono ?_
  rintro e22 v22 ⟨rfl, b22⟩
  have S22 := Lib.hid (hHeld.trans (b22.mono hHeld.size))
  have BB22 := Lib.hid b22
  clear b22
  refine hK.out _ _ (S22.out) (fun hHeld2 => ?_)
  clear hK K hHeld
  have hHeld := hHeld2
  clear hHeld2
  try simp only [Act.put, List.setIfInBounds_toArray, List.set_cons_zero, List.set_cons_succ]
  refine Late.take (i := 23) (oi := ⟨some 50, Op.binOp BinOp.eql 4 (Operand.tmp 46) (Operand.tmp 49) 4, _, _, _, _⟩) (v := ?_) rfl (by kernel_rfl) (by kernel_rfl) (by kernel_rfl) (by kernel_rfl) (fun _ _ _ h => h) (Or.inl ⟨by rfl, fun w hSw => ?_⟩) (by assumption) ?_
  rotate_left
  · (have s1 := hSw; go_simp; try with_reducible rfl)
  try simp only [Act.put, List.setIfInBounds_toArray, List.set_cons_zero, List.set_cons_succ]
  refine Late.take (i := 24) (oi := ⟨some 51, Op.pick (Operand.tmp 43) (Operand.tmp 50) (Operand.const (Value.bool false)), _, _, _, _⟩) (v := ?_) rfl (by kernel_rfl) (by kernel_rfl) (by kernel_rfl) (by kernel_rfl) (fun _ _ _ h => h) (Or.inl ⟨by rfl, fun w hSw => ?_⟩) (by assumption) ?_
  rotate_left
  · (have s1 := hSw; go_simp; try with_reducible rfl)
  try simp only [Act.put, List.setIfInBounds_toArray, List.set_cons_zero, List.set_cons_succ]
  refine Late.take (i := 25) (oi := ⟨some 52, Op.move (Operand.tmp 51), _, _, _, _⟩) (v := ?_) rfl (by kernel_rfl) (by kernel_rfl) (by kernel_rfl) (by kernel_rfl) (fun _ _ _ h => h) (Or.inl ⟨by rfl, fun w hSw => ?_⟩) (by assumption) ?_
  rotate_left
  · (have s1 := hSw; go_simp; try with_reducible rfl)
  try simp only [Act.put, List.setIfInBounds_toArray, List.set_cons_zero, List.set_cons_succ]
  refine Late.take (i := 26) (oi := ⟨some 53, Op.load 33 (Operand.tmp 6), _, _, _, _⟩) (v := _) rfl (by kernel_rfl) (by kernel_rfl) (by kernel_rfl) (by kernel_rfl) (fun _ _ _ h => h) (yieldsIf_load_mid (by rfl) _ _ rfl _ _ rfl (rc r) _ (fun W hW => (V1.out.grow hW).range) Try.underlying33 rfl (r_size r)) (by assumption) ?_
  try simp only [Act.put, List.setIfInBounds_toArray, List.set_cons_zero, List.set_cons_succ]
  refine Late.take (i := 27) (oi := ⟨some 54, Op.load 33 (Operand.tmp 6), _, _, _, _⟩) (v := _) rfl (by kernel_rfl) (by kernel_rfl) (by kernel_rfl) (by kernel_rfl) (fun _ _ _ h => h) (yieldsIf_load_mid (by rfl) _ _ rfl _ _ rfl (rc r) _ (fun W hW => (V1.out.grow hW).range) Try.underlying33 rfl (r_size r)) (by assumption) ?_
  try simp only [Act.put, List.setIfInBounds_toArray, List.set_cons_zero, List.set_cons_succ]
  refine Late.one (i := 28) (o := ⟨some 55, Op.call { callee := Callee.value (Operand.func 23), args := #[Operand.tmp 53, Operand.tmp 54], argTypes := #[33, 33] }, _, _, _, _⟩) (by kernel_rfl) rfl (fun K hK => ?_)
  go_simp
  refine (srep_any (w := v22) true (HR.out _ hHeld) (HR.out _ hHeld) (Nat.le_trans HWS.out hHeld.size) (Nat.le_trans HWS.out hHeld.size) (repB_refl _)).mono ?_
  rintro e28 v28 ⟨rfl, b28⟩
  have S28 := Lib.hid (hHeld.trans (b28.mono hHeld.size))
  have BB28 := Lib.hid b28
  clear b28
  refine hK.out _ _ (S28.out) (fun hHeld2 => ?_)
  clear hK K hHeld
  have hHeld := hHeld2
  clear hHeld2
  try simp only [Act.put, List.setIfInBounds_toArray, List.set_cons_zero, List.set_cons_succ]
  refine Late.take (i := 29) (oi := ⟨some 56, Op.pick (Operand.tmp 52) (Operand.tmp 55) (Operand.const (Value.bool false)), _, _, _, _⟩) (v := ?_) rfl (by kernel_rfl) (by kernel_rfl) (by kernel_rfl) (by kernel_rfl) (fun _ _ _ h => h) (Or.inl ⟨by rfl, fun w hSw => ?_⟩) (by assumption) ?_
  rotate_left
  · (have s1 := hSw; go_simp; try with_reducible rfl)
  try simp only [Act.put, List.setIfInBounds_toArray, List.set_cons_zero, List.set_cons_succ]
  refine Late.take (i := 30) (oi := ⟨some 57, Op.move (Operand.tmp 56), _, _, _, _⟩) (v := ?_) rfl (by kernel_rfl) (by kernel_rfl) (by kernel_rfl) (by kernel_rfl) (fun _ _ _ h => h) (Or.inl ⟨by rfl, fun w hSw => ?_⟩) (by assumption) ?_
  rotate_left
  · (have s1 := hSw; go_simp; try with_reducible rfl)
  try simp only [Act.put, List.setIfInBounds_toArray, List.set_cons_zero, List.set_cons_succ]
  refine Late.one (i := 31) (o := ⟨some 58, Op.call { callee := Callee.value (Operand.func 19), args := #[], argTypes := #[] }, _, _, _, _⟩) (by kernel_rfl) rfl (fun K hK => ?_)
  go_simp
  refine (awake_any v28).mono ?_
  rintro e31 v31 ⟨rfl, b31⟩
  have S31 := Lib.hid (hHeld.trans (b31.mono hHeld.size))
  have BB31 := Lib.hid b31
  clear b31
  refine hK.out _ _ (S31.out) (fun hHeld2 => ?_)
  clear hK K hHeld
  have hHeld := hHeld2
  clear hHeld2
  try simp only [Act.put, List.setIfInBounds_toArray, List.set_cons_zero, List.set_cons_succ]
  refine Late.take (i := 32) (oi := ⟨some 59, Op.pick (Operand.tmp 57) (Operand.tmp 58) (Operand.const (Value.bool false)), _, _, _, _⟩) (v := ?_) rfl (by kernel_rfl) (by kernel_rfl) (by kernel_rfl) (by kernel_rfl) (fun _ _ _ h => h) (Or.inl ⟨by rfl, fun w hSw => ?_⟩) (by assumption) ?_
  rotate_left
  · (have s1 := hSw; go_simp; try with_reducible rfl)
  try simp only [Act.put, List.setIfInBounds_toArray, List.set_cons_zero, List.set_cons_succ]
  refine Late.take (i := 33) (oi := ⟨some 8, Op.assign (Operand.tmp 59), _, _, _, _⟩) (v := ?_) rfl (by kernel_rfl) (by kernel_rfl) (by kernel_rfl) (by kernel_rfl) (fun _ _ _ h => h) (Or.inl ⟨by rfl, fun w hSw => ?_⟩) (by assumption) ?_
  rotate_left
  · (have s1 := hSw; go_simp; try with_reducible rfl)
  try simp only [Act.put, List.setIfInBounds_toArray, List.set_cons_zero, List.set_cons_succ]
  refine Late.done (by kernel_rfl) ?_ _
  refine NoPanic.normal ?_
  have hq := Lib.hid (b1.out.trans (hHeld.mono b1.out.size))
  go_wp2
  go_ret
  exact ⟨rfl, hq.out⟩
end Go.Proofs.Ytlapdocikhjkcaa
