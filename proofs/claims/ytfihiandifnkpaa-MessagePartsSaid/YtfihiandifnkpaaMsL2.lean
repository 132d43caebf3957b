/- MessageParts. Printed by gen_msl2.py. -/
import Derived.Test.YtfihiandifnkpaaMsT
import Derived.Test.YtfihiandifnkpaaMsX
namespace Go.Proofs.Ytfihiandifnkpaa
open Go.ChangeShapes Go.WideShapes Go.ChangeAt Go.RowKit
set_option linter.unusedVariables false
set_option maxRecDepth 100000
set_option linter.unusedSimpArgs false
open Plain Sha Ms
set_option maxHeartbeats 16000000 in
theorem msparts_in (x : EX) (ep : Int) (A : Option Addr) (n c : Nat) (l : List MemZ) (w : World) (h : EOk w w.heap.size x) (hxn : x.n ≤ 140737488355328) (hep : InM ep) (hms : Mems w w.heap.size A n l) (hc1 : n ≤ c) (hc2 : c ≤ maxLen) (hc3 : n ≤ 140737488355328) : Calls Try.prog 5 #[.agg (ec x).toArray, .agg (gc ep A n c).toArray] w (fun e w' => e = .returned (.bool true) ∧ Below w.heap.size w w') := by
  obtain ⟨W1, hW1⟩ : ∃ W, W = (w.alloc (.cells (ec x).toArray 42)).alloc (.cells (gc ep A n c).toArray 26) := ⟨_, rfl⟩
  have b1 := Lib.hid (show Below w.heap.size w W1 by rw [hW1]; exact ((Below.refl _ _).alloc (Nat.le_refl _) _).alloc (by simp) _)
  obtain ⟨g, hg⟩ : ∃ g, w.heap.size = g := ⟨_, rfl⟩
  have Hg := Lib.hid hg
  have V1 : Hid (VBox W1 g 5 (ec x)) := Lib.hid (by rw [hW1, ← hg]; exact (vbox_new w (ec x) _ _ 5 rfl rfl (by omega)).grow (below_one _ _))
  have U1 : Hid (VBox W1 (g + 1) 2 (gc ep A n c)) := Lib.hid (by rw [hW1, ← hg]; exact vbox_new _ (gc ep A n c) _ _ 2 (by simp) rfl (by omega))
  have HW1 := Lib.hid hW1
  have HX := Lib.hid h
  have HM := Lib.hid hms
  have HEP := Lib.hid hep
  clear hW1 hg h hms hep
  go_enter Try.func5, Try.ntmps5
  go_upto_region 1 with fail
  rw [← HW1.out, Hg.out]
  obtain ⟨q0, q1, q2, q3, q4⟩ := V1.out.e
  obtain ⟨p0, p1⟩ := U1.out.g
  by_cases h1 : 5000 < x.n
  · have i1 : (5000 : Int) < (x.n : Int) := by omega
    go_wp2
    go_ret
    exact ⟨rfl, b1.out⟩
  · have i1 : ¬ (5000 : Int) < (x.n : Int) := by omega
    by_cases h2 : 50 < n
    · have i2 : (50 : Int) < (n : Int) := by omega
      go_wp2
      go_ret
      exact ⟨rfl, b1.out⟩
    · have i2 : ¬ (50 : Int) < (n : Int) := by omega
      have hxL : x.body.length = x.n := HX.out.body.len
      have hmL : l.length = n := HM.out.row.len
      have LE0 : (entF x.z).length = 36 + x.n := by unfold entF; rw [List.length_append, n64_len', restF_len]; show 8 + (28 + x.body.length) = _; omega
      have LC0 : (confF ep l).length = 16 + n * 17 := by unfold confF; simp only [List.length_append, n64_len', msF_len, hmL]
      have PE : Hid (wPuts (some []) (n64 x.z.pos :: restP x.z) = some (entF x.z)) := Lib.hid (by
        have e : (n64 x.z.pos :: restP x.z).flatten = entF x.z := by rw [List.flatten_cons, restP_flat]; rfl
        rw [wPuts_some _ _ (by rw [e, List.nil_append, LE0]; omega), e, List.nil_append])
      have PC : Hid (wPuts (some []) (confP ep l) = some (confF ep l)) := Lib.hid (by
        rw [wPuts_some _ _ (by rw [confP_flat, List.nil_append, LC0]; omega), confP_flat, List.nil_append])
      have EB := Lib.hid (show IsBytes (entF x.z) by unfold entF; exact (n64_isB x.pos).app (restF_isB (e := x.z) HX.out.body.isBytes))
      have CB := Lib.hid (confF_isB ep l)
      have LE := Lib.hid (show (entF x.z).length ≤ maxLen by rw [LE0]; unfold maxLen; omega)
      have LC := Lib.hid (show (confF ep l).length ≤ maxLen by rw [LC0]; unfold maxLen; omega)
      have HEO := Lib.hid (fun (W : World) (hW : Below W1.heap.size W1 W) => (⟨(HX.out.below b1.out (Nat.le_refl _)).below hW b1.out.size, Nat.le_trans b1.out.size hW.size⟩ : EOk W w.heap.size x ∧ w.heap.size ≤ W.heap.size))
      have HMO := Lib.hid (fun (W : World) (hW : Below W1.heap.size W1 W) => (⟨(HM.out.below b1.out (Nat.le_refl _)).below hW b1.out.size, Nat.le_trans b1.out.size hW.size⟩ : Mems W w.heap.size A n l ∧ w.heap.size ≤ W.heap.size))
      have HCE := Lib.hid (fun (W : World) (hW : Below W1.heap.size W1 W) => ((V1.out.grow hW).e))
      have HCC := Lib.hid (fun (W : World) (hW : Below W1.heap.size W1 W) => ((U1.out.grow hW).g))
      have HD := Lib.hid (show Below W1.heap.size W1 W1.drew from below_drewN (Below.refl _ _) 1)
      go_upto_region 3 with fail
      clear q0 q1 q2 q3 q4 p0 p1 i1 i2 LE0 LC0 hxL hmL
      refine Late.region (fun w' => Below W1.heap.size W1 w') [] (by kernel_rfl) HD.out (fun hHeld => ?_)
      refine Late.take (i := 1) (oi := ⟨some 21, Op.load 42 (Operand.tmp 2), _, _, _, _⟩) (v := ?_) rfl (by kernel_rfl) (by kernel_rfl) (by kernel_rfl) (by kernel_rfl) (fun _ _ _ h => h) (Or.inl ⟨by rfl, fun w hSw => ?_⟩) (by assumption) ?_
      rotate_left
      · (have s1 := hSw; obtain ⟨d0, d1, d2, d3, d4⟩ := HCE.out _ hSw; go_simp; try with_reducible rfl)
      try simp only [Act.put, List.setIfInBounds_toArray, List.set_cons_zero, List.set_cons_succ]
      refine Late.one (i := 0) (o := ⟨some 20, Op.call { callee := Callee.value (Operand.func 21), args := #[], argTypes := #[] }, _, _, _, _⟩) (by kernel_rfl) rfl (fun K hK => ?_)
      go_simp
      refine (newwriter_any W1.drew).mono ?_
      rintro e w3 ⟨rfl, hr3, hb3, hs3⟩
      have hbA := hHeld.trans (hb3.mono hHeld.size)
      refine hK.out _ _ (hbA) (fun hHeld2 => ?_)
      clear hK K hHeld
      have hHeld := hHeld2
      clear hHeld2
      try simp only [Act.put, List.setIfInBounds_toArray, List.set_cons_zero, List.set_cons_succ]
      refine Late.one (i := 2) (o := ⟨some 22, Op.call { callee := Callee.value (Operand.func 20), args := #[Operand.tmp 20, Operand.tmp 21], argTypes := #[44, 42] }, _, _, _, _⟩) (by kernel_rfl) rfl (fun K hK => ?_)
      go_simp
      refine (putentry_any hr3 (HEO.out _ hHeld).1 (HEO.out _ HD.out).2 (by omega)).mono ?_
      rintro e w4 ⟨rfl, g4, r4, o4, f4⟩
      have hb4 := Wr.below hr3 o4 (Nat.le_refl _)
      have hbB := hHeld.trans (hb4.mono HD.out.size)
      have r4 := (show Wr w4 _ g4 (some (entF x.z)) by rw [← PE.out]; exact r4)
      refine hK.out _ _ (hbB) (fun hHeld2 => ?_)
      clear hK K hHeld
      have hHeld := hHeld2
      clear hHeld2
      try simp only [Act.put, List.setIfInBounds_toArray, List.set_cons_zero, List.set_cons_succ]
      refine Late.one (i := 3) (o := ⟨some 23, Op.call { callee := Callee.value (Operand.func 22), args := #[Operand.tmp 22], argTypes := #[44] }, _, _, _, _⟩) (by kernel_rfl) rfl (fun K hK => ?_)
      go_simp
      refine (done_ok r4).mono ?_
      rintro e v5 ⟨u, rfl, hu, hb5⟩
      obtain ⟨D1, d1, rfl, hs1, _, _⟩ := hu.bs EB.out
      have hbC := hHeld.trans (hb5.mono hHeld.size)
      refine hK.out _ _ (hbC) (fun hHeld2 => ?_)
      clear hK K hHeld
      have hHeld := hHeld2
      clear hHeld2
      try simp only [Act.put, List.setIfInBounds_toArray, List.set_cons_zero, List.set_cons_succ]
      refine Late.take (i := 4) (oi := ⟨some 19, Op.move (Operand.tmp 23), _, _, _, _⟩) (v := ?_) rfl (by kernel_rfl) (by kernel_rfl) (by kernel_rfl) (by kernel_rfl) (fun _ _ _ h => h) (Or.inl ⟨by rfl, fun w hSw => ?_⟩) (by assumption) ?_
      rotate_left
      · (have s1 := hSw; go_simp; try with_reducible rfl)
      try simp only [Act.put, List.setIfInBounds_toArray, List.set_cons_zero, List.set_cons_succ]
      refine Late.take (i := 5) (oi := ⟨some 24, Op.extract (Operand.tmp 19) 0, _, _, _, _⟩) (v := ?_) rfl (by kernel_rfl) (by kernel_rfl) (by kernel_rfl) (by kernel_rfl) (fun _ _ _ h => h) (Or.inl ⟨by rfl, fun w hSw => ?_⟩) (by assumption) ?_
      rotate_left
      · (have s1 := hSw; go_simp; try with_reducible rfl)
      try simp only [Act.put, List.setIfInBounds_toArray, List.set_cons_zero, List.set_cons_succ]
      refine Late.take (i := 6) (oi := ⟨some 25, Op.extract (Operand.tmp 19) 1, _, _, _, _⟩) (v := ?_) rfl (by kernel_rfl) (by kernel_rfl) (by kernel_rfl) (by kernel_rfl) (fun _ _ _ h => h) (Or.inl ⟨by rfl, fun w hSw => ?_⟩) (by assumption) ?_
      rotate_left
      · (have s1 := hSw; go_simp; try with_reducible rfl)
      try simp only [Act.put, List.setIfInBounds_toArray, List.set_cons_zero, List.set_cons_succ]
      refine Late.take (i := 7) (oi := ⟨some 5, Op.assign (Operand.tmp 24), _, _, _, _⟩) (v := ?_) rfl (by kernel_rfl) (by kernel_rfl) (by kernel_rfl) (by kernel_rfl) (fun _ _ _ h => h) (Or.inl ⟨by rfl, fun w hSw => ?_⟩) (by assumption) ?_
      rotate_left
      · (have s1 := hSw; go_simp; try with_reducible rfl)
      try simp only [Act.put, List.setIfInBounds_toArray, List.set_cons_zero, List.set_cons_succ]
      refine Late.take (i := 8) (oi := ⟨some 6, Op.assign (Operand.tmp 25), _, _, _, _⟩) (v := ?_) rfl (by kernel_rfl) (by kernel_rfl) (by kernel_rfl) (by kernel_rfl) (fun _ _ _ h => h) (Or.inl ⟨by rfl, fun w hSw => ?_⟩) (by assumption) ?_
      rotate_left
      · (have s1 := hSw; go_simp; try with_reducible rfl)
      try simp only [Act.put, List.setIfInBounds_toArray, List.set_cons_zero, List.set_cons_succ]
      refine Late.done (by kernel_rfl) ?_ _
      refine NoPanic.normal ?_
      have HV5 := Lib.hid hHeld
      have HS1 := Lib.hid hs1
      clear hHeld
      have HD4 := Lib.hid (show Below v5.heap.size v5 v5.drew from below_drewN (Below.refl _ _) 1)
      have HM5 := Lib.hid (fun (W : World) (hW : Below v5.heap.size v5 W) => HMO.out W (HV5.out.trans (hW.mono HV5.out.size)))
      have HCC4 := Lib.hid (fun (W : World) (hW : Below v5.heap.size v5 W) => HCC.out W (HV5.out.trans (hW.mono HV5.out.size)))
      go_upto_region 4 with fail
      refine Late.region (fun w' => Below v5.heap.size v5 w') [] (by kernel_rfl) HD4.out (fun hHeld => ?_)
      refine Late.take (i := 1) (oi := ⟨some 28, Op.load 26 (Operand.tmp 3), _, _, _, _⟩) (v := ?_) rfl (by kernel_rfl) (by kernel_rfl) (by kernel_rfl) (by kernel_rfl) (fun _ _ _ h => h) (Or.inl ⟨by rfl, fun w hSw => ?_⟩) (by assumption) ?_
      rotate_left
      · (have s1 := hSw; obtain ⟨d0, d1⟩ := HCC4.out _ hSw; go_simp; try with_reducible rfl)
      try simp only [Act.put, List.setIfInBounds_toArray, List.set_cons_zero, List.set_cons_succ]
      refine Late.one (i := 0) (o := ⟨some 27, Op.call { callee := Callee.value (Operand.func 21), args := #[], argTypes := #[] }, _, _, _, _⟩) (by kernel_rfl) rfl (fun K hK => ?_)
      go_simp
      refine (newwriter_any v5.drew).mono ?_
      rintro e w6 ⟨rfl, hr6, hb6, hs6⟩
      have hbA := hHeld.trans (hb6.mono hHeld.size)
      refine hK.out _ _ (hbA) (fun hHeld2 => ?_)
      clear hK K hHeld
      have hHeld := hHeld2
      clear hHeld2
      try simp only [Act.put, List.setIfInBounds_toArray, List.set_cons_zero, List.set_cons_succ]
      refine Late.one (i := 2) (o := ⟨some 29, Op.call { callee := Callee.value (Operand.func 23), args := #[Operand.tmp 27, Operand.tmp 28], argTypes := #[44, 26] }, _, _, _, _⟩) (by kernel_rfl) rfl (fun K hK => ?_)
      go_simp
      refine (putconf_any hr6 c ep HEP.out (HM5.out _ hHeld).1 (HM5.out _ HD4.out).2 (by omega)).mono ?_
      rintro e w7 ⟨rfl, g7, r7, o7, f7⟩
      have hb7 := Wr.below hr6 o7 (Nat.le_refl _)
      have hbB := hHeld.trans (hb7.mono HD4.out.size)
      have r7 := (show Wr w7 _ g7 (some (confF ep l)) by rw [← PC.out]; exact r7)
      refine hK.out _ _ (hbB) (fun hHeld2 => ?_)
      clear hK K hHeld
      have hHeld := hHeld2
      clear hHeld2
      try simp only [Act.put, List.setIfInBounds_toArray, List.set_cons_zero, List.set_cons_succ]
      refine Late.one (i := 3) (o := ⟨some 30, Op.call { callee := Callee.value (Operand.func 22), args := #[Operand.tmp 29], argTypes := #[44] }, _, _, _, _⟩) (by kernel_rfl) rfl (fun K hK => ?_)
      go_simp
      refine (done_ok r7).mono ?_
      rintro e v8 ⟨u, rfl, hu, hb8⟩
      obtain ⟨D2, d2, rfl, hs2, _, _⟩ := hu.bs CB.out
      have hbC := hHeld.trans (hb8.mono hHeld.size)
      refine hK.out _ _ (hbC) (fun hHeld2 => ?_)
      clear hK K hHeld
      have hHeld := hHeld2
      clear hHeld2
      try simp only [Act.put, List.setIfInBounds_toArray, List.set_cons_zero, List.set_cons_succ]
      refine Late.take (i := 4) (oi := ⟨some 26, Op.move (Operand.tmp 30), _, _, _, _⟩) (v := ?_) rfl (by kernel_rfl) (by kernel_rfl) (by kernel_rfl) (by kernel_rfl) (fun _ _ _ h => h) (Or.inl ⟨by rfl, fun w hSw => ?_⟩) (by assumption) ?_
      rotate_left
      · (have s1 := hSw; go_simp; try with_reducible rfl)
      try simp only [Act.put, List.setIfInBounds_toArray, List.set_cons_zero, List.set_cons_succ]
      refine Late.take (i := 5) (oi := ⟨some 31, Op.extract (Operand.tmp 26) 0, _, _, _, _⟩) (v := ?_) rfl (by kernel_rfl) (by kernel_rfl) (by kernel_rfl) (by kernel_rfl) (fun _ _ _ h => h) (Or.inl ⟨by rfl, fun w hSw => ?_⟩) (by assumption) ?_
      rotate_left
      · (have s1 := hSw; go_simp; try with_reducible rfl)
      try simp only [Act.put, List.setIfInBounds_toArray, List.set_cons_zero, List.set_cons_succ]
      refine Late.take (i := 6) (oi := ⟨some 32, Op.extract (Operand.tmp 26) 1, _, _, _, _⟩) (v := ?_) rfl (by kernel_rfl) (by kernel_rfl) (by kernel_rfl) (by kernel_rfl) (fun _ _ _ h => h) (Or.inl ⟨by rfl, fun w hSw => ?_⟩) (by assumption) ?_
      rotate_left
      · (have s1 := hSw; go_simp; try with_reducible rfl)
      try simp only [Act.put, List.setIfInBounds_toArray, List.set_cons_zero, List.set_cons_succ]
      refine Late.take (i := 7) (oi := ⟨some 7, Op.assign (Operand.tmp 31), _, _, _, _⟩) (v := ?_) rfl (by kernel_rfl) (by kernel_rfl) (by kernel_rfl) (by kernel_rfl) (fun _ _ _ h => h) (Or.inl ⟨by rfl, fun w hSw => ?_⟩) (by assumption) ?_
      rotate_left
      · (have s1 := hSw; go_simp; try with_reducible rfl)
      try simp only [Act.put, List.setIfInBounds_toArray, List.set_cons_zero, List.set_cons_succ]
      refine Late.take (i := 8) (oi := ⟨some 8, Op.assign (Operand.tmp 32), _, _, _, _⟩) (v := ?_) rfl (by kernel_rfl) (by kernel_rfl) (by kernel_rfl) (by kernel_rfl) (fun _ _ _ h => h) (Or.inl ⟨by rfl, fun w hSw => ?_⟩) (by assumption) ?_
      rotate_left
      · (have s1 := hSw; go_simp; try with_reducible rfl)
      try simp only [Act.put, List.setIfInBounds_toArray, List.set_cons_zero, List.set_cons_succ]
      refine Late.done (by kernel_rfl) ?_ _
      refine NoPanic.normal ?_
      have HV8 := Lib.hid (HV5.out.trans (hHeld.mono HV5.out.size))
      have HT1 := Lib.hid (HS1.out.belowM hHeld (Nat.le_refl _))
      clear HS1
      have h58 := hHeld.size
      have HS1 := Lib.hid (fun (W : World) (hW : Below v8.heap.size v8 W) => HT1.out.belowM (hW.mono h58) (Nat.le_refl _))
      have HS2 := Lib.hid (fun (W : World) (hW : Below v8.heap.size v8 W) => hs2.belowM hW (Nat.le_refl _))
      clear hHeld hs2
      have HD5 := Lib.hid (show Below v8.heap.size v8 v8.drew from below_drewN (Below.refl _ _) 1)
      have HEO5 := Lib.hid (fun (W : World) (hW : Below v8.heap.size v8 W) => HEO.out W (HV8.out.trans (hW.mono HV8.out.size)))
      have HM8 := Lib.hid (fun (W : World) (hW : Below v8.heap.size v8 W) => HMO.out W (HV8.out.trans (hW.mono HV8.out.size)))
      have HCE5 := Lib.hid (fun (W : World) (hW : Below v8.heap.size v8 W) => HCE.out W (HV8.out.trans (hW.mono HV8.out.size)))
      have HCC5 := Lib.hid (fun (W : World) (hW : Below v8.heap.size v8 W) => HCC.out W (HV8.out.trans (hW.mono HV8.out.size)))
      go_upto_region 5 with fail
      refine Late.region (fun w' => Below v8.heap.size v8 w') [] (by kernel_rfl) HD5.out (fun hHeld => ?_)
      refine Late.take (i := 0) (oi := ⟨some 33, Op.move (Operand.tmp 6), _, _, _, _⟩) (v := ?_) rfl (by kernel_rfl) (by kernel_rfl) (by kernel_rfl) (by kernel_rfl) (fun _ _ _ h => h) (Or.inl ⟨by rfl, fun w hSw => ?_⟩) (by assumption) ?_
      rotate_left
      · (have s1 := hSw; go_simp; try with_reducible rfl)
      try simp only [Act.put, List.setIfInBounds_toArray, List.set_cons_zero, List.set_cons_succ]
      refine Late.take (i := 1) (oi := ⟨some 34, Op.binOp BinOp.eql 30 (Operand.tmp 33) (Operand.const (Value.int IntKind.i64 0)) 30, _, _, _, _⟩) (v := ?_) rfl (by kernel_rfl) (by kernel_rfl) (by kernel_rfl) (by kernel_rfl) (fun _ _ _ h => h) (Or.inl ⟨by rfl, fun w hSw => ?_⟩) (by assumption) ?_
      rotate_left
      · (have s1 := hSw; go_simp; try with_reducible rfl)
      try simp only [Act.put, List.setIfInBounds_toArray, List.set_cons_zero, List.set_cons_succ]
      refine Late.take (i := 2) (oi := ⟨some 35, Op.move (Operand.tmp 34), _, _, _, _⟩) (v := ?_) rfl (by kernel_rfl) (by kernel_rfl) (by kernel_rfl) (by kernel_rfl) (fun _ _ _ h => h) (Or.inl ⟨by rfl, fun w hSw => ?_⟩) (by assumption) ?_
      rotate_left
      · (have s1 := hSw; go_simp; try with_reducible rfl)
      try simp only [Act.put, List.setIfInBounds_toArray, List.set_cons_zero, List.set_cons_succ]
      refine Late.take (i := 3) (oi := ⟨some 36, Op.move (Operand.tmp 8), _, _, _, _⟩) (v := ?_) rfl (by kernel_rfl) (by kernel_rfl) (by kernel_rfl) (by kernel_rfl) (fun _ _ _ h => h) (Or.inl ⟨by rfl, fun w hSw => ?_⟩) (by assumption) ?_
      rotate_left
      · (have s1 := hSw; go_simp; try with_reducible rfl)
      try simp only [Act.put, List.setIfInBounds_toArray, List.set_cons_zero, List.set_cons_succ]
      refine Late.take (i := 4) (oi := ⟨some 37, Op.binOp BinOp.eql 30 (Operand.tmp 36) (Operand.const (Value.int IntKind.i64 0)) 30, _, _, _, _⟩) (v := ?_) rfl (by kernel_rfl) (by kernel_rfl) (by kernel_rfl) (by kernel_rfl) (fun _ _ _ h => h) (Or.inl ⟨by rfl, fun w hSw => ?_⟩) (by assumption) ?_
      rotate_left
      · (have s1 := hSw; go_simp; try with_reducible rfl)
      try simp only [Act.put, List.setIfInBounds_toArray, List.set_cons_zero, List.set_cons_succ]
      refine Late.take (i := 5) (oi := ⟨some 38, Op.pick (Operand.tmp 35) (Operand.tmp 37) (Operand.const (Value.bool false)), _, _, _, _⟩) (v := ?_) rfl (by kernel_rfl) (by kernel_rfl) (by kernel_rfl) (by kernel_rfl) (fun _ _ _ h => h) (Or.inl ⟨by rfl, fun w hSw => ?_⟩) (by assumption) ?_
      rotate_left
      · (have s1 := hSw; go_simp; try with_reducible rfl)
      try simp only [Act.put, List.setIfInBounds_toArray, List.set_cons_zero, List.set_cons_succ]
      refine Late.take (i := 6) (oi := ⟨some 39, Op.move (Operand.tmp 38), _, _, _, _⟩) (v := ?_) rfl (by kernel_rfl) (by kernel_rfl) (by kernel_rfl) (by kernel_rfl) (fun _ _ _ h => h) (Or.inl ⟨by rfl, fun w hSw => ?_⟩) (by assumption) ?_
      rotate_left
      · (have s1 := hSw; go_simp; try with_reducible rfl)
      try simp only [Act.put, List.setIfInBounds_toArray, List.set_cons_zero, List.set_cons_succ]
      refine Late.take (i := 7) (oi := ⟨some 40, Op.move (Operand.tmp 5), _, _, _, _⟩) (v := ?_) rfl (by kernel_rfl) (by kernel_rfl) (by kernel_rfl) (by kernel_rfl) (fun _ _ _ h => h) (Or.inl ⟨by rfl, fun w hSw => ?_⟩) (by assumption) ?_
      rotate_left
      · (have s1 := hSw; go_simp; try with_reducible rfl)
      try simp only [Act.put, List.setIfInBounds_toArray, List.set_cons_zero, List.set_cons_succ]
      refine Late.take (i := 8) (oi := ⟨some 41, Op.load 42 (Operand.tmp 2), _, _, _, _⟩) (v := ?_) rfl (by kernel_rfl) (by kernel_rfl) (by kernel_rfl) (by kernel_rfl) (fun _ _ _ h => h) (Or.inl ⟨by rfl, fun w hSw => ?_⟩) (by assumption) ?_
      rotate_left
      · (have s1 := hSw; obtain ⟨d0, d1, d2, d3, d4⟩ := HCE5.out _ hSw; go_simp; try with_reducible rfl)
      try simp only [Act.put, List.setIfInBounds_toArray, List.set_cons_zero, List.set_cons_succ]
      refine Late.one (i := 9) (o := ⟨some 42, Op.call { callee := Callee.value (Operand.func 24), args := #[Operand.tmp 41], argTypes := #[42] }, _, _, _, _⟩) (by kernel_rfl) rfl (fun K hK => ?_)
      go_simp
      refine (rentform_any (HEO5.out _ hHeld).1 (HEO5.out _ hHeld).2 (by omega)).mono ?_
      intro e w9 hm
      obtain ⟨D3, d3, rfl, ho3, hb9, _, _⟩ := hm.n rfl
      have hs3 := Made.bs ho3 EB.out
      have hbA := hHeld.trans (hb9.mono hHeld.size)
      refine hK.out _ _ (hbA) (fun hHeld2 => ?_)
      clear hK K hHeld
      have hHeld := hHeld2
      clear hHeld2
      try simp only [Act.put, List.setIfInBounds_toArray, List.set_cons_zero, List.set_cons_succ]
      refine Late.one (i := 10) (o := ⟨some 43, Op.call { callee := Callee.value (Operand.func 14), args := #[Operand.tmp 40, Operand.tmp 42], argTypes := #[22, 22] }, _, _, _, _⟩) (by kernel_rfl) rfl (fun K hK => ?_)
      go_simp
      refine (refsame_any d1 d3 (HS1.out _ hHeld) hs3 LE.out LE.out).mono ?_
      rintro e _ ⟨rfl, m, rfl⟩
      rw [eqB_refl]
      have hbB := hHeld.trans (below_drewN (Below.refl _ _) m)
      refine hK.out _ _ (hbB) (fun hHeld2 => ?_)
      clear hK K hHeld
      have hHeld := hHeld2
      clear hHeld2
      try simp only [Act.put, List.setIfInBounds_toArray, List.set_cons_zero, List.set_cons_succ]
      refine Late.take (i := 11) (oi := ⟨some 44, Op.pick (Operand.tmp 39) (Operand.tmp 43) (Operand.const (Value.bool false)), _, _, _, _⟩) (v := ?_) rfl (by kernel_rfl) (by kernel_rfl) (by kernel_rfl) (by kernel_rfl) (fun _ _ _ h => h) (Or.inl ⟨by rfl, fun w hSw => ?_⟩) (by assumption) ?_
      rotate_left
      · (have s1 := hSw; go_simp; try with_reducible rfl)
      try simp only [Act.put, List.setIfInBounds_toArray, List.set_cons_zero, List.set_cons_succ]
      refine Late.take (i := 12) (oi := ⟨some 45, Op.move (Operand.tmp 44), _, _, _, _⟩) (v := ?_) rfl (by kernel_rfl) (by kernel_rfl) (by kernel_rfl) (by kernel_rfl) (fun _ _ _ h => h) (Or.inl ⟨by rfl, fun w hSw => ?_⟩) (by assumption) ?_
      rotate_left
      · (have s1 := hSw; go_simp; try with_reducible rfl)
      try simp only [Act.put, List.setIfInBounds_toArray, List.set_cons_zero, List.set_cons_succ]
      refine Late.take (i := 13) (oi := ⟨some 46, Op.move (Operand.tmp 7), _, _, _, _⟩) (v := ?_) rfl (by kernel_rfl) (by kernel_rfl) (by kernel_rfl) (by kernel_rfl) (fun _ _ _ h => h) (Or.inl ⟨by rfl, fun w hSw => ?_⟩) (by assumption) ?_
      rotate_left
      · (have s1 := hSw; go_simp; try with_reducible rfl)
      try simp only [Act.put, List.setIfInBounds_toArray, List.set_cons_zero, List.set_cons_succ]
      refine Late.take (i := 14) (oi := ⟨some 47, Op.load 26 (Operand.tmp 3), _, _, _, _⟩) (v := ?_) rfl (by kernel_rfl) (by kernel_rfl) (by kernel_rfl) (by kernel_rfl) (fun _ _ _ h => h) (Or.inl ⟨by rfl, fun w hSw => ?_⟩) (by assumption) ?_
      rotate_left
      · (have s1 := hSw; obtain ⟨d0, d1⟩ := HCC5.out _ hSw; go_simp; try with_reducible rfl)
      try simp only [Act.put, List.setIfInBounds_toArray, List.set_cons_zero, List.set_cons_succ]
      refine Late.one (i := 15) (o := ⟨some 48, Op.call { callee := Callee.value (Operand.func 25), args := #[Operand.tmp 47], argTypes := #[26] }, _, _, _, _⟩) (by kernel_rfl) rfl (fun K hK => ?_)
      go_simp
      refine (rconfform_any c ep HEP.out (HM8.out _ hHeld).1 (HM8.out _ hHeld).2 (by omega)).mono ?_
      intro e w11 hm
      obtain ⟨D4, d4, rfl, ho4, hb11, _, _⟩ := hm.n rfl
      have hs4 := Made.bs ho4 CB.out
      have hbC := hHeld.trans (hb11.mono hHeld.size)
      refine hK.out _ _ (hbC) (fun hHeld2 => ?_)
      clear hK K hHeld
      have hHeld := hHeld2
      clear hHeld2
      try simp only [Act.put, List.setIfInBounds_toArray, List.set_cons_zero, List.set_cons_succ]
      refine Late.one (i := 16) (o := ⟨some 49, Op.call { callee := Callee.value (Operand.func 14), args := #[Operand.tmp 46, Operand.tmp 48], argTypes := #[22, 22] }, _, _, _, _⟩) (by kernel_rfl) rfl (fun K hK => ?_)
      go_simp
      refine (refsame_any d2 d4 (HS2.out _ hHeld) hs4 LC.out LC.out).mono ?_
      rintro e _ ⟨rfl, m, rfl⟩
      rw [eqB_refl]
      have hbD := hHeld.trans (below_drewN (Below.refl _ _) m)
      refine hK.out _ _ (hbD) (fun hHeld2 => ?_)
      clear hK K hHeld
      have hHeld := hHeld2
      clear hHeld2
      try simp only [Act.put, List.setIfInBounds_toArray, List.set_cons_zero, List.set_cons_succ]
      refine Late.take (i := 17) (oi := ⟨some 50, Op.pick (Operand.tmp 45) (Operand.tmp 49) (Operand.const (Value.bool false)), _, _, _, _⟩) (v := ?_) rfl (by kernel_rfl) (by kernel_rfl) (by kernel_rfl) (by kernel_rfl) (fun _ _ _ h => h) (Or.inl ⟨by rfl, fun w hSw => ?_⟩) (by assumption) ?_
      rotate_left
      · (have s1 := hSw; go_simp; try with_reducible rfl)
      try simp only [Act.put, List.setIfInBounds_toArray, List.set_cons_zero, List.set_cons_succ]
      refine Late.take (i := 18) (oi := ⟨some 51, Op.move (Operand.tmp 50), _, _, _, _⟩) (v := ?_) rfl (by kernel_rfl) (by kernel_rfl) (by kernel_rfl) (by kernel_rfl) (fun _ _ _ h => h) (Or.inl ⟨by rfl, fun w hSw => ?_⟩) (by assumption) ?_
      rotate_left
      · (have s1 := hSw; go_simp; try with_reducible rfl)
      try simp only [Act.put, List.setIfInBounds_toArray, List.set_cons_zero, List.set_cons_succ]
      refine Late.take (i := 19) (oi := ⟨some 52, Op.load 42 (Operand.tmp 2), _, _, _, _⟩) (v := ?_) rfl (by kernel_rfl) (by kernel_rfl) (by kernel_rfl) (by kernel_rfl) (fun _ _ _ h => h) (Or.inl ⟨by rfl, fun w hSw => ?_⟩) (by assumption) ?_
      rotate_left
      · (have s1 := hSw; obtain ⟨d0, d1, d2, d3, d4⟩ := HCE5.out _ hSw; go_simp; try with_reducible rfl)
      try simp only [Act.put, List.setIfInBounds_toArray, List.set_cons_zero, List.set_cons_succ]
      refine Late.take (i := 21) (oi := ⟨some 54, Op.load 42 (Operand.tmp 2), _, _, _, _⟩) (v := ?_) rfl (by kernel_rfl) (by kernel_rfl) (by kernel_rfl) (by kernel_rfl) (fun _ _ _ h => h) (Or.inl ⟨by rfl, fun w hSw => ?_⟩) (by assumption) ?_
      rotate_left
      · (have s1 := hSw; obtain ⟨d0, d1, d2, d3, d4⟩ := HCE5.out _ hSw; go_simp; try with_reducible rfl)
      try simp only [Act.put, List.setIfInBounds_toArray, List.set_cons_zero, List.set_cons_succ]
      refine Late.one (i := 20) (o := ⟨some 53, Op.call { callee := Callee.value (Operand.func 26), args := #[Operand.tmp 52], argTypes := #[42] }, _, _, _, _⟩) (by kernel_rfl) rfl (fun K hK => ?_)
      go_simp
      refine (mayentry_any _ (HEO5.out _ hHeld).1 rfl).mono ?_
      rintro e w13 ⟨rfl, hb⟩
      have hbE := hHeld.trans (hb.mono hHeld.size)
      refine hK.out _ _ (hbE) (fun hHeld2 => ?_)
      clear hK K hHeld
      have hHeld := hHeld2
      clear hHeld2
      try simp only [Act.put, List.setIfInBounds_toArray, List.set_cons_zero, List.set_cons_succ]
      refine Late.one (i := 22) (o := ⟨some 55, Op.call { callee := Callee.value (Operand.func 27), args := #[Operand.tmp 54], argTypes := #[42] }, _, _, _, _⟩) (by kernel_rfl) rfl (fun K hK => ?_)
      go_simp
      refine (rmayentry_any _ (HEO5.out _ hHeld).1 rfl).mono ?_
      rintro e w14 ⟨rfl, hb⟩
      have hbF := hHeld.trans (hb.mono hHeld.size)
      refine hK.out _ _ (hbF) (fun hHeld2 => ?_)
      clear hK K hHeld
      have hHeld := hHeld2
      clear hHeld2
      try simp only [Act.put, List.setIfInBounds_toArray, List.set_cons_zero, List.set_cons_succ]
      refine Late.take (i := 23) (oi := ⟨some 56, Op.binOp BinOp.eql 4 (Operand.tmp 53) (Operand.tmp 55) 4, _, _, _, _⟩) (v := ?_) rfl (by kernel_rfl) (by kernel_rfl) (by kernel_rfl) (by kernel_rfl) (fun _ _ _ h => h) (Or.inl ⟨by rfl, fun w hSw => ?_⟩) (by assumption) ?_
      rotate_left
      · (have s1 := hSw; go_simp; try with_reducible rfl)
      try simp only [Act.put, List.setIfInBounds_toArray, List.set_cons_zero, List.set_cons_succ]
      refine Late.take (i := 24) (oi := ⟨some 57, Op.pick (Operand.tmp 51) (Operand.tmp 56) (Operand.const (Value.bool false)), _, _, _, _⟩) (v := ?_) rfl (by kernel_rfl) (by kernel_rfl) (by kernel_rfl) (by kernel_rfl) (fun _ _ _ h => h) (Or.inl ⟨by rfl, fun w hSw => ?_⟩) (by assumption) ?_
      rotate_left
      · (have s1 := hSw; go_simp; try with_reducible rfl)
      try simp only [Act.put, List.setIfInBounds_toArray, List.set_cons_zero, List.set_cons_succ]
      refine Late.take (i := 25) (oi := ⟨some 58, Op.move (Operand.tmp 57), _, _, _, _⟩) (v := ?_) rfl (by kernel_rfl) (by kernel_rfl) (by kernel_rfl) (by kernel_rfl) (fun _ _ _ h => h) (Or.inl ⟨by rfl, fun w hSw => ?_⟩) (by assumption) ?_
      rotate_left
      · (have s1 := hSw; go_simp; try with_reducible rfl)
      try simp only [Act.put, List.setIfInBounds_toArray, List.set_cons_zero, List.set_cons_succ]
      refine Late.take (i := 26) (oi := ⟨some 59, Op.load 26 (Operand.tmp 3), _, _, _, _⟩) (v := ?_) rfl (by kernel_rfl) (by kernel_rfl) (by kernel_rfl) (by kernel_rfl) (fun _ _ _ h => h) (Or.inl ⟨by rfl, fun w hSw => ?_⟩) (by assumption) ?_
      rotate_left
      · (have s1 := hSw; obtain ⟨d0, d1⟩ := HCC5.out _ hSw; go_simp; try with_reducible rfl)
      try simp only [Act.put, List.setIfInBounds_toArray, List.set_cons_zero, List.set_cons_succ]
      refine Late.take (i := 28) (oi := ⟨some 61, Op.load 26 (Operand.tmp 3), _, _, _, _⟩) (v := ?_) rfl (by kernel_rfl) (by kernel_rfl) (by kernel_rfl) (by kernel_rfl) (fun _ _ _ h => h) (Or.inl ⟨by rfl, fun w hSw => ?_⟩) (by assumption) ?_
      rotate_left
      · (have s1 := hSw; obtain ⟨d0, d1⟩ := HCC5.out _ hSw; go_simp; try with_reducible rfl)
      try simp only [Act.put, List.setIfInBounds_toArray, List.set_cons_zero, List.set_cons_succ]
      refine Late.one (i := 27) (o := ⟨some 60, Op.call { callee := Callee.value (Operand.func 28), args := #[Operand.tmp 59], argTypes := #[26] }, _, _, _, _⟩) (by kernel_rfl) rfl (fun K hK => ?_)
      go_simp
      refine (mayconf_any c _ _ (HM8.out _ hHeld).1 (HM8.out _ hHeld).2 hc1 hc2 rfl).mono ?_
      rintro e w15 ⟨rfl, hb⟩
      have hbG := hHeld.trans (hb.mono hHeld.size)
      refine hK.out _ _ (hbG) (fun hHeld2 => ?_)
      clear hK K hHeld
      have hHeld := hHeld2
      clear hHeld2
      try simp only [Act.put, List.setIfInBounds_toArray, List.set_cons_zero, List.set_cons_succ]
      refine Late.one (i := 29) (o := ⟨some 62, Op.call { callee := Callee.value (Operand.func 29), args := #[Operand.tmp 61], argTypes := #[26] }, _, _, _, _⟩) (by kernel_rfl) rfl (fun K hK => ?_)
      go_simp
      refine (rmayconf_any c _ _ (HM8.out _ hHeld).1 (HM8.out _ hHeld).2 rfl).mono ?_
      rintro e w16 ⟨rfl, hb⟩
      have hbH := hHeld.trans (hb.mono hHeld.size)
      refine hK.out _ _ (hbH) (fun hHeld2 => ?_)
      clear hK K hHeld
      have hHeld := hHeld2
      clear hHeld2
      try simp only [Act.put, List.setIfInBounds_toArray, List.set_cons_zero, List.set_cons_succ]
      refine Late.take (i := 30) (oi := ⟨some 63, Op.binOp BinOp.eql 4 (Operand.tmp 60) (Operand.tmp 62) 4, _, _, _, _⟩) (v := ?_) rfl (by kernel_rfl) (by kernel_rfl) (by kernel_rfl) (by kernel_rfl) (fun _ _ _ h => h) (Or.inl ⟨by rfl, fun w hSw => ?_⟩) (by assumption) ?_
      rotate_left
      · (have s1 := hSw; go_simp; try with_reducible rfl)
      try simp only [Act.put, List.setIfInBounds_toArray, List.set_cons_zero, List.set_cons_succ]
      refine Late.take (i := 31) (oi := ⟨some 64, Op.pick (Operand.tmp 58) (Operand.tmp 63) (Operand.const (Value.bool false)), _, _, _, _⟩) (v := ?_) rfl (by kernel_rfl) (by kernel_rfl) (by kernel_rfl) (by kernel_rfl) (fun _ _ _ h => h) (Or.inl ⟨by rfl, fun w hSw => ?_⟩) (by assumption) ?_
      rotate_left
      · (have s1 := hSw; go_simp; try with_reducible rfl)
      try simp only [Act.put, List.setIfInBounds_toArray, List.set_cons_zero, List.set_cons_succ]
      refine Late.take (i := 32) (oi := ⟨some 4, Op.assign (Operand.tmp 64), _, _, _, _⟩) (v := ?_) rfl (by kernel_rfl) (by kernel_rfl) (by kernel_rfl) (by kernel_rfl) (fun _ _ _ h => h) (Or.inl ⟨by rfl, fun w hSw => ?_⟩) (by assumption) ?_
      rotate_left
      · (have s1 := hSw; go_simp; try with_reducible rfl)
      try simp only [Act.put, List.setIfInBounds_toArray, List.set_cons_zero, List.set_cons_succ]
      refine Late.done (by kernel_rfl) ?_ _
      refine NoPanic.normal ?_
      have BZ := Lib.hid (b1.out.trans ((HV8.out.trans (hHeld.mono HV8.out.size)).mono b1.out.size))
      clear hHeld
      go_wp2
      go_ret
      exact ⟨rfl, BZ.out⟩
end Go.Proofs.Ytfihiandifnkpaa
