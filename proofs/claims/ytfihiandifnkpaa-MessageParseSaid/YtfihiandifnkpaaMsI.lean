/- What is written of configurations, batches, Kinds. Printed by gen_msi.py. -/
import Derived.Test.YtfihiandifnkpaaMsH
namespace Go.Proofs.Ytfihiandifnkpaa
open Go.ChangeShapes Go.WideShapes Go.ChangeAt Go.RowKit
set_option linter.unusedVariables false
set_option maxRecDepth 100000
set_option linter.unusedSimpArgs false
open Plain Sha Ms
set_option maxHeartbeats 8000000 in
theorem putconf_any {w : World} {b : Nat} {g0 : Option Nat} {st : Option (List Int)} (r : Wr w b g0 st) {B n : Nat} {A : Option Addr} {ms : List MemZ} (c : Nat) (ep : Int) (hep : InM ep) (h : Mems w B A n ms) (hB : B ≤ b) (hn : n ≤ 140737488355328) : Calls Try.prog 23 #[.pointer (some ⟨b, 0, none⟩), .agg (gc ep A n c).toArray] w (Puts w b g0 (wPuts st (confP ep ms))) := by
  have hBw : B ≤ w.heap.size := by have := r.lt; omega
  obtain ⟨W1, hW1⟩ : ∃ W, W = w.alloc (.cells (gc ep A n c).toArray 26) := ⟨_, rfl⟩
  have b1 := Lib.hid (show Below w.heap.size w W1 by rw [hW1]; exact below_one _ _)
  obtain ⟨g, hg⟩ : ∃ g, w.heap.size = g := ⟨_, rfl⟩
  have Hg := Lib.hid hg
  have V1 := Lib.hid (show VBox W1 g 2 (gc ep A n c) by rw [hW1]; exact vbox_new _ _ _ _ _ hg rfl (by omega))
  have z1 := Lib.hid (show W1.heap.size = g + 1 by rw [hW1]; simp [hg])
  have HW1 := Lib.hid hW1
  clear hW1 hg
  have RW := Lib.hid (show Wr W1 b g0 st by rw [HW1.out]; exact r.grown (grown_alloc w _ none) (by simp) (by simp))
  have NE := Lib.hid (show g ≠ b ∧ some g ≠ g0 from ⟨by have := r.lt; have := Hg.out; omega, fun e => by have := (r.own g e.symm).2; have := Hg.out; omega⟩)
  have GA : Hid (w.grownBy W1 none) := Lib.hid (by rw [HW1.out]; exact grown_alloc w _ none)
  have BEL : Hid (∀ W, Wrote W1 W b g0 → Below B W1 W) := Lib.hid (fun W hW => Wrote.below hW (Nat.le_trans hBw b1.out.size) hB (fun k hk => by have := (RW.out.own k hk).1; omega))
  unfold InM at hep
  have HM := Lib.hid (h.below b1.out hBw)
  clear h
  have HC := Lib.hid (show ∀ W, Wrote W1 W b g0 → _ from fun W hW => ((V1.out.same (hW.block g V1.out.lt NE.out.1 NE.out.2)).g))
  have HD0 := Lib.hid (show Wrote W1 W1.drew b g0 from Wrote.of_grown (grown_drewN W1 1 none) (.inl rfl))
  have F0 : Fresh W1 g0 g0 := .inl rfl
  go_enter Try.func23, Try.ntmps23
  go_upto_region 1 with fail
  rw [← HW1.out, Hg.out]
  refine Late.region (fun w' => Wrote W1 w' b g0) [] (by kernel_rfl) HD0.out (fun hHeld => ?_)
  refine Late.take (i := 0) (oi := ⟨some 7, Op.move (Operand.tmp 0), _, _, _, _⟩) (v := ?_) rfl (by kernel_rfl) (by kernel_rfl) (by kernel_rfl) (by kernel_rfl) (fun _ _ _ h => h) (Or.inl ⟨by rfl, fun w hSw => ?_⟩) (by assumption) ?_
  rotate_left
  · (have s1 := hSw; go_simp; try with_reducible rfl)
  try simp only [Act.put, List.setIfInBounds_toArray, List.set_cons_zero, List.set_cons_succ]
  refine Late.take (i := 1) (oi := ⟨some 8, Op.fieldAddr 26 (Operand.tmp 3) 0, _, _, _, _⟩) (v := ?_) rfl (by kernel_rfl) (by kernel_rfl) (by kernel_rfl) (by kernel_rfl) (fun _ _ _ h => h) (Or.inl ⟨by rfl, fun w hSw => ?_⟩) (by assumption) ?_
  rotate_left
  · (have s1 := hSw; go_simp; try with_reducible rfl)
  try simp only [Act.put, List.setIfInBounds_toArray, List.set_cons_zero, List.set_cons_succ]
  refine Late.take (i := 2) (oi := ⟨some 9, Op.load 3 (Operand.tmp 8), _, _, _, _⟩) (v := ?_) rfl (by kernel_rfl) (by kernel_rfl) (by kernel_rfl) (by kernel_rfl) (fun _ _ _ h => h) (Or.inl ⟨by rfl, fun w hSw => ?_⟩) (by assumption) ?_
  rotate_left
  · (have s1 := hSw; obtain ⟨d0, d1⟩ := HC.out _ hSw; go_simp; try with_reducible rfl)
  try simp only [Act.put, List.setIfInBounds_toArray, List.set_cons_zero, List.set_cons_succ]
  refine Late.take (i := 4) (oi := ⟨some 11, Op.fieldAddr 26 (Operand.tmp 3) 1, _, _, _, _⟩) (v := ?_) rfl (by kernel_rfl) (by kernel_rfl) (by kernel_rfl) (by kernel_rfl) (fun _ _ _ h => h) (Or.inl ⟨by rfl, fun w hSw => ?_⟩) (by assumption) ?_
  rotate_left
  · (have s1 := hSw; go_simp; try with_reducible rfl)
  try simp only [Act.put, List.setIfInBounds_toArray, List.set_cons_zero, List.set_cons_succ]
  refine Late.take (i := 5) (oi := ⟨some 12, Op.load 24 (Operand.tmp 11), _, _, _, _⟩) (v := ?_) rfl (by kernel_rfl) (by kernel_rfl) (by kernel_rfl) (by kernel_rfl) (fun _ _ _ h => h) (Or.inl ⟨by rfl, fun w hSw => ?_⟩) (by assumption) ?_
  rotate_left
  · (have s1 := hSw; obtain ⟨d0, d1⟩ := HC.out _ hSw; go_simp; try with_reducible rfl)
  try simp only [Act.put, List.setIfInBounds_toArray, List.set_cons_zero, List.set_cons_succ]
  refine Late.take (i := 6) (oi := ⟨some 13, Op.call { callee := Callee.builtin Builtin.len, args := #[Operand.tmp 12], argTypes := #[24] }, _, _, _, _⟩) (v := ?_) rfl (by kernel_rfl) (by kernel_rfl) (by kernel_rfl) (by kernel_rfl) (fun _ _ _ h => h) (Or.inl ⟨by rfl, fun w hSw => ?_⟩) (by assumption) ?_
  rotate_left
  · (have s1 := hSw; go_simp; try with_reducible rfl)
  try simp only [Act.put, List.setIfInBounds_toArray, List.set_cons_zero, List.set_cons_succ]
  refine Late.one (i := 3) (o := ⟨some 10, Op.call { callee := Callee.value (Operand.func 59), args := #[Operand.tmp 7, Operand.tmp 9], argTypes := #[44, 3] }, _, _, _, _⟩) (by kernel_rfl) rfl (fun K hK => ?_)
  go_simp
  refine (int_wr RW.out.drew ep hep.1 hep.2).mono ?_
  rintro e w3 ⟨rfl, g1, r1, o1, f1⟩
  have F1 := Fresh.trans F0 f1 hHeld.size
  have hb1 := Wrote.trans hHeld o1 F0
  refine hK.out _ _ (hb1) (fun hHeld2 => ?_)
  clear hK K hHeld
  have hHeld := hHeld2
  clear hHeld2
  try simp only [Act.put, List.setIfInBounds_toArray, List.set_cons_zero, List.set_cons_succ]
  refine Late.one (i := 7) (o := ⟨some 14, Op.call { callee := Callee.value (Operand.func 59), args := #[Operand.tmp 10, Operand.tmp 13], argTypes := #[44, 3] }, _, _, _, _⟩) (by kernel_rfl) rfl (fun K hK => ?_)
  go_simp
  refine (int_wr r1 (n : Int) (by omega) (by omega)).mono ?_
  rintro e w4 ⟨rfl, g2, r2, o2, f2⟩
  have F2 := Fresh.trans F1 f2 hHeld.size
  have hb2 := Wrote.trans hHeld o2 F1
  refine hK.out _ _ (hb2) (fun hHeld2 => ?_)
  clear hK K hHeld
  have hHeld := hHeld2
  clear hHeld2
  try simp only [Act.put, List.setIfInBounds_toArray, List.set_cons_zero, List.set_cons_succ]
  refine Late.take (i := 8) (oi := ⟨some 0, Op.assign (Operand.tmp 14), _, _, _, _⟩) (v := ?_) rfl (by kernel_rfl) (by kernel_rfl) (by kernel_rfl) (by kernel_rfl) (fun _ _ _ h => h) (Or.inl ⟨by rfl, fun w hSw => ?_⟩) (by assumption) ?_
  rotate_left
  · (have s1 := hSw; go_simp; try with_reducible rfl)
  try simp only [Act.put, List.setIfInBounds_toArray, List.set_cons_zero, List.set_cons_succ]
  refine Late.done (by kernel_rfl) ?_ _
  refine NoPanic.normal ?_
  have O2 := Lib.hid hHeld
  have R2 := Lib.hid r2
  have F2' := Lib.hid F2
  obtain ⟨d0, d1⟩ := HC.out _ hHeld
  clear hHeld r2 r1 o1 o2 f1 f2 F1 F2 F0 hb1 hb2
  obtain ⟨st2, hst2⟩ : ∃ s, wPut (wPut st (n64 ep)) (n64 (n : Int)) = s := ⟨_, rfl⟩
  rw [hst2] at R2
  have HS2 := Lib.hid hst2
  clear hst2
  go_wp2
  go_loopw [0, 18] (fun t0 i wr => ∃ (k : Nat) (gk : Option Nat), k ≤ n ∧ i = .int .i64 k ∧ t0 = .pointer (some ⟨b, 0, none⟩) ∧ Hid (Wr wr b gk (wPuts st2 ((ms.take k).flatMap memP))) ∧ Hid (Wrote W1 wr b g0) ∧ Hid (Fresh W1 g0 gk)) (fun _ i _ => n - (intOf i).toNat)
  case atStart => exact ⟨0, _, by omega, rfl, rfl, R2, O2, F2'⟩
  case round =>
    obtain ⟨k, gk, hk, rfl, rfl, RR, OR, FR⟩ := hrel
    by_cases hlt : k < n
    · have hki : (k : Int) < (n : Int) := by omega
      obtain ⟨bb, off, x, hA, hb, hx, hm, hr⟩ := (HM.out.below (BEL.out _ OR.out) (Nat.le_refl _)).row.at_ bc_len hlt
      obtain ⟨c0, c1, c2⟩ := rng_b hr
      have XO := HM.out.ok x hm
      have hno := XO.node
      have hsi := XO.since
      unfold InM at hno hsi
      subst hA
      obtain ⟨W2, hW2⟩ : ∃ W, W = wr.alloc (.cells #[.int .i64 x.node, .int .i64 x.since, .bool x.whole] 91) := ⟨_, rfl⟩
      obtain ⟨gx, hgx⟩ : ∃ g, wr.heap.size = g := ⟨_, rfl⟩
      have Hgx := Lib.hid hgx
      have b2 := Lib.hid (show Below wr.heap.size wr W2 by rw [hW2]; exact below_one _ _)
      have V2 := Lib.hid (show VBox W2 gx 3 (bc x) by rw [hW2]; exact vbox_new wr (bc x) _ _ _ hgx rfl (by omega))
      have GA2 : Hid (wr.grownBy W2 none) := Lib.hid (by rw [hW2]; exact grown_alloc wr _ none)
      have RV := Lib.hid (show Wr W2 b gk (wPuts st2 ((ms.take k).flatMap memP)) by rw [hW2]; exact RR.out.grown (grown_alloc wr _ none) (by simp) (by simp))
      have NE2 := Lib.hid (show gx ≠ b ∧ some gx ≠ gk from ⟨by have := RR.out.lt; omega, fun e => by have := (RR.out.own gx e.symm).2; omega⟩)
      have HC2 := Lib.hid (show ∀ W, Wrote W2 W b gk → _ from fun W hW => ((V2.out.same (hW.block gx V2.out.lt NE2.out.1 NE2.out.2)).mb))
      have HD2 := Lib.hid (show Wrote W2 W2.drew b gk from Wrote.of_grown (grown_drewN W2 1 none) (.inl rfl))
      have HW2 := Lib.hid hW2
      have F0 : Fresh W2 gk gk := .inl rfl
      clear hm hr hW2 hgx
      go_upto_region 5 with fail
      rw [← HW2.out, Hgx.out]
      clear c0 c1 c2
      refine Late.region (fun w' => Wrote W2 w' b gk) [] (by kernel_rfl) HD2.out (fun hHeld => ?_)
      refine Late.take (i := 0) (oi := ⟨some 22, Op.move (Operand.tmp 0), _, _, _, _⟩) (v := ?_) rfl (by kernel_rfl) (by kernel_rfl) (by kernel_rfl) (by kernel_rfl) (fun _ _ _ h => h) (Or.inl ⟨by rfl, fun w hSw => ?_⟩) (by assumption) ?_
      rotate_left
      · (have s1 := hSw; go_simp; try with_reducible rfl)
      try simp only [Act.put, List.setIfInBounds_toArray, List.set_cons_zero, List.set_cons_succ]
      refine Late.take (i := 1) (oi := ⟨some 23, Op.fieldAddr 91 (Operand.tmp 6) 0, _, _, _, _⟩) (v := ?_) rfl (by kernel_rfl) (by kernel_rfl) (by kernel_rfl) (by kernel_rfl) (fun _ _ _ h => h) (Or.inl ⟨by rfl, fun w hSw => ?_⟩) (by assumption) ?_
      rotate_left
      · (have s1 := hSw; go_simp; try with_reducible rfl)
      try simp only [Act.put, List.setIfInBounds_toArray, List.set_cons_zero, List.set_cons_succ]
      refine Late.take (i := 2) (oi := ⟨some 24, Op.load 3 (Operand.tmp 23), _, _, _, _⟩) (v := ?_) rfl (by kernel_rfl) (by kernel_rfl) (by kernel_rfl) (by kernel_rfl) (fun _ _ _ h => h) (Or.inl ⟨by rfl, fun w hSw => ?_⟩) (by assumption) ?_
      rotate_left
      · (have s1 := hSw; obtain ⟨d0, d1, d2⟩ := HC2.out _ hSw; go_simp; try with_reducible rfl)
      try simp only [Act.put, List.setIfInBounds_toArray, List.set_cons_zero, List.set_cons_succ]
      refine Late.take (i := 4) (oi := ⟨some 26, Op.fieldAddr 91 (Operand.tmp 6) 1, _, _, _, _⟩) (v := ?_) rfl (by kernel_rfl) (by kernel_rfl) (by kernel_rfl) (by kernel_rfl) (fun _ _ _ h => h) (Or.inl ⟨by rfl, fun w hSw => ?_⟩) (by assumption) ?_
      rotate_left
      · (have s1 := hSw; go_simp; try with_reducible rfl)
      try simp only [Act.put, List.setIfInBounds_toArray, List.set_cons_zero, List.set_cons_succ]
      refine Late.take (i := 5) (oi := ⟨some 27, Op.load 3 (Operand.tmp 26), _, _, _, _⟩) (v := ?_) rfl (by kernel_rfl) (by kernel_rfl) (by kernel_rfl) (by kernel_rfl) (fun _ _ _ h => h) (Or.inl ⟨by rfl, fun w hSw => ?_⟩) (by assumption) ?_
      rotate_left
      · (have s1 := hSw; obtain ⟨d0, d1, d2⟩ := HC2.out _ hSw; go_simp; try with_reducible rfl)
      try simp only [Act.put, List.setIfInBounds_toArray, List.set_cons_zero, List.set_cons_succ]
      refine Late.take (i := 7) (oi := ⟨some 29, Op.fieldAddr 91 (Operand.tmp 6) 2, _, _, _, _⟩) (v := ?_) rfl (by kernel_rfl) (by kernel_rfl) (by kernel_rfl) (by kernel_rfl) (fun _ _ _ h => h) (Or.inl ⟨by rfl, fun w hSw => ?_⟩) (by assumption) ?_
      rotate_left
      · (have s1 := hSw; go_simp; try with_reducible rfl)
      try simp only [Act.put, List.setIfInBounds_toArray, List.set_cons_zero, List.set_cons_succ]
      refine Late.take (i := 8) (oi := ⟨some 30, Op.load 4 (Operand.tmp 29), _, _, _, _⟩) (v := ?_) rfl (by kernel_rfl) (by kernel_rfl) (by kernel_rfl) (by kernel_rfl) (fun _ _ _ h => h) (Or.inl ⟨by rfl, fun w hSw => ?_⟩) (by assumption) ?_
      rotate_left
      · (have s1 := hSw; obtain ⟨d0, d1, d2⟩ := HC2.out _ hSw; go_simp; try with_reducible rfl)
      try simp only [Act.put, List.setIfInBounds_toArray, List.set_cons_zero, List.set_cons_succ]
      refine Late.one (i := 3) (o := ⟨some 25, Op.call { callee := Callee.value (Operand.func 59), args := #[Operand.tmp 22, Operand.tmp 24], argTypes := #[44, 3] }, _, _, _, _⟩) (by kernel_rfl) rfl (fun K hK => ?_)
      go_simp
      refine (int_wr RV.out.drew x.node hno.1 hno.2).mono ?_
      rintro e w6 ⟨rfl, g1, r1, o1, f1⟩
      have F1 := Fresh.trans F0 f1 hHeld.size
      have hb1 := Wrote.trans hHeld o1 F0
      refine hK.out _ _ (hb1) (fun hHeld2 => ?_)
      clear hK K hHeld
      have hHeld := hHeld2
      clear hHeld2
      try simp only [Act.put, List.setIfInBounds_toArray, List.set_cons_zero, List.set_cons_succ]
      refine Late.one (i := 6) (o := ⟨some 28, Op.call { callee := Callee.value (Operand.func 59), args := #[Operand.tmp 25, Operand.tmp 27], argTypes := #[44, 3] }, _, _, _, _⟩) (by kernel_rfl) rfl (fun K hK => ?_)
      go_simp
      refine (int_wr r1 x.since hsi.1 hsi.2).mono ?_
      rintro e w7 ⟨rfl, g2, r2, o2, f2⟩
      have F2 := Fresh.trans F1 f2 hHeld.size
      have hb2 := Wrote.trans hHeld o2 F1
      refine hK.out _ _ (hb2) (fun hHeld2 => ?_)
      clear hK K hHeld
      have hHeld := hHeld2
      clear hHeld2
      try simp only [Act.put, List.setIfInBounds_toArray, List.set_cons_zero, List.set_cons_succ]
      refine Late.one (i := 9) (o := ⟨some 31, Op.call { callee := Callee.value (Operand.func 60), args := #[Operand.tmp 28, Operand.tmp 30], argTypes := #[44, 4] }, _, _, _, _⟩) (by kernel_rfl) rfl (fun K hK => ?_)
      go_simp
      refine (flag_wr r2 x.whole).mono ?_
      rintro e w8 ⟨rfl, g3, r3, o3, f3⟩
      have F3 := Fresh.trans F2 f3 hHeld.size
      have hb3 := Wrote.trans hHeld o3 F2
      refine hK.out _ _ (hb3) (fun hHeld2 => ?_)
      clear hK K hHeld
      have hHeld := hHeld2
      clear hHeld2
      try simp only [Act.put, List.setIfInBounds_toArray, List.set_cons_zero, List.set_cons_succ]
      refine Late.take (i := 10) (oi := ⟨some 0, Op.assign (Operand.tmp 31), _, _, _, _⟩) (v := ?_) rfl (by kernel_rfl) (by kernel_rfl) (by kernel_rfl) (by kernel_rfl) (fun _ _ _ h => h) (Or.inl ⟨by rfl, fun w hSw => ?_⟩) (by assumption) ?_
      rotate_left
      · (have s1 := hSw; go_simp; try with_reducible rfl)
      try simp only [Act.put, List.setIfInBounds_toArray, List.set_cons_zero, List.set_cons_succ]
      refine Late.done (by kernel_rfl) ?_ _
      refine NoPanic.normal ?_
      have OK : Hid (Wrote W1 w8 b g0) := Lib.hid (OR.out.trans (Wrote.trans (Wrote.of_grown GA2.out (.inl rfl)) hHeld (.inl rfl)) FR.out)
      have FK : Hid (Fresh W1 g0 g3) := Lib.hid (Fresh.trans FR.out (Fresh.trans (.inl rfl) F3 b2.out.size) OR.out.size)
      have RK : Hid (Wr w8 b g3 (wPuts st2 ((ms.take (k + 1)).flatMap memP))) := Lib.hid (by rw [take_flat memP hx.out, wPuts_app]; exact r3)
      clear hHeld r1 r2 r3 o1 o2 o3 f1 f2 f3 F0 F1 F2 F3 hb1 hb2 hb3
      go_wp2
      go_roundw
      case rel => exact ⟨k + 1, _, by omega, by go_num, rfl, RK, OK, FK⟩
      case measure => simp [intOf]; omega
    · have hki : ¬ (k : Int) < (n : Int) := by omega
      have hkn : k = n := by omega
      have RE : Hid (Wr wr b gk (wPuts st (confP ep ms))) := Lib.hid (by
        have e : (ms.take k) = ms := List.take_of_length_le (by rw [HM.out.row.len]; omega)
        have := RR.out
        rw [e, ← HS2.out] at this
        unfold confP
        rw [wPuts_app, HM.out.row.len]
        exact this)
      go_wp2
      go_ret
      exact Puts.from GA.out ⟨rfl, gk, RE.out, OR.out, FR.out⟩
set_option maxHeartbeats 8000000 in
theorem putapp_any {w : World} {b : Nat} {g0 : Option Nat} {st : Option (List Int)} (r : Wr w b g0 st) {B : Nat} {x : MX} (h : MXOk w B x) (hB : B ≤ b) (hn : x.en ≤ 140737488355328) (hns : ∀ y, y ∈ x.es → y.n ≤ 140737488355328) : Calls Try.prog 96 #[.pointer (some ⟨b, 0, none⟩), .agg (mc x).toArray] w (Puts w b g0 (wPuts st (appP x.upto x.frm (x.es.map EX.z)))) := by
  have hBw : B ≤ w.heap.size := by have := r.lt; omega
  obtain ⟨W1, hW1⟩ : ∃ W, W = w.alloc (.cells (mc x).toArray 28) := ⟨_, rfl⟩
  have b1 := Lib.hid (show Below w.heap.size w W1 by rw [hW1]; exact below_one _ _)
  obtain ⟨g, hg⟩ : ∃ g, w.heap.size = g := ⟨_, rfl⟩
  have Hg := Lib.hid hg
  have V1 := Lib.hid (show VBox W1 g 12 (mc x) by rw [hW1]; exact vbox_new _ _ _ _ _ hg rfl (by omega))
  have z1 := Lib.hid (show W1.heap.size = g + 1 by rw [hW1]; simp [hg])
  have HW1 := Lib.hid hW1
  clear hW1 hg
  have RW := Lib.hid (show Wr W1 b g0 st by rw [HW1.out]; exact r.grown (grown_alloc w _ none) (by simp) (by simp))
  have NE := Lib.hid (show g ≠ b ∧ some g ≠ g0 from ⟨by have := r.lt; have := Hg.out; omega, fun e => by have := (r.own g e.symm).2; have := Hg.out; omega⟩)
  have GA : Hid (w.grownBy W1 none) := Lib.hid (by rw [HW1.out]; exact grown_alloc w _ none)
  have BEL : Hid (∀ W, Wrote W1 W b g0 → Below B W1 W) := Lib.hid (fun W hW => Wrote.below hW (Nat.le_trans hBw b1.out.size) hB (fun k hk => by have := (RW.out.own k hk).1; omega))
  have hup := h.upto
  have hfr := h.frm
  unfold InM at hup hfr
  have HM := Lib.hid (h.es.below b1.out hBw)
  have HNS := Lib.hid hns
  clear h hns
  have HC := Lib.hid (show ∀ W, Wrote W1 W b g0 → _ from fun W hW => ((V1.out.same (hW.block g V1.out.lt NE.out.1 NE.out.2)).m))
  have HD0 := Lib.hid (show Wrote W1 W1.drew b g0 from Wrote.of_grown (grown_drewN W1 1 none) (.inl rfl))
  have F0 : Fresh W1 g0 g0 := .inl rfl
  go_enter Try.func96, Try.ntmps96
  go_upto_region 1 with fail
  rw [← HW1.out, Hg.out]
  refine Late.region (fun w' => Wrote W1 w' b g0) [] (by kernel_rfl) HD0.out (fun hHeld => ?_)
  refine Late.take (i := 0) (oi := ⟨some 7, Op.move (Operand.tmp 0), _, _, _, _⟩) (v := ?_) rfl (by kernel_rfl) (by kernel_rfl) (by kernel_rfl) (by kernel_rfl) (fun _ _ _ h => h) (Or.inl ⟨by rfl, fun w hSw => ?_⟩) (by assumption) ?_
  rotate_left
  · (have s1 := hSw; go_simp; try with_reducible rfl)
  try simp only [Act.put, List.setIfInBounds_toArray, List.set_cons_zero, List.set_cons_succ]
  refine Late.take (i := 1) (oi := ⟨some 8, Op.fieldAddr 28 (Operand.tmp 3) 4, _, _, _, _⟩) (v := ?_) rfl (by kernel_rfl) (by kernel_rfl) (by kernel_rfl) (by kernel_rfl) (fun _ _ _ h => h) (Or.inl ⟨by rfl, fun w hSw => ?_⟩) (by assumption) ?_
  rotate_left
  · (have s1 := hSw; go_simp; try with_reducible rfl)
  try simp only [Act.put, List.setIfInBounds_toArray, List.set_cons_zero, List.set_cons_succ]
  refine Late.take (i := 2) (oi := ⟨some 9, Op.load 3 (Operand.tmp 8), _, _, _, _⟩) (v := ?_) rfl (by kernel_rfl) (by kernel_rfl) (by kernel_rfl) (by kernel_rfl) (fun _ _ _ h => h) (Or.inl ⟨by rfl, fun w hSw => ?_⟩) (by assumption) ?_
  rotate_left
  · (have s1 := hSw; obtain ⟨d0, d1, d2, d3, d4, d5, d6, d7, d8, d9, d10, d11⟩ := HC.out _ hSw; go_simp; try with_reducible rfl)
  try simp only [Act.put, List.setIfInBounds_toArray, List.set_cons_zero, List.set_cons_succ]
  refine Late.take (i := 4) (oi := ⟨some 11, Op.fieldAddr 28 (Operand.tmp 3) 5, _, _, _, _⟩) (v := ?_) rfl (by kernel_rfl) (by kernel_rfl) (by kernel_rfl) (by kernel_rfl) (fun _ _ _ h => h) (Or.inl ⟨by rfl, fun w hSw => ?_⟩) (by assumption) ?_
  rotate_left
  · (have s1 := hSw; go_simp; try with_reducible rfl)
  try simp only [Act.put, List.setIfInBounds_toArray, List.set_cons_zero, List.set_cons_succ]
  refine Late.take (i := 5) (oi := ⟨some 12, Op.load 3 (Operand.tmp 11), _, _, _, _⟩) (v := ?_) rfl (by kernel_rfl) (by kernel_rfl) (by kernel_rfl) (by kernel_rfl) (fun _ _ _ h => h) (Or.inl ⟨by rfl, fun w hSw => ?_⟩) (by assumption) ?_
  rotate_left
  · (have s1 := hSw; obtain ⟨d0, d1, d2, d3, d4, d5, d6, d7, d8, d9, d10, d11⟩ := HC.out _ hSw; go_simp; try with_reducible rfl)
  try simp only [Act.put, List.setIfInBounds_toArray, List.set_cons_zero, List.set_cons_succ]
  refine Late.take (i := 7) (oi := ⟨some 14, Op.fieldAddr 28 (Operand.tmp 3) 6, _, _, _, _⟩) (v := ?_) rfl (by kernel_rfl) (by kernel_rfl) (by kernel_rfl) (by kernel_rfl) (fun _ _ _ h => h) (Or.inl ⟨by rfl, fun w hSw => ?_⟩) (by assumption) ?_
  rotate_left
  · (have s1 := hSw; go_simp; try with_reducible rfl)
  try simp only [Act.put, List.setIfInBounds_toArray, List.set_cons_zero, List.set_cons_succ]
  refine Late.take (i := 8) (oi := ⟨some 15, Op.load 23 (Operand.tmp 14), _, _, _, _⟩) (v := ?_) rfl (by kernel_rfl) (by kernel_rfl) (by kernel_rfl) (by kernel_rfl) (fun _ _ _ h => h) (Or.inl ⟨by rfl, fun w hSw => ?_⟩) (by assumption) ?_
  rotate_left
  · (have s1 := hSw; obtain ⟨d0, d1, d2, d3, d4, d5, d6, d7, d8, d9, d10, d11⟩ := HC.out _ hSw; go_simp; try with_reducible rfl)
  try simp only [Act.put, List.setIfInBounds_toArray, List.set_cons_zero, List.set_cons_succ]
  refine Late.take (i := 9) (oi := ⟨some 16, Op.call { callee := Callee.builtin Builtin.len, args := #[Operand.tmp 15], argTypes := #[23] }, _, _, _, _⟩) (v := ?_) rfl (by kernel_rfl) (by kernel_rfl) (by kernel_rfl) (by kernel_rfl) (fun _ _ _ h => h) (Or.inl ⟨by rfl, fun w hSw => ?_⟩) (by assumption) ?_
  rotate_left
  · (have s1 := hSw; go_simp; try with_reducible rfl)
  try simp only [Act.put, List.setIfInBounds_toArray, List.set_cons_zero, List.set_cons_succ]
  refine Late.one (i := 3) (o := ⟨some 10, Op.call { callee := Callee.value (Operand.func 59), args := #[Operand.tmp 7, Operand.tmp 9], argTypes := #[44, 3] }, _, _, _, _⟩) (by kernel_rfl) rfl (fun K hK => ?_)
  go_simp
  refine (int_wr RW.out.drew x.upto hup.1 hup.2).mono ?_
  rintro e w3 ⟨rfl, g1, r1, o1, f1⟩
  have F1 := Fresh.trans F0 f1 hHeld.size
  have hb1 := Wrote.trans hHeld o1 F0
  refine hK.out _ _ (hb1) (fun hHeld2 => ?_)
  clear hK K hHeld
  have hHeld := hHeld2
  clear hHeld2
  try simp only [Act.put, List.setIfInBounds_toArray, List.set_cons_zero, List.set_cons_succ]
  refine Late.one (i := 6) (o := ⟨some 13, Op.call { callee := Callee.value (Operand.func 59), args := #[Operand.tmp 10, Operand.tmp 12], argTypes := #[44, 3] }, _, _, _, _⟩) (by kernel_rfl) rfl (fun K hK => ?_)
  go_simp
  refine (int_wr r1 x.frm hfr.1 hfr.2).mono ?_
  rintro e w4 ⟨rfl, g2, r2, o2, f2⟩
  have F2 := Fresh.trans F1 f2 hHeld.size
  have hb2 := Wrote.trans hHeld o2 F1
  refine hK.out _ _ (hb2) (fun hHeld2 => ?_)
  clear hK K hHeld
  have hHeld := hHeld2
  clear hHeld2
  try simp only [Act.put, List.setIfInBounds_toArray, List.set_cons_zero, List.set_cons_succ]
  refine Late.one (i := 10) (o := ⟨some 17, Op.call { callee := Callee.value (Operand.func 59), args := #[Operand.tmp 13, Operand.tmp 16], argTypes := #[44, 3] }, _, _, _, _⟩) (by kernel_rfl) rfl (fun K hK => ?_)
  go_simp
  refine (int_wr r2 (x.en : Int) (by omega) (by omega)).mono ?_
  rintro e w5 ⟨rfl, g3, r3, o3, f3⟩
  have F3 := Fresh.trans F2 f3 hHeld.size
  have hb3 := Wrote.trans hHeld o3 F2
  refine hK.out _ _ (hb3) (fun hHeld2 => ?_)
  clear hK K hHeld
  have hHeld := hHeld2
  clear hHeld2
  try simp only [Act.put, List.setIfInBounds_toArray, List.set_cons_zero, List.set_cons_succ]
  refine Late.take (i := 11) (oi := ⟨some 0, Op.assign (Operand.tmp 17), _, _, _, _⟩) (v := ?_) rfl (by kernel_rfl) (by kernel_rfl) (by kernel_rfl) (by kernel_rfl) (fun _ _ _ h => h) (Or.inl ⟨by rfl, fun w hSw => ?_⟩) (by assumption) ?_
  rotate_left
  · (have s1 := hSw; go_simp; try with_reducible rfl)
  try simp only [Act.put, List.setIfInBounds_toArray, List.set_cons_zero, List.set_cons_succ]
  refine Late.done (by kernel_rfl) ?_ _
  refine NoPanic.normal ?_
  have O2 := Lib.hid hHeld
  have R2 := Lib.hid r3
  have F2' := Lib.hid F3
  obtain ⟨d0, d1, d2, d3, d4, d5, d6, d7, d8, d9, d10, d11⟩ := HC.out _ hHeld
  obtain ⟨EA, hEA⟩ : ∃ A, x.EA = A := ⟨_, rfl⟩
  rw [hEA] at d6
  have HM := Lib.hid (show Ents W1 B EA x.en x.es by rw [← hEA]; exact HM.out)
  clear hEA d0 d1 d2 d3 d4 d5 d7 d8 d9 d10 d11 hHeld r3 r2 r1 o1 o2 o3 f1 f2 f3 F1 F2 F3 F0 hb1 hb2 hb3
  obtain ⟨st2, hst2⟩ : ∃ s, wPut (wPut (wPut st (n64 x.upto)) (n64 x.frm)) (n64 (x.en : Int)) = s := ⟨_, rfl⟩
  rw [hst2] at R2
  have HS2 := Lib.hid hst2
  clear hst2
  go_wp2
  go_loopw [0, 21] (fun t0 i wr => ∃ (k : Nat) (gk : Option Nat), k ≤ x.en ∧ i = .int .i64 k ∧ t0 = .pointer (some ⟨b, 0, none⟩) ∧ Hid (Wr wr b gk (wPuts st2 (((x.es.map EX.z).take k).flatMap restP))) ∧ Hid (Wrote W1 wr b g0) ∧ Hid (Fresh W1 g0 gk)) (fun _ i _ => x.en - (intOf i).toNat)
  case atStart => exact ⟨0, _, by omega, rfl, rfl, R2, O2, F2'⟩
  case round =>
    obtain ⟨k, gk, hk, rfl, rfl, RR, OR, FR⟩ := hrel
    by_cases hlt : k < x.en
    · have hki : (k : Int) < (x.en : Int) := by omega
      have MK := HM.out.below (BEL.out _ OR.out) (Nat.le_refl _)
      obtain ⟨bb, off, y, hA, hb, hx, hm, hr⟩ := MK.row.at_ ec_len hlt
      obtain ⟨c0, c1, c2, c3, c4⟩ := rng_e hr
      have YO := Lib.hid (MK.ok y hm)
      have hyn := HNS.out y hm
      subst hA
      obtain ⟨W2, hW2⟩ : ∃ W, W = wr.alloc (.cells #[.int .i64 y.pos, .int .i64 y.stamp, .int .i64 y.client, .int .i64 y.id, .slice y.A y.n y.c] 42) := ⟨_, rfl⟩
      obtain ⟨gx, hgx⟩ : ∃ g, wr.heap.size = g := ⟨_, rfl⟩
      have Hgx := Lib.hid hgx
      have b2 := Lib.hid (show Below wr.heap.size wr W2 by rw [hW2]; exact below_one _ _)
      have V2 := Lib.hid (show VBox W2 gx 5 (ec y) by rw [hW2]; exact vbox_new wr (ec y) _ _ _ hgx rfl (by omega))
      have GA2 : Hid (wr.grownBy W2 none) := Lib.hid (by rw [hW2]; exact grown_alloc wr _ none)
      have RV := Lib.hid (show Wr W2 b gk (wPuts st2 (((x.es.map EX.z).take k).flatMap restP)) by rw [hW2]; exact RR.out.grown (grown_alloc wr _ none) (by simp) (by simp))
      have CP := Lib.hid (putrest_any RV.out (YO.out.below b2.out (by have := RR.out.lt; omega)) hB hyn)
      have HW2 := Lib.hid hW2
      clear hm hr hW2 hgx MK
      go_upto_region 5 with fail
      rw [← HW2.out, Hgx.out]
      clear c0 c1 c2 c3 c4
      go_wp2_with (first
            | (with_reducible show wpList _ _ _ (⟨some 26, .load 42 (.tmp 6), _, _, _, _⟩ :: _) _ _; refine wpList_load_mid (op := ⟨some 26, .load 42 (.tmp 6), _, _, _, _⟩) rfl 42 (.tmp 6) rfl (gx) (0) rfl (ec y) _ (V2.out.range) Try.underlying42 rfl (e_size _) ?_)
            | (go_at_call 58; refine CP.out.mono ?_; rintro e w8 ⟨rfl, g3, r3, o3, f3⟩))
      have OK : Hid (Wrote W1 w8 b g0) := Lib.hid (OR.out.trans (Wrote.trans (Wrote.of_grown GA2.out (.inl rfl)) o3 (.inl rfl)) FR.out)
      have FK : Hid (Fresh W1 g0 g3) := Lib.hid (Fresh.trans FR.out (Fresh.trans (.inl rfl) f3 b2.out.size) OR.out.size)
      have RK : Hid (Wr w8 b g3 (wPuts st2 (((x.es.map EX.z).take (k + 1)).flatMap restP))) := Lib.hid (by rw [take_flat restP (show (x.es.map EX.z)[k]? = some y.z by rw [List.getElem?_map, hx.out]; rfl), wPuts_app]; exact r3)
      clear r3 o3 f3
      go_roundw
      case rel => exact ⟨k + 1, _, by omega, by go_num, rfl, RK, OK, FK⟩
      case measure => simp [intOf]; omega
    · have hki : ¬ (k : Int) < (x.en : Int) := by omega
      have hkn : k = x.en := by omega
      have RE : Hid (Wr wr b gk (wPuts st (appP x.upto x.frm (x.es.map EX.z)))) := Lib.hid (by
        have e : ((x.es.map EX.z).take k) = x.es.map EX.z := List.take_of_length_le (by rw [List.length_map, HM.out.row.len]; omega)
        have := RR.out
        rw [e, ← HS2.out] at this
        unfold appP
        rw [wPuts_app, List.length_map, HM.out.row.len]
        exact this)
      go_wp2
      go_ret
      exact Puts.from GA.out ⟨rfl, gk, RE.out, OR.out, FR.out⟩
end Go.Proofs.Ytfihiandifnkpaa
