/- Which messages may be: the document's May. Printed by gen_msrm.py. -/
import Derived.Test.YtfihiandifnkpaaMsFl
namespace Go.Proofs.Ytfihiandifnkpaa
open Go.ChangeShapes Go.WideShapes Go.ChangeAt Go.RowKit
set_option linter.unusedVariables false
set_option maxRecDepth 100000
set_option linter.unusedSimpArgs false
open Plain Sha Ms
theorem esE_nil (a : List EntZ) : esE a [] = decide (a.length = 0) := by
  unfold esE
  by_cases h : a.length = 0
  · simp [h, allT]
  · have h2 : ¬ a = [] := by simpa using h
    simp [h2]
theorem msE_nil (a : List MemZ) : msE a [] = decide (a.length = 0) := by
  unfold msE
  by_cases h : a.length = 0
  · simp [h, allT]
  · have h2 : ¬ a = [] := by simpa using h
    simp [h2]
theorem own_none {x : MX} (h : kindB x.kind = true) : msgE x.z (ownX x).z = noneB (othM x.z) := by
  have hk : x.kind = 1 ∨ x.kind = 6 ∨ x.kind = 2 ∨ x.kind = 3 ∨ x.kind = 4 ∨ x.kind = 5 := by
    unfold kindB at h
    simp only [Bool.and_eq_true, decide_eq_true_eq] at h
    omega
  rw [Bool.eq_iff_iff]
  rcases hk with e | e | e | e | e | e <;>
    simp [msgE, noneB, zA, zB, zC, zD, zE, othM, ownX, MX.z, mx0, e, eqB_refl, esE_refl, msE_refl, esE_nil, msE_nil, eqB, and_assoc]
theorem mayM_own (x : MX) : mayM x.z = (kindB x.kind && msgE x.z (ownX x).z && askM x.z) := by
  unfold mayM
  cases hk : kindB x.kind with
  | false => have : kindB x.z.kind = false := hk; rw [this]; rfl
  | true => have : kindB x.z.kind = true := hk; rw [this, own_none hk]
theorem ownX_ok {w : World} {B : Nat} {x : MX} (h : MXOk w B x) : MXOk w B (ownX x) := by
  have z := mx0_ok w B
  unfold ownX
  split
  · exact ⟨h.kind, h.client, h.id, h.cap, h.max, h.body, z.upto, z.frm, z.ecap, z.emax, z.es, z.hav, z.don, z.ep, z.mcap, z.mmax, z.ms, z.since⟩
  · split
    · exact ⟨h.kind, z.client, z.id, z.cap, z.max, z.body, h.upto, h.frm, h.ecap, h.emax, h.es, z.hav, z.don, z.ep, z.mcap, z.mmax, z.ms, z.since⟩
    · split
      · exact ⟨h.kind, z.client, z.id, z.cap, z.max, z.body, z.upto, z.frm, z.ecap, z.emax, z.es, h.hav, h.don, z.ep, z.mcap, z.mmax, z.ms, z.since⟩
      · split
        · exact ⟨h.kind, z.client, z.id, z.cap, z.max, z.body, z.upto, z.frm, z.ecap, z.emax, z.es, z.hav, z.don, h.ep, h.mcap, h.mmax, h.ms, z.since⟩
        · split
          · exact ⟨h.kind, z.client, z.id, z.cap, z.max, z.body, z.upto, z.frm, z.ecap, z.emax, z.es, z.hav, z.don, z.ep, z.mcap, z.mmax, z.ms, h.since⟩
          · exact ⟨h.kind, z.client, z.id, z.cap, z.max, z.body, z.upto, z.frm, z.ecap, z.emax, z.es, z.hav, z.don, z.ep, z.mcap, z.mmax, z.ms, z.since⟩
set_option maxHeartbeats 16000000 in
theorem rmay_any {w : World} {B : Nat} {x : MX} (q : Bool) (h : MXOk w B x) (hB : B ≤ w.heap.size) (hq : mayM x.z = q) : Calls Try.prog 11 #[.agg (mc x).toArray] w (fun e w' => e = .returned (.bool q) ∧ Below w.heap.size w w') := by
  obtain ⟨W1, hW1⟩ : ∃ W, W = w.alloc (.cells (mc x).toArray 28) := ⟨_, rfl⟩
  have b1 := Lib.hid (show Below w.heap.size w W1 by rw [hW1]; exact below_one _ _)
  obtain ⟨g, hg⟩ : ∃ g, w.heap.size = g := ⟨_, rfl⟩
  have Hg := Lib.hid hg
  have V1 := Lib.hid (show VBox W1 g 12 (mc x) by rw [hW1]; exact vbox_new _ _ _ _ _ hg rfl (by omega))
  have z1 := Lib.hid (show W1.heap.size = g + 1 by rw [hW1]; simp [hg])
  have HW1 := Lib.hid hW1
  obtain ⟨q0, q1, q2, q3, q4, q5, q6, q7, q8, q9, q10, q11⟩ := V1.out.m
  clear hW1 hg
  have HM1 := Lib.hid (show (kindB x.kind && msgE x.z (ownX x).z && askM x.z) = q by rw [← mayM_own]; exact hq)
  have HX := Lib.hid h
  have HXO := Lib.hid (fun (W : World) (hW : Below W1.heap.size W1 W) => (⟨((h.below b1.out hB).more (Nat.le_trans hB (Nat.le_refl _))).below hW b1.out.size, Nat.le_trans b1.out.size hW.size⟩ : MXOk W w.heap.size x ∧ w.heap.size ≤ W.heap.size))
  have HC := Lib.hid (fun (W : World) (hW : Below W1.heap.size W1 W) => ((V1.out.grow hW).m))
  have HD := Lib.hid (show Below W1.heap.size W1 W1.drew from below_drewN (Below.refl _ _) 1)
  obtain ⟨sv, hsv⟩ : ∃ s, msgE x.z (ownX x).z = s := ⟨_, rfl⟩
  have HSV := Lib.hid hsv
  clear hq h hsv q0 q1 q2 q3 q4 q5 q6 q7 q8 q9 q10 q11
  go_enter Try.func11, Try.ntmps11
  go_upto_region 1 with fail
  rw [← HW1.out, Hg.out]
  refine Late.region (fun w' => Below W1.heap.size W1 w') [] (by kernel_rfl) HD.out (fun hHeld => ?_)
  refine Late.take (i := 0) (oi := ⟨some 4, Op.load 28 (Operand.tmp 1), _, _, _, _⟩) (v := ?_) rfl (by kernel_rfl) (by kernel_rfl) (by kernel_rfl) (by kernel_rfl) (fun _ _ _ h => h) (Or.inl ⟨by rfl, fun w hSw => ?_⟩) (by assumption) ?_
  rotate_left
  · (have s1 := hSw; obtain ⟨d0, d1, d2, d3, d4, d5, d6, d7, d8, d9, d10, d11⟩ := HC.out _ hSw; go_simp; try with_reducible rfl)
  try simp only [Act.put, List.setIfInBounds_toArray, List.set_cons_zero, List.set_cons_succ]
  refine Late.take (i := 1) (oi := ⟨some 5, Op.load 28 (Operand.tmp 1), _, _, _, _⟩) (v := ?_) rfl (by kernel_rfl) (by kernel_rfl) (by kernel_rfl) (by kernel_rfl) (fun _ _ _ h => h) (Or.inl ⟨by rfl, fun w hSw => ?_⟩) (by assumption) ?_
  rotate_left
  · (have s1 := hSw; obtain ⟨d0, d1, d2, d3, d4, d5, d6, d7, d8, d9, d10, d11⟩ := HC.out _ hSw; go_simp; try with_reducible rfl)
  try simp only [Act.put, List.setIfInBounds_toArray, List.set_cons_zero, List.set_cons_succ]
  refine Late.one (i := 2) (o := ⟨some 6, Op.call { callee := Callee.value (Operand.func 39), args := #[Operand.tmp 5], argTypes := #[28] }, _, _, _, _⟩) (by kernel_rfl) rfl (fun K hK => ?_)
  go_simp
  refine (fields_any x W1.drew).mono ?_
  rintro e w3 ⟨rfl, hb3⟩
  have hbA := hHeld.trans (hb3.mono hHeld.size)
  refine hK.out _ _ (hbA) (fun hHeld2 => ?_)
  clear hK K hHeld
  have hHeld := hHeld2
  clear hHeld2
  try simp only [Act.put, List.setIfInBounds_toArray, List.set_cons_zero, List.set_cons_succ]
  refine Late.one (i := 3) (o := ⟨some 7, Op.call { callee := Callee.value (Operand.func 19), args := #[Operand.tmp 4, Operand.tmp 6], argTypes := #[28, 28] }, _, _, _, _⟩) (by kernel_rfl) rfl (fun K hK => ?_)
  go_simp
  refine (same_anyM sv (HXO.out _ hHeld).1 (ownX_ok (HXO.out _ hHeld).1) (HXO.out _ hHeld).2 (HXO.out _ hHeld).2 HSV.out).mono ?_
  rintro e w4 ⟨rfl, hb4⟩
  have hbB := hHeld.trans (hb4.mono hHeld.size)
  refine hK.out _ _ (hbB) (fun hHeld2 => ?_)
  clear hK K hHeld
  have hHeld := hHeld2
  clear hHeld2
  try simp only [Act.put, List.setIfInBounds_toArray, List.set_cons_zero, List.set_cons_succ]
  refine Late.take (i := 4) (oi := ⟨some 8, Op.unOp UnOp.not 4 (Operand.tmp 7), _, _, _, _⟩) (v := ?_) rfl (by kernel_rfl) (by kernel_rfl) (by kernel_rfl) (by kernel_rfl) (fun _ _ _ h => h) (Or.inl ⟨by rfl, fun w hSw => ?_⟩) (by assumption) ?_
  rotate_left
  · (have s1 := hSw; go_simp; try with_reducible rfl)
  try simp only [Act.put, List.setIfInBounds_toArray, List.set_cons_zero, List.set_cons_succ]
  refine Late.done (by kernel_rfl) ?_ _
  refine NoPanic.normal ?_
  have B4 := Lib.hid hHeld
  clear hHeld
  have B4w := Lib.hid (b1.out.trans (B4.out.mono b1.out.size))
  have V4 := Lib.hid (V1.out.grow B4.out)
  cases sv with
  | false =>
    have e : false = q := by rw [← HM1.out, HSV.out]; simp
    subst e
    go_wp2
    go_ret
    exact ⟨rfl, B4w.out⟩
  | true =>
    obtain ⟨q0, q1, q2, q3, q4, q5, q6, q7, q8, q9, q10, q11⟩ := V4.out.m
    go_upto_region 3 with fail
    obtain ⟨kd, hkd⟩ : ∃ k, x.kind = k := ⟨_, rfl⟩
    rw [hkd] at q0
    have KQ : Hid ((kindB x.kind && msgE x.z (ownX x).z && askM x.z) = (kindB kd && askM x.z)) := Lib.hid (by rw [HSV.out, hkd]; simp)
    by_cases e1 : kd = 1
    · subst e1
      have AK : Hid (x.kind = 1 ∨ x.kind = 6) := Lib.hid (Or.inl hkd)
      clear hkd
      obtain ⟨cv, hcv⟩ : ∃ c, cliB x.client x.id = c := ⟨_, rfl⟩
      have HQ : Hid ((cv && decide (x.n ≤ 20000)) = q) := Lib.hid (by rw [← HM1.out, KQ.out, askM_1 AK.out HX.out.body.len, hcv]; simp [kindB])
      have HCL := Lib.hid (rclient_any x.client x.id cv hcv)
      clear hcv
      by_cases h0 : cv = true
      · subst h0
        have hi1 : (x.n ≤ 20000) ↔ ((x.n : Int) ≤ 20000) := by omega
        have e : decide ((x.n : Int) ≤ 20000) = q := by rw [← HQ.out]; simp [hi1]
        clear HQ
        go_wp2_with (go_at_call 40; refine (HCL.out _).mono ?_; rintro e w5 ⟨rfl, rfl⟩)
        go_ret
        exact ⟨(by rw [← e] <;> rfl), B4w.out⟩
      · have h0 : cv = false := by simpa using h0
        subst h0
        have e : false = q := by rw [← HQ.out]; simp []
        subst e
        clear HQ
        go_wp2_with (go_at_call 40; refine (HCL.out _).mono ?_; rintro e w5 ⟨rfl, rfl⟩)
        go_ret
        exact ⟨rfl, B4w.out⟩
    · by_cases e6 : kd = 6
      · subst e6
        have AK : Hid (x.kind = 1 ∨ x.kind = 6) := Lib.hid (Or.inr hkd)
        clear hkd
        obtain ⟨cv, hcv⟩ : ∃ c, cliB x.client x.id = c := ⟨_, rfl⟩
        have HQ : Hid ((cv && decide (x.n ≤ 20000)) = q) := Lib.hid (by rw [← HM1.out, KQ.out, askM_1 AK.out HX.out.body.len, hcv]; simp [kindB])
        have HCL := Lib.hid (rclient_any x.client x.id cv hcv)
        clear hcv
        by_cases h0 : cv = true
        · subst h0
          have hi1 : (x.n ≤ 20000) ↔ ((x.n : Int) ≤ 20000) := by omega
          have e : decide ((x.n : Int) ≤ 20000) = q := by rw [← HQ.out]; simp [hi1]
          clear HQ
          go_wp2_with (go_at_call 40; refine (HCL.out _).mono ?_; rintro e w5 ⟨rfl, rfl⟩)
          go_ret
          exact ⟨(by rw [← e] <;> rfl), B4w.out⟩
        · have h0 : cv = false := by simpa using h0
          subst h0
          have e : false = q := by rw [← HQ.out]; simp []
          subst e
          clear HQ
          go_wp2_with (go_at_call 40; refine (HCL.out _).mono ?_; rintro e w5 ⟨rfl, rfl⟩)
          go_ret
          exact ⟨rfl, B4w.out⟩
      · by_cases e2 : kd = 2
        · subst e2
          have AK : Hid (x.kind = 2) := Lib.hid (hkd)
          clear hkd
          obtain ⟨cv, hcv⟩ : ∃ c, allT (rowB x.frm (x.es.map EX.z)) x.en = c := ⟨_, rfl⟩
          have HCV := Lib.hid hcv
          have HQ : Hid ((decide (0 ≤ x.upto) && decide (1 ≤ x.frm) && decide (x.en ≤ 4) && cv) = q) := Lib.hid (by rw [← HM1.out, KQ.out, askM_2 AK.out, ← hcv]; unfold appB; rw [List.length_map, HX.out.es.row.len]; simp [kindB])
          clear hcv
          by_cases h0 : 0 ≤ x.upto
          · have i0 : ¬ x.upto < 0 := by omega
            by_cases h1 : 1 ≤ x.frm
            · have i1 : ¬ x.frm < 1 := by omega
              by_cases h2 : x.en ≤ 4
              · have i2 : ¬ (4 : Int) < (x.en : Int) := by omega
                have e : cv = q := by rw [← HQ.out]; simp [h0, h1, h2]
                clear HQ
                have E := Lib.hid e
                clear e
                go_wp2
                go_loopw [3] (fun i wr => ∃ k : Nat, k ≤ x.en ∧ i = .int .i64 k ∧ Hid (Below w4.heap.size w4 wr) ∧ Hid (allT (rowB x.frm (x.es.map EX.z)) k = true)) (fun i _ => x.en - (intOf i).toNat)
                case atStart => exact ⟨0, by omega, rfl, Lib.hid (Below.refl _ _), Lib.hid rfl⟩
                case round =>
                  obtain ⟨k, hk, rfl, BR, PR⟩ := hrel
                  have BRw := Lib.hid (B4w.out.trans (BR.out.mono B4w.out.size))
                  have BR1 := Lib.hid (B4.out.trans (BR.out.mono B4.out.size))
                  have Vr := Lib.hid (V4.out.grow BR.out)
                  obtain ⟨q0, q1, q2, q3, q4, q5, q6, q7, q8, q9, q10, q11⟩ := Vr.out.m
                  by_cases hlt : k < x.en
                  · have hki : (k : Int) < (x.en : Int) := by omega
                    have HE := Lib.hid (HXO.out _ BR1.out)
                    obtain ⟨bb, off, y, hA, hb, hy, hmm, hr⟩ := HE.out.1.es.row.at_ ec_len hlt
                    rw [hA] at q6
                    obtain ⟨ev, hev⟩ : ∃ c, entB y.z = c := ⟨_, rfl⟩
                    have HEV := Lib.hid hev
                    obtain ⟨pv, hpv⟩ : ∃ p, wrap64 (x.frm + k) = p := ⟨_, rfl⟩
                    have hw : IntKind.i64.wrap (x.frm + k) = pv := by rw [← hpv, IntKind.wrap_i64]; unfold wrap64; omega
                    have HR : Hid (rowB x.frm (x.es.map EX.z) k = (decide (y.pos = pv) && ev)) := Lib.hid (by unfold rowB; rw [getD_map0 _ _ _ hy.out, ← hev, ← hpv]; rfl)
                    have HCE := Lib.hid (fun (W : World) (hW : Below wr.heap.size wr W) => (⟨(HE.out.1.es.ok y hmm).below hW HE.out.2, Nat.le_trans HE.out.2 hW.size⟩ : EOk W w.heap.size y ∧ w.heap.size ≤ W.heap.size))
                    have HF := Lib.hid (rng_e hr)
                    have hbr : bb < wr.heap.size := Nat.lt_of_lt_of_le hb HE.out.2
                    have HV6 := Lib.hid q6
                    have HCW := Lib.hid (fun (W : World) (hW : Below wr.heap.size wr W) => (⟨(Vr.out.grow hW).m.2.2.2.2.2.1, (hW.cell (p := ⟨g, 6, none⟩) Vr.out.lt).trans HV6.out, (hW.cell (p := ⟨bb, off + k * 5, none⟩) hbr).trans HF.out.1, (hW.cell (p := ⟨bb, off + k * 5 + 1, none⟩) hbr).trans HF.out.2.1, (hW.cell (p := ⟨bb, off + k * 5 + 2, none⟩) hbr).trans HF.out.2.2.1, (hW.cell (p := ⟨bb, off + k * 5 + 3, none⟩) hbr).trans HF.out.2.2.2.1, (hW.cell (p := ⟨bb, off + k * 5 + 4, none⟩) hbr).trans HF.out.2.2.2.2⟩ : W.cell? ⟨g, 5, none⟩ = some (.int .i64 x.frm) ∧ W.cell? ⟨g, 6, none⟩ = some (.slice (some ⟨bb, off, none⟩) x.en x.ecp) ∧ W.cell? ⟨bb, off + k * 5, none⟩ = some (.int .i64 y.pos) ∧ W.cell? ⟨bb, off + k * 5 + 1, none⟩ = some (.int .i64 y.stamp) ∧ W.cell? ⟨bb, off + k * 5 + 2, none⟩ = some (.int .i64 y.client) ∧ W.cell? ⟨bb, off + k * 5 + 3, none⟩ = some (.int .i64 y.id) ∧ W.cell? ⟨bb, off + k * 5 + 4, none⟩ = some (.slice y.A y.n y.c)))
                    have HDr := Lib.hid (show Below wr.heap.size wr wr.drew from below_drewN (Below.refl _ _) 1)
                    clear hev hpv hr hy hmm hA
                    go_upto_region 13 with fail
                    clear q0 q1 q2 q3 q4 q5 q6 q7 q8 q9 q10 q11
                    cases ev with
                    | false =>
                      have e : false = q := by rw [← E.out, ← HCV.out]; exact (allT_no hlt (by rw [HR.out]; simp)).symm
                      subst e
                      refine Late.region (fun w' => Below wr.heap.size wr w') [] (by kernel_rfl) HDr.out (fun hHeld => ?_)
                      refine Late.take (i := 0) (oi := ⟨some 48, Op.fieldAddr 28 (Operand.tmp 1) 6, _, _, _, _⟩) (v := ?_) rfl (by kernel_rfl) (by kernel_rfl) (by kernel_rfl) (by kernel_rfl) (fun _ _ _ h => h) (Or.inl ⟨by rfl, fun w hSw => ?_⟩) (by assumption) ?_
                      rotate_left
                      · (have s1 := hSw; go_simp; try with_reducible rfl)
                      try simp only [Act.put, List.setIfInBounds_toArray, List.set_cons_zero, List.set_cons_succ]
                      refine Late.take (i := 1) (oi := ⟨some 49, Op.load 23 (Operand.tmp 48), _, _, _, _⟩) (v := ?_) rfl (by kernel_rfl) (by kernel_rfl) (by kernel_rfl) (by kernel_rfl) (fun _ _ _ h => h) (Or.inl ⟨by rfl, fun w hSw => ?_⟩) (by assumption) ?_
                      rotate_left
                      · (have s1 := hSw; obtain ⟨q5, q6, c0, c1, c2, c3, c4⟩ := HCW.out _ hSw; go_simp; try with_reducible rfl)
                      try simp only [Act.put, List.setIfInBounds_toArray, List.set_cons_zero, List.set_cons_succ]
                      refine Late.take (i := 2) (oi := ⟨some 50, Op.move (Operand.tmp 3), _, _, _, _⟩) (v := ?_) rfl (by kernel_rfl) (by kernel_rfl) (by kernel_rfl) (by kernel_rfl) (fun _ _ _ h => h) (Or.inl ⟨by rfl, fun w hSw => ?_⟩) (by assumption) ?_
                      rotate_left
                      · (have s1 := hSw; go_simp; try with_reducible rfl)
                      try simp only [Act.put, List.setIfInBounds_toArray, List.set_cons_zero, List.set_cons_succ]
                      refine Late.take (i := 3) (oi := ⟨some 51, Op.indexAddr 23 (Operand.tmp 49) (Operand.tmp 50), _, _, _, _⟩) (v := ?_) rfl (by kernel_rfl) (by kernel_rfl) (by kernel_rfl) (by kernel_rfl) (fun _ _ _ h => h) (Or.inl ⟨by rfl, fun w hSw => ?_⟩) (by assumption) ?_
                      rotate_left
                      · (have s1 := hSw; go_simp; try with_reducible rfl)
                      try simp only [Act.put, List.setIfInBounds_toArray, List.set_cons_zero, List.set_cons_succ]
                      refine Late.take (i := 4) (oi := ⟨some 52, Op.load 42 (Operand.tmp 51), _, _, _, _⟩) (v := ?_) rfl (by kernel_rfl) (by kernel_rfl) (by kernel_rfl) (by kernel_rfl) (fun _ _ _ h => h) (Or.inl ⟨by rfl, fun w hSw => ?_⟩) (by assumption) ?_
                      rotate_left
                      · (have s1 := hSw; obtain ⟨q5, q6, c0, c1, c2, c3, c4⟩ := HCW.out _ hSw; go_simp; try with_reducible rfl)
                      try simp only [Act.put, List.setIfInBounds_toArray, List.set_cons_zero, List.set_cons_succ]
                      refine Late.one (i := 5) (o := ⟨some 53, Op.call { callee := Callee.value (Operand.func 27), args := #[Operand.tmp 52], argTypes := #[42] }, _, _, _, _⟩) (by kernel_rfl) rfl (fun K hK => ?_)
                      go_simp
                      refine (rmayentry_any _ (HCE.out _ hHeld).1 HEV.out).mono ?_
                      rintro e w6 ⟨rfl, hb6⟩
                      have hbA := hHeld.trans (hb6.mono hHeld.size)
                      refine hK.out _ _ (hbA) (fun hHeld2 => ?_)
                      clear hK K hHeld
                      have hHeld := hHeld2
                      clear hHeld2
                      try simp only [Act.put, List.setIfInBounds_toArray, List.set_cons_zero, List.set_cons_succ]
                      refine Late.take (i := 6) (oi := ⟨some 54, Op.unOp UnOp.not 4 (Operand.tmp 53), _, _, _, _⟩) (v := ?_) rfl (by kernel_rfl) (by kernel_rfl) (by kernel_rfl) (by kernel_rfl) (fun _ _ _ h => h) (Or.inl ⟨by rfl, fun w hSw => ?_⟩) (by assumption) ?_
                      rotate_left
                      · (have s1 := hSw; go_simp; try with_reducible rfl)
                      try simp only [Act.put, List.setIfInBounds_toArray, List.set_cons_zero, List.set_cons_succ]
                      refine Late.take (i := 7) (oi := ⟨some 55, Op.move (Operand.tmp 54), _, _, _, _⟩) (v := ?_) rfl (by kernel_rfl) (by kernel_rfl) (by kernel_rfl) (by kernel_rfl) (fun _ _ _ h => h) (Or.inl ⟨by rfl, fun w hSw => ?_⟩) (by assumption) ?_
                      rotate_left
                      · (have s1 := hSw; go_simp; try with_reducible rfl)
                      try simp only [Act.put, List.setIfInBounds_toArray, List.set_cons_zero, List.set_cons_succ]
                      refine Late.take (i := 8) (oi := ⟨some 56, Op.fieldAddr 28 (Operand.tmp 1) 6, _, _, _, _⟩) (v := undef) rfl (by kernel_rfl) (by kernel_rfl) (by kernel_rfl) (by kernel_rfl) (fun _ _ _ h => h) (Or.inr ⟨by rfl, rfl⟩) (by assumption) ?_
                      try simp only [Act.put, List.setIfInBounds_toArray, List.set_cons_zero, List.set_cons_succ]
                      refine Late.take (i := 9) (oi := ⟨some 57, Op.load 23 (Operand.tmp 56), _, _, _, _⟩) (v := undef) rfl (by kernel_rfl) (by kernel_rfl) (by kernel_rfl) (by kernel_rfl) (fun _ _ _ h => h) (Or.inr ⟨by rfl, rfl⟩) (by assumption) ?_
                      try simp only [Act.put, List.setIfInBounds_toArray, List.set_cons_zero, List.set_cons_succ]
                      refine Late.take (i := 10) (oi := ⟨some 58, Op.move (Operand.tmp 3), _, _, _, _⟩) (v := undef) rfl (by kernel_rfl) (by kernel_rfl) (by kernel_rfl) (by kernel_rfl) (fun _ _ _ h => h) (Or.inr ⟨by rfl, rfl⟩) (by assumption) ?_
                      try simp only [Act.put, List.setIfInBounds_toArray, List.set_cons_zero, List.set_cons_succ]
                      refine Late.take (i := 11) (oi := ⟨some 59, Op.indexAddr 23 (Operand.tmp 57) (Operand.tmp 58), _, _, _, _⟩) (v := undef) rfl (by kernel_rfl) (by kernel_rfl) (by kernel_rfl) (by kernel_rfl) (fun _ _ _ h => h) (Or.inr ⟨by rfl, rfl⟩) (by assumption) ?_
                      try simp only [Act.put, List.setIfInBounds_toArray, List.set_cons_zero, List.set_cons_succ]
                      refine Late.take (i := 12) (oi := ⟨some 60, Op.fieldAddr 42 (Operand.tmp 59) 0, _, _, _, _⟩) (v := undef) rfl (by kernel_rfl) (by kernel_rfl) (by kernel_rfl) (by kernel_rfl) (fun _ _ _ h => h) (Or.inr ⟨by rfl, rfl⟩) (by assumption) ?_
                      try simp only [Act.put, List.setIfInBounds_toArray, List.set_cons_zero, List.set_cons_succ]
                      refine Late.take (i := 13) (oi := ⟨some 61, Op.load 3 (Operand.tmp 60), _, _, _, _⟩) (v := undef) rfl (by kernel_rfl) (by kernel_rfl) (by kernel_rfl) (by kernel_rfl) (fun _ _ _ h => h) (Or.inr ⟨by rfl, rfl⟩) (by assumption) ?_
                      try simp only [Act.put, List.setIfInBounds_toArray, List.set_cons_zero, List.set_cons_succ]
                      refine Late.take (i := 14) (oi := ⟨some 62, Op.fieldAddr 28 (Operand.tmp 1) 5, _, _, _, _⟩) (v := undef) rfl (by kernel_rfl) (by kernel_rfl) (by kernel_rfl) (by kernel_rfl) (fun _ _ _ h => h) (Or.inr ⟨by rfl, rfl⟩) (by assumption) ?_
                      try simp only [Act.put, List.setIfInBounds_toArray, List.set_cons_zero, List.set_cons_succ]
                      refine Late.take (i := 15) (oi := ⟨some 63, Op.load 3 (Operand.tmp 62), _, _, _, _⟩) (v := undef) rfl (by kernel_rfl) (by kernel_rfl) (by kernel_rfl) (by kernel_rfl) (fun _ _ _ h => h) (Or.inr ⟨by rfl, rfl⟩) (by assumption) ?_
                      try simp only [Act.put, List.setIfInBounds_toArray, List.set_cons_zero, List.set_cons_succ]
                      refine Late.take (i := 16) (oi := ⟨some 64, Op.move (Operand.tmp 3), _, _, _, _⟩) (v := undef) rfl (by kernel_rfl) (by kernel_rfl) (by kernel_rfl) (by kernel_rfl) (fun _ _ _ h => h) (Or.inr ⟨by rfl, rfl⟩) (by assumption) ?_
                      try simp only [Act.put, List.setIfInBounds_toArray, List.set_cons_zero, List.set_cons_succ]
                      refine Late.take (i := 17) (oi := ⟨some 65, Op.binOp BinOp.add 3 (Operand.tmp 63) (Operand.tmp 64) 3, _, _, _, _⟩) (v := undef) rfl (by kernel_rfl) (by kernel_rfl) (by kernel_rfl) (by kernel_rfl) (fun _ _ _ h => h) (Or.inr ⟨by rfl, rfl⟩) (by assumption) ?_
                      try simp only [Act.put, List.setIfInBounds_toArray, List.set_cons_zero, List.set_cons_succ]
                      refine Late.take (i := 18) (oi := ⟨some 66, Op.binOp BinOp.neq 3 (Operand.tmp 61) (Operand.tmp 65) 3, _, _, _, _⟩) (v := undef) rfl (by kernel_rfl) (by kernel_rfl) (by kernel_rfl) (by kernel_rfl) (fun _ _ _ h => h) (Or.inr ⟨by rfl, rfl⟩) (by assumption) ?_
                      try simp only [Act.put, List.setIfInBounds_toArray, List.set_cons_zero, List.set_cons_succ]
                      refine Late.take (i := 19) (oi := ⟨some 67, Op.pick (Operand.tmp 55) (Operand.const (Value.bool true)) (Operand.tmp 66), _, _, _, _⟩) (v := ?_) rfl (by kernel_rfl) (by kernel_rfl) (by kernel_rfl) (by kernel_rfl) (fun _ _ _ h => h) (Or.inl ⟨by rfl, fun w hSw => ?_⟩) (by assumption) ?_
                      rotate_left
                      · (have s1 := hSw; go_simp; try with_reducible rfl)
                      try simp only [Act.put, List.setIfInBounds_toArray, List.set_cons_zero, List.set_cons_succ]
                      refine Late.done (by kernel_rfl) ?_ _
                      refine NoPanic.normal ?_
                      have BZ := Lib.hid (BRw.out.trans (hHeld.mono BRw.out.size))
                      clear hHeld
                      go_wp2
                      go_ret
                      exact ⟨rfl, BZ.out⟩
                    | true =>
                      by_cases hp : y.pos = pv
                      · have PR2 : Hid (allT (rowB x.frm (x.es.map EX.z)) (k + 1) = true) := Lib.hid (by show (allT _ k && _) = true; rw [PR.out, HR.out]; simp [hp])
                        subst hp
                        refine Late.region (fun w' => Below wr.heap.size wr w') [] (by kernel_rfl) HDr.out (fun hHeld => ?_)
                        refine Late.take (i := 0) (oi := ⟨some 48, Op.fieldAddr 28 (Operand.tmp 1) 6, _, _, _, _⟩) (v := ?_) rfl (by kernel_rfl) (by kernel_rfl) (by kernel_rfl) (by kernel_rfl) (fun _ _ _ h => h) (Or.inl ⟨by rfl, fun w hSw => ?_⟩) (by assumption) ?_
                        rotate_left
                        · (have s1 := hSw; go_simp; try with_reducible rfl)
                        try simp only [Act.put, List.setIfInBounds_toArray, List.set_cons_zero, List.set_cons_succ]
                        refine Late.take (i := 1) (oi := ⟨some 49, Op.load 23 (Operand.tmp 48), _, _, _, _⟩) (v := ?_) rfl (by kernel_rfl) (by kernel_rfl) (by kernel_rfl) (by kernel_rfl) (fun _ _ _ h => h) (Or.inl ⟨by rfl, fun w hSw => ?_⟩) (by assumption) ?_
                        rotate_left
                        · (have s1 := hSw; obtain ⟨q5, q6, c0, c1, c2, c3, c4⟩ := HCW.out _ hSw; go_simp; try with_reducible rfl)
                        try simp only [Act.put, List.setIfInBounds_toArray, List.set_cons_zero, List.set_cons_succ]
                        refine Late.take (i := 2) (oi := ⟨some 50, Op.move (Operand.tmp 3), _, _, _, _⟩) (v := ?_) rfl (by kernel_rfl) (by kernel_rfl) (by kernel_rfl) (by kernel_rfl) (fun _ _ _ h => h) (Or.inl ⟨by rfl, fun w hSw => ?_⟩) (by assumption) ?_
                        rotate_left
                        · (have s1 := hSw; go_simp; try with_reducible rfl)
                        try simp only [Act.put, List.setIfInBounds_toArray, List.set_cons_zero, List.set_cons_succ]
                        refine Late.take (i := 3) (oi := ⟨some 51, Op.indexAddr 23 (Operand.tmp 49) (Operand.tmp 50), _, _, _, _⟩) (v := ?_) rfl (by kernel_rfl) (by kernel_rfl) (by kernel_rfl) (by kernel_rfl) (fun _ _ _ h => h) (Or.inl ⟨by rfl, fun w hSw => ?_⟩) (by assumption) ?_
                        rotate_left
                        · (have s1 := hSw; go_simp; try with_reducible rfl)
                        try simp only [Act.put, List.setIfInBounds_toArray, List.set_cons_zero, List.set_cons_succ]
                        refine Late.take (i := 4) (oi := ⟨some 52, Op.load 42 (Operand.tmp 51), _, _, _, _⟩) (v := ?_) rfl (by kernel_rfl) (by kernel_rfl) (by kernel_rfl) (by kernel_rfl) (fun _ _ _ h => h) (Or.inl ⟨by rfl, fun w hSw => ?_⟩) (by assumption) ?_
                        rotate_left
                        · (have s1 := hSw; obtain ⟨q5, q6, c0, c1, c2, c3, c4⟩ := HCW.out _ hSw; go_simp; try with_reducible rfl)
                        try simp only [Act.put, List.setIfInBounds_toArray, List.set_cons_zero, List.set_cons_succ]
                        refine Late.one (i := 5) (o := ⟨some 53, Op.call { callee := Callee.value (Operand.func 27), args := #[Operand.tmp 52], argTypes := #[42] }, _, _, _, _⟩) (by kernel_rfl) rfl (fun K hK => ?_)
                        go_simp
                        refine (rmayentry_any _ (HCE.out _ hHeld).1 HEV.out).mono ?_
                        rintro e w6 ⟨rfl, hb6⟩
                        have hbA := hHeld.trans (hb6.mono hHeld.size)
                        refine hK.out _ _ (hbA) (fun hHeld2 => ?_)
                        clear hK K hHeld
                        have hHeld := hHeld2
                        clear hHeld2
                        try simp only [Act.put, List.setIfInBounds_toArray, List.set_cons_zero, List.set_cons_succ]
                        refine Late.take (i := 6) (oi := ⟨some 54, Op.unOp UnOp.not 4 (Operand.tmp 53), _, _, _, _⟩) (v := ?_) rfl (by kernel_rfl) (by kernel_rfl) (by kernel_rfl) (by kernel_rfl) (fun _ _ _ h => h) (Or.inl ⟨by rfl, fun w hSw => ?_⟩) (by assumption) ?_
                        rotate_left
                        · (have s1 := hSw; go_simp; try with_reducible rfl)
                        try simp only [Act.put, List.setIfInBounds_toArray, List.set_cons_zero, List.set_cons_succ]
                        refine Late.take (i := 7) (oi := ⟨some 55, Op.move (Operand.tmp 54), _, _, _, _⟩) (v := ?_) rfl (by kernel_rfl) (by kernel_rfl) (by kernel_rfl) (by kernel_rfl) (fun _ _ _ h => h) (Or.inl ⟨by rfl, fun w hSw => ?_⟩) (by assumption) ?_
                        rotate_left
                        · (have s1 := hSw; go_simp; try with_reducible rfl)
                        try simp only [Act.put, List.setIfInBounds_toArray, List.set_cons_zero, List.set_cons_succ]
                        refine Late.take (i := 8) (oi := ⟨some 56, Op.fieldAddr 28 (Operand.tmp 1) 6, _, _, _, _⟩) (v := ?_) rfl (by kernel_rfl) (by kernel_rfl) (by kernel_rfl) (by kernel_rfl) (fun _ _ _ h => h) (Or.inl ⟨by rfl, fun w hSw => ?_⟩) (by assumption) ?_
                        rotate_left
                        · (have s1 := hSw; go_simp; try with_reducible rfl)
                        try simp only [Act.put, List.setIfInBounds_toArray, List.set_cons_zero, List.set_cons_succ]
                        refine Late.take (i := 9) (oi := ⟨some 57, Op.load 23 (Operand.tmp 56), _, _, _, _⟩) (v := ?_) rfl (by kernel_rfl) (by kernel_rfl) (by kernel_rfl) (by kernel_rfl) (fun _ _ _ h => h) (Or.inl ⟨by rfl, fun w hSw => ?_⟩) (by assumption) ?_
                        rotate_left
                        · (have s1 := hSw; obtain ⟨q5, q6, c0, c1, c2, c3, c4⟩ := HCW.out _ hSw; go_simp; try with_reducible rfl)
                        try simp only [Act.put, List.setIfInBounds_toArray, List.set_cons_zero, List.set_cons_succ]
                        refine Late.take (i := 10) (oi := ⟨some 58, Op.move (Operand.tmp 3), _, _, _, _⟩) (v := ?_) rfl (by kernel_rfl) (by kernel_rfl) (by kernel_rfl) (by kernel_rfl) (fun _ _ _ h => h) (Or.inl ⟨by rfl, fun w hSw => ?_⟩) (by assumption) ?_
                        rotate_left
                        · (have s1 := hSw; go_simp; try with_reducible rfl)
                        try simp only [Act.put, List.setIfInBounds_toArray, List.set_cons_zero, List.set_cons_succ]
                        refine Late.take (i := 11) (oi := ⟨some 59, Op.indexAddr 23 (Operand.tmp 57) (Operand.tmp 58), _, _, _, _⟩) (v := ?_) rfl (by kernel_rfl) (by kernel_rfl) (by kernel_rfl) (by kernel_rfl) (fun _ _ _ h => h) (Or.inl ⟨by rfl, fun w hSw => ?_⟩) (by assumption) ?_
                        rotate_left
                        · (have s1 := hSw; go_simp; try with_reducible rfl)
                        try simp only [Act.put, List.setIfInBounds_toArray, List.set_cons_zero, List.set_cons_succ]
                        refine Late.take (i := 12) (oi := ⟨some 60, Op.fieldAddr 42 (Operand.tmp 59) 0, _, _, _, _⟩) (v := ?_) rfl (by kernel_rfl) (by kernel_rfl) (by kernel_rfl) (by kernel_rfl) (fun _ _ _ h => h) (Or.inl ⟨by rfl, fun w hSw => ?_⟩) (by assumption) ?_
                        rotate_left
                        · (have s1 := hSw; go_simp; try with_reducible rfl)
                        try simp only [Act.put, List.setIfInBounds_toArray, List.set_cons_zero, List.set_cons_succ]
                        refine Late.take (i := 13) (oi := ⟨some 61, Op.load 3 (Operand.tmp 60), _, _, _, _⟩) (v := ?_) rfl (by kernel_rfl) (by kernel_rfl) (by kernel_rfl) (by kernel_rfl) (fun _ _ _ h => h) (Or.inl ⟨by rfl, fun w hSw => ?_⟩) (by assumption) ?_
                        rotate_left
                        · (have s1 := hSw; obtain ⟨q5, q6, c0, c1, c2, c3, c4⟩ := HCW.out _ hSw; go_simp; try with_reducible rfl)
                        try simp only [Act.put, List.setIfInBounds_toArray, List.set_cons_zero, List.set_cons_succ]
                        refine Late.take (i := 14) (oi := ⟨some 62, Op.fieldAddr 28 (Operand.tmp 1) 5, _, _, _, _⟩) (v := ?_) rfl (by kernel_rfl) (by kernel_rfl) (by kernel_rfl) (by kernel_rfl) (fun _ _ _ h => h) (Or.inl ⟨by rfl, fun w hSw => ?_⟩) (by assumption) ?_
                        rotate_left
                        · (have s1 := hSw; go_simp; try with_reducible rfl)
                        try simp only [Act.put, List.setIfInBounds_toArray, List.set_cons_zero, List.set_cons_succ]
                        refine Late.take (i := 15) (oi := ⟨some 63, Op.load 3 (Operand.tmp 62), _, _, _, _⟩) (v := ?_) rfl (by kernel_rfl) (by kernel_rfl) (by kernel_rfl) (by kernel_rfl) (fun _ _ _ h => h) (Or.inl ⟨by rfl, fun w hSw => ?_⟩) (by assumption) ?_
                        rotate_left
                        · (have s1 := hSw; obtain ⟨q5, q6, c0, c1, c2, c3, c4⟩ := HCW.out _ hSw; go_simp; try with_reducible rfl)
                        try simp only [Act.put, List.setIfInBounds_toArray, List.set_cons_zero, List.set_cons_succ]
                        refine Late.take (i := 16) (oi := ⟨some 64, Op.move (Operand.tmp 3), _, _, _, _⟩) (v := ?_) rfl (by kernel_rfl) (by kernel_rfl) (by kernel_rfl) (by kernel_rfl) (fun _ _ _ h => h) (Or.inl ⟨by rfl, fun w hSw => ?_⟩) (by assumption) ?_
                        rotate_left
                        · (have s1 := hSw; go_simp; try with_reducible rfl)
                        try simp only [Act.put, List.setIfInBounds_toArray, List.set_cons_zero, List.set_cons_succ]
                        refine Late.take (i := 17) (oi := ⟨some 65, Op.binOp BinOp.add 3 (Operand.tmp 63) (Operand.tmp 64) 3, _, _, _, _⟩) (v := ?_) rfl (by kernel_rfl) (by kernel_rfl) (by kernel_rfl) (by kernel_rfl) (fun _ _ _ h => h) (Or.inl ⟨by rfl, fun w hSw => ?_⟩) (by assumption) ?_
                        rotate_left
                        · (have s1 := hSw; go_simp; try with_reducible rfl)
                        try simp only [Act.put, List.setIfInBounds_toArray, List.set_cons_zero, List.set_cons_succ]
                        refine Late.take (i := 18) (oi := ⟨some 66, Op.binOp BinOp.neq 3 (Operand.tmp 61) (Operand.tmp 65) 3, _, _, _, _⟩) (v := ?_) rfl (by kernel_rfl) (by kernel_rfl) (by kernel_rfl) (by kernel_rfl) (fun _ _ _ h => h) (Or.inl ⟨by rfl, fun w hSw => ?_⟩) (by assumption) ?_
                        rotate_left
                        · (have s1 := hSw; go_simp; try with_reducible rfl)
                        try simp only [Act.put, List.setIfInBounds_toArray, List.set_cons_zero, List.set_cons_succ]
                        refine Late.take (i := 19) (oi := ⟨some 67, Op.pick (Operand.tmp 55) (Operand.const (Value.bool true)) (Operand.tmp 66), _, _, _, _⟩) (v := ?_) rfl (by kernel_rfl) (by kernel_rfl) (by kernel_rfl) (by kernel_rfl) (fun _ _ _ h => h) (Or.inl ⟨by rfl, fun w hSw => ?_⟩) (by assumption) ?_
                        rotate_left
                        · (have s1 := hSw; go_simp; try with_reducible rfl)
                        try simp only [Act.put, List.setIfInBounds_toArray, List.set_cons_zero, List.set_cons_succ]
                        refine Late.done (by kernel_rfl) ?_ _
                        refine NoPanic.normal ?_
                        have BZ := Lib.hid (BR.out.trans (hHeld.mono BR.out.size))
                        clear hHeld
                        go_wp2
                        go_roundw
                        case rel => exact ⟨k + 1, by omega, by go_num, BZ, PR2⟩
                        case measure => simp [intOf]; omega
                      · have e : false = q := by rw [← E.out, ← HCV.out]; exact (allT_no hlt (by rw [HR.out]; simp [hp])).symm
                        subst e
                        refine Late.region (fun w' => Below wr.heap.size wr w') [] (by kernel_rfl) HDr.out (fun hHeld => ?_)
                        refine Late.take (i := 0) (oi := ⟨some 48, Op.fieldAddr 28 (Operand.tmp 1) 6, _, _, _, _⟩) (v := ?_) rfl (by kernel_rfl) (by kernel_rfl) (by kernel_rfl) (by kernel_rfl) (fun _ _ _ h => h) (Or.inl ⟨by rfl, fun w hSw => ?_⟩) (by assumption) ?_
                        rotate_left
                        · (have s1 := hSw; go_simp; try with_reducible rfl)
                        try simp only [Act.put, List.setIfInBounds_toArray, List.set_cons_zero, List.set_cons_succ]
                        refine Late.take (i := 1) (oi := ⟨some 49, Op.load 23 (Operand.tmp 48), _, _, _, _⟩) (v := ?_) rfl (by kernel_rfl) (by kernel_rfl) (by kernel_rfl) (by kernel_rfl) (fun _ _ _ h => h) (Or.inl ⟨by rfl, fun w hSw => ?_⟩) (by assumption) ?_
                        rotate_left
                        · (have s1 := hSw; obtain ⟨q5, q6, c0, c1, c2, c3, c4⟩ := HCW.out _ hSw; go_simp; try with_reducible rfl)
                        try simp only [Act.put, List.setIfInBounds_toArray, List.set_cons_zero, List.set_cons_succ]
                        refine Late.take (i := 2) (oi := ⟨some 50, Op.move (Operand.tmp 3), _, _, _, _⟩) (v := ?_) rfl (by kernel_rfl) (by kernel_rfl) (by kernel_rfl) (by kernel_rfl) (fun _ _ _ h => h) (Or.inl ⟨by rfl, fun w hSw => ?_⟩) (by assumption) ?_
                        rotate_left
                        · (have s1 := hSw; go_simp; try with_reducible rfl)
                        try simp only [Act.put, List.setIfInBounds_toArray, List.set_cons_zero, List.set_cons_succ]
                        refine Late.take (i := 3) (oi := ⟨some 51, Op.indexAddr 23 (Operand.tmp 49) (Operand.tmp 50), _, _, _, _⟩) (v := ?_) rfl (by kernel_rfl) (by kernel_rfl) (by kernel_rfl) (by kernel_rfl) (fun _ _ _ h => h) (Or.inl ⟨by rfl, fun w hSw => ?_⟩) (by assumption) ?_
                        rotate_left
                        · (have s1 := hSw; go_simp; try with_reducible rfl)
                        try simp only [Act.put, List.setIfInBounds_toArray, List.set_cons_zero, List.set_cons_succ]
                        refine Late.take (i := 4) (oi := ⟨some 52, Op.load 42 (Operand.tmp 51), _, _, _, _⟩) (v := ?_) rfl (by kernel_rfl) (by kernel_rfl) (by kernel_rfl) (by kernel_rfl) (fun _ _ _ h => h) (Or.inl ⟨by rfl, fun w hSw => ?_⟩) (by assumption) ?_
                        rotate_left
                        · (have s1 := hSw; obtain ⟨q5, q6, c0, c1, c2, c3, c4⟩ := HCW.out _ hSw; go_simp; try with_reducible rfl)
                        try simp only [Act.put, List.setIfInBounds_toArray, List.set_cons_zero, List.set_cons_succ]
                        refine Late.one (i := 5) (o := ⟨some 53, Op.call { callee := Callee.value (Operand.func 27), args := #[Operand.tmp 52], argTypes := #[42] }, _, _, _, _⟩) (by kernel_rfl) rfl (fun K hK => ?_)
                        go_simp
                        refine (rmayentry_any _ (HCE.out _ hHeld).1 HEV.out).mono ?_
                        rintro e w6 ⟨rfl, hb6⟩
                        have hbA := hHeld.trans (hb6.mono hHeld.size)
                        refine hK.out _ _ (hbA) (fun hHeld2 => ?_)
                        clear hK K hHeld
                        have hHeld := hHeld2
                        clear hHeld2
                        try simp only [Act.put, List.setIfInBounds_toArray, List.set_cons_zero, List.set_cons_succ]
                        refine Late.take (i := 6) (oi := ⟨some 54, Op.unOp UnOp.not 4 (Operand.tmp 53), _, _, _, _⟩) (v := ?_) rfl (by kernel_rfl) (by kernel_rfl) (by kernel_rfl) (by kernel_rfl) (fun _ _ _ h => h) (Or.inl ⟨by rfl, fun w hSw => ?_⟩) (by assumption) ?_
                        rotate_left
                        · (have s1 := hSw; go_simp; try with_reducible rfl)
                        try simp only [Act.put, List.setIfInBounds_toArray, List.set_cons_zero, List.set_cons_succ]
                        refine Late.take (i := 7) (oi := ⟨some 55, Op.move (Operand.tmp 54), _, _, _, _⟩) (v := ?_) rfl (by kernel_rfl) (by kernel_rfl) (by kernel_rfl) (by kernel_rfl) (fun _ _ _ h => h) (Or.inl ⟨by rfl, fun w hSw => ?_⟩) (by assumption) ?_
                        rotate_left
                        · (have s1 := hSw; go_simp; try with_reducible rfl)
                        try simp only [Act.put, List.setIfInBounds_toArray, List.set_cons_zero, List.set_cons_succ]
                        refine Late.take (i := 8) (oi := ⟨some 56, Op.fieldAddr 28 (Operand.tmp 1) 6, _, _, _, _⟩) (v := ?_) rfl (by kernel_rfl) (by kernel_rfl) (by kernel_rfl) (by kernel_rfl) (fun _ _ _ h => h) (Or.inl ⟨by rfl, fun w hSw => ?_⟩) (by assumption) ?_
                        rotate_left
                        · (have s1 := hSw; go_simp; try with_reducible rfl)
                        try simp only [Act.put, List.setIfInBounds_toArray, List.set_cons_zero, List.set_cons_succ]
                        refine Late.take (i := 9) (oi := ⟨some 57, Op.load 23 (Operand.tmp 56), _, _, _, _⟩) (v := ?_) rfl (by kernel_rfl) (by kernel_rfl) (by kernel_rfl) (by kernel_rfl) (fun _ _ _ h => h) (Or.inl ⟨by rfl, fun w hSw => ?_⟩) (by assumption) ?_
                        rotate_left
                        · (have s1 := hSw; obtain ⟨q5, q6, c0, c1, c2, c3, c4⟩ := HCW.out _ hSw; go_simp; try with_reducible rfl)
                        try simp only [Act.put, List.setIfInBounds_toArray, List.set_cons_zero, List.set_cons_succ]
                        refine Late.take (i := 10) (oi := ⟨some 58, Op.move (Operand.tmp 3), _, _, _, _⟩) (v := ?_) rfl (by kernel_rfl) (by kernel_rfl) (by kernel_rfl) (by kernel_rfl) (fun _ _ _ h => h) (Or.inl ⟨by rfl, fun w hSw => ?_⟩) (by assumption) ?_
                        rotate_left
                        · (have s1 := hSw; go_simp; try with_reducible rfl)
                        try simp only [Act.put, List.setIfInBounds_toArray, List.set_cons_zero, List.set_cons_succ]
                        refine Late.take (i := 11) (oi := ⟨some 59, Op.indexAddr 23 (Operand.tmp 57) (Operand.tmp 58), _, _, _, _⟩) (v := ?_) rfl (by kernel_rfl) (by kernel_rfl) (by kernel_rfl) (by kernel_rfl) (fun _ _ _ h => h) (Or.inl ⟨by rfl, fun w hSw => ?_⟩) (by assumption) ?_
                        rotate_left
                        · (have s1 := hSw; go_simp; try with_reducible rfl)
                        try simp only [Act.put, List.setIfInBounds_toArray, List.set_cons_zero, List.set_cons_succ]
                        refine Late.take (i := 12) (oi := ⟨some 60, Op.fieldAddr 42 (Operand.tmp 59) 0, _, _, _, _⟩) (v := ?_) rfl (by kernel_rfl) (by kernel_rfl) (by kernel_rfl) (by kernel_rfl) (fun _ _ _ h => h) (Or.inl ⟨by rfl, fun w hSw => ?_⟩) (by assumption) ?_
                        rotate_left
                        · (have s1 := hSw; go_simp; try with_reducible rfl)
                        try simp only [Act.put, List.setIfInBounds_toArray, List.set_cons_zero, List.set_cons_succ]
                        refine Late.take (i := 13) (oi := ⟨some 61, Op.load 3 (Operand.tmp 60), _, _, _, _⟩) (v := ?_) rfl (by kernel_rfl) (by kernel_rfl) (by kernel_rfl) (by kernel_rfl) (fun _ _ _ h => h) (Or.inl ⟨by rfl, fun w hSw => ?_⟩) (by assumption) ?_
                        rotate_left
                        · (have s1 := hSw; obtain ⟨q5, q6, c0, c1, c2, c3, c4⟩ := HCW.out _ hSw; go_simp; try with_reducible rfl)
                        try simp only [Act.put, List.setIfInBounds_toArray, List.set_cons_zero, List.set_cons_succ]
                        refine Late.take (i := 14) (oi := ⟨some 62, Op.fieldAddr 28 (Operand.tmp 1) 5, _, _, _, _⟩) (v := ?_) rfl (by kernel_rfl) (by kernel_rfl) (by kernel_rfl) (by kernel_rfl) (fun _ _ _ h => h) (Or.inl ⟨by rfl, fun w hSw => ?_⟩) (by assumption) ?_
                        rotate_left
                        · (have s1 := hSw; go_simp; try with_reducible rfl)
                        try simp only [Act.put, List.setIfInBounds_toArray, List.set_cons_zero, List.set_cons_succ]
                        refine Late.take (i := 15) (oi := ⟨some 63, Op.load 3 (Operand.tmp 62), _, _, _, _⟩) (v := ?_) rfl (by kernel_rfl) (by kernel_rfl) (by kernel_rfl) (by kernel_rfl) (fun _ _ _ h => h) (Or.inl ⟨by rfl, fun w hSw => ?_⟩) (by assumption) ?_
                        rotate_left
                        · (have s1 := hSw; obtain ⟨q5, q6, c0, c1, c2, c3, c4⟩ := HCW.out _ hSw; go_simp; try with_reducible rfl)
                        try simp only [Act.put, List.setIfInBounds_toArray, List.set_cons_zero, List.set_cons_succ]
                        refine Late.take (i := 16) (oi := ⟨some 64, Op.move (Operand.tmp 3), _, _, _, _⟩) (v := ?_) rfl (by kernel_rfl) (by kernel_rfl) (by kernel_rfl) (by kernel_rfl) (fun _ _ _ h => h) (Or.inl ⟨by rfl, fun w hSw => ?_⟩) (by assumption) ?_
                        rotate_left
                        · (have s1 := hSw; go_simp; try with_reducible rfl)
                        try simp only [Act.put, List.setIfInBounds_toArray, List.set_cons_zero, List.set_cons_succ]
                        refine Late.take (i := 17) (oi := ⟨some 65, Op.binOp BinOp.add 3 (Operand.tmp 63) (Operand.tmp 64) 3, _, _, _, _⟩) (v := ?_) rfl (by kernel_rfl) (by kernel_rfl) (by kernel_rfl) (by kernel_rfl) (fun _ _ _ h => h) (Or.inl ⟨by rfl, fun w hSw => ?_⟩) (by assumption) ?_
                        rotate_left
                        · (have s1 := hSw; go_simp; try with_reducible rfl)
                        try simp only [Act.put, List.setIfInBounds_toArray, List.set_cons_zero, List.set_cons_succ]
                        refine Late.take (i := 18) (oi := ⟨some 66, Op.binOp BinOp.neq 3 (Operand.tmp 61) (Operand.tmp 65) 3, _, _, _, _⟩) (v := ?_) rfl (by kernel_rfl) (by kernel_rfl) (by kernel_rfl) (by kernel_rfl) (fun _ _ _ h => h) (Or.inl ⟨by rfl, fun w hSw => ?_⟩) (by assumption) ?_
                        rotate_left
                        · (have s1 := hSw; go_simp; try with_reducible rfl)
                        try simp only [Act.put, List.setIfInBounds_toArray, List.set_cons_zero, List.set_cons_succ]
                        refine Late.take (i := 19) (oi := ⟨some 67, Op.pick (Operand.tmp 55) (Operand.const (Value.bool true)) (Operand.tmp 66), _, _, _, _⟩) (v := ?_) rfl (by kernel_rfl) (by kernel_rfl) (by kernel_rfl) (by kernel_rfl) (fun _ _ _ h => h) (Or.inl ⟨by rfl, fun w hSw => ?_⟩) (by assumption) ?_
                        rotate_left
                        · (have s1 := hSw; go_simp; try with_reducible rfl)
                        try simp only [Act.put, List.setIfInBounds_toArray, List.set_cons_zero, List.set_cons_succ]
                        refine Late.done (by kernel_rfl) ?_ _
                        refine NoPanic.normal ?_
                        have BZ := Lib.hid (BRw.out.trans (hHeld.mono BRw.out.size))
                        clear hHeld
                        go_wp2
                        go_ret
                        exact ⟨rfl, BZ.out⟩
                  · have hki : ¬ (k : Int) < (x.en : Int) := by omega
                    have hkn : k = x.en := by omega
                    have e : true = q := by rw [← E.out, ← HCV.out, ← hkn, PR.out]
                    subst e
                    go_wp2
                    go_ret
                    exact ⟨rfl, BRw.out⟩
              · have i2 : (4 : Int) < (x.en : Int) := by omega
                have e : false = q := by rw [← HQ.out]; simp [h0, h1, h2]
                subst e
                clear HQ
                go_wp2
                go_ret
                exact ⟨rfl, B4w.out⟩
            · have i1 : x.frm < 1 := by omega
              have e : false = q := by rw [← HQ.out]; simp [h0, h1]
              subst e
              clear HQ
              go_wp2
              go_ret
              exact ⟨rfl, B4w.out⟩
          · have i0 : x.upto < 0 := by omega
            have e : false = q := by rw [← HQ.out]; simp [h0]
            subst e
            clear HQ
            go_wp2
            go_ret
            exact ⟨rfl, B4w.out⟩
        · by_cases e3 : kd = 3
          · subst e3
            have AK : Hid (x.kind = 3) := Lib.hid (hkd)
            clear hkd
            have HQ : Hid ((decide (0 ≤ x.don) && decide (x.don ≤ x.hav)) = q) := Lib.hid (by rw [← HM1.out, KQ.out, askM_3 AK.out]; simp [kindB])
            by_cases h0 : 0 ≤ x.don
            · have e : decide (x.don ≤ x.hav) = q := by rw [← HQ.out]; simp [h0]
              clear HQ
              go_wp2
              go_ret
              exact ⟨(by rw [← e] <;> rfl), B4w.out⟩
            · have e : false = q := by rw [← HQ.out]; simp [h0]
              subst e
              clear HQ
              go_wp2
              go_ret
              exact ⟨rfl, B4w.out⟩
          · by_cases e4 : kd = 4
            · subst e4
              have AK : Hid (x.kind = 4) := Lib.hid (hkd)
              clear hkd
              have HQ : Hid (confB x.ep x.ms = q) := Lib.hid (by rw [← HM1.out, KQ.out, askM_4 AK.out]; simp [kindB])
              have HCF := Lib.hid (rmayconf_any x.mcp x.ep q (HXO.out _ B4.out).1.ms (HXO.out _ B4.out).2 HQ.out)
              go_wp2_with (go_at_call 29; refine (HCF.out).mono ?_; rintro e w5 ⟨rfl, hb⟩; have B5 := Lib.hid (B4w.out.trans (hb.mono B4w.out.size)); clear hb)
              go_ret
              exact ⟨rfl, B5.out⟩
            · by_cases e5 : kd = 5
              · subst e5
                have AK : Hid (x.kind = 5) := Lib.hid (hkd)
                clear hkd
                have HQ : Hid (decide (1 ≤ x.since) = q) := Lib.hid (by rw [← HM1.out, KQ.out, askM_5 AK.out]; simp [kindB])
                go_wp2
                go_ret
                exact ⟨by rw [← HQ.out] <;> rfl, B4w.out⟩
              · have e : false = q := by
                  rw [← HM1.out, KQ.out]
                  have : kindB kd = false := by unfold kindB; simp; omega
                  rw [this]; rfl
                subst e
                clear hkd
                go_wp2
                go_ret
                exact ⟨rfl, B4w.out⟩
end Go.Proofs.Ytfihiandifnkpaa
