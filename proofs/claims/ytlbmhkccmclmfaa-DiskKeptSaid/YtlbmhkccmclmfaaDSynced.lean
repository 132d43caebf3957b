/- The statement DiskSynced: the walk. -/
import Derived.Test.YtlbmhkccmclmfaaDDo
namespace Go.Proofs.Ytlbmhkccmclmfaa
open Go.ChangeShapes Go.WideShapes Go.ChangeAt Go.RowKit
set_option linter.unusedVariables false
theorem dDo_no {s : DiskZ} {a : ActZ} (h : (dDo s a).1 ≠ 0) : (dDo s a).2 = s := by
  revert h
  unfold dDo dWrite dSync dCrash dStart dCut
  repeat' split
  all_goals first | (intro h; exact absurd rfl h) | (intro _; rfl)
theorem dDo_pref {s : DiskZ} {a : ActZ} (h : a.kind ≠ 7) : prefB s.zs (allZ (dDo s a).2) = true := by
  unfold dDo dWrite dSync dCrash dStart
  repeat' split
  all_goals first | exact absurd ‹a.kind = 7› h | (simp only [allZ, List.append_assoc]; exact prefB_app _ _)
theorem dDo_cutpref {s : DiskZ} {a : ActZ} (h : a.kind = 7) : prefB (allZ (dDo s a).2) (allZ s) = true := by
  unfold dDo
  rw [if_neg (by omega), if_neg (by omega), if_neg (by omega), if_neg (by omega), if_pos h]
  unfold dCut
  repeat' split
  all_goals first | exact prefB_self _ | (rw [allZ_flat]; exact prefB_take _ _)
theorem dDo_down {s : DiskZ} {a : ActZ} (h : s.up = false) (h0 : 0 ≤ a.kind) (h4 : a.kind ≤ 4) : (dDo s a).1 = 60 := by
  unfold dDo dWrite dSync dCrash
  rw [h]
  repeat' split
  all_goals first | rfl | omega | (exfalso; simp_all; done)
theorem dDo_code (s : DiskZ) (a : ActZ) : 0 ≤ (dDo s a).1 ∧ (dDo s a).1 ≤ 60 := by
  unfold dDo dWrite dSync dCrash dStart dCut
  repeat' split
  all_goals (constructor <;> simp)
set_option maxRecDepth 100000 in
set_option maxHeartbeats 4000000 in
theorem diskSynced_in (A : Option Addr) (m c : Nat) (F : Nat → ActZ) (w : World) (h : Acts w w.heap.size A m F) (hm : m ≤ maxLen) :
    Calls Try.prog 6 #[.slice A m c] w fun e w' => e = .returned (.bool true) ∧ Below w.heap.size w w' := by
  have HF := Lib.hid h
  have hm' := hm
  unfold maxLen at hm'
  have AW := Lib.hid (dawake_any w)
  clear h
  go_enter Try.func6, Try.ntmps6
  go_wp2_with fail
  refine AW.out.mono ?_
  rintro e w1 ⟨rfl, hb1⟩
  have HB1 := Lib.hid hb1
  clear hb1
  go_wp2_with fail
  refine (great_any c (HF.out.below HB1.out) hm).mono ?_
  rintro e w' ⟨rfl, rfl⟩
  by_cases hg : 4000 < gsum F m
  · rw [decide_eq_true hg]
    clear hg
    go_wp2
    go_ret
    exact ⟨rfl, HB1.out⟩
  rw [decide_eq_false hg]
  have HG : Hid (∀ k, k ≤ m → gsum F k ≤ 4000) := Lib.hid (fun k hk => by have := gsum_le F k m hk; omega)
  clear hg
  go_wp2_with fail
  refine (atk_new w w1 HB1.out).mono ?_
  rintro e w2 ⟨rfl, K0, h0, _⟩
  have H0 : Hid (∃ K s, AtK w w2 w1.heap.size K s ∧ SizeB s (gsum F 0)) := Lib.hid ⟨K0, _, h0, ⟨by simp [allZ], by simp⟩⟩
  obtain ⟨D, hD⟩ : ∃ D, w1.heap.size = D := ⟨_, rfl⟩
  rw [hD] at H0
  simp only [hD]
  clear hD h0 HB1
  go_wp2
  go_loopw [4] (fun i wr => ∃ k : Nat, k ≤ m ∧ i = .int .i64 k ∧ Hid (∃ K s, AtK w wr D K s ∧ SizeB s (gsum F k))) (fun i _ => m - (intOf i).toNat)
  case atStart => exact ⟨0, by omega, rfl, H0⟩
  case round =>
    obtain ⟨k, hk, rfl, HS⟩ := hrel
    by_cases hlt : k < m
    · have hltI : (k : Int) < m := by omega
      obtain ⟨K, s, hA, hsz⟩ := HS.out
      have HA := Lib.hid hA
      have HZ := Lib.hid hsz
      have HSm : Hid (Small s) := Lib.hid (hsz.small (by have := HG.out k (by omega); omega))
      clear hA hsz
      go_wp2_with fail
      refine (told_any HA.out.dk HSm.out).mono ?_
      rintro e w3 ⟨A1, n1, q1, rfl, hl1, hs1, ho1, hc1, hm1, hb1⟩
      have HA1 := Lib.hid (HA.out.below hb1)
      have HS1 := Lib.hid hs1
      have HL1 := Lib.hid hl1
      have hsz1 := hb1.size
      clear hs1 hl1 ho1 hb1
      go_wp2_with fail
      refine (synced_any HA1.out.dk).mono ?_
      rintro e w' ⟨rfl, rfl⟩
      obtain ⟨z, hz⟩ : ∃ z, s.zs.length = z := ⟨_, rfl⟩
      have HZL := Lib.hid hz
      have hzn : z ≤ n1 := by rw [← HL1.out, ← hz]; simp [allZ]
      rw [hz]
      clear hz
      go_wp2_with fail
      refine (up_any HA1.out.dk).mono ?_
      rintro e w' ⟨rfl, rfl⟩
      obtain ⟨up, hup⟩ : ∃ up, s.up = up := ⟨_, rfl⟩
      have HUP := Lib.hid hup
      rw [hup]
      clear hup
      have hm1' := hm1
      unfold maxLen at hm1'
      have hznI : ¬ ((n1 : Int) < (z : Int)) := by omega
      obtain ⟨b, off, rfl, hb, a0, a1, a2, a3⟩ := (HF.out.below HA1.out.bel).at_ hlt
      have HOK := Lib.hid ((HF.out.below HA1.out.bel).ok k hlt)
      have hln : (F k).len ≤ 1000000 := by have h1 := HG.out (k + 1) (by omega); simp only [gsum] at h1; omega
      have HDO := Lib.hid (do_any (F k) HA1.out.dk HSm.out HOK.out HA1.out.bel.size hln)
      have HBB : Hid (b < w.heap.size) := Lib.hid hb
      have HC0 := Lib.hid a0
      have HSZ2 : Hid (SizeB (dDo s (F k)).2 (gsum F (k + 1))) := Lib.hid ((dDo_size HZ.out (F k)).more (by rw [HOK.out.bs.len]; simp only [gsum]; omega))
      obtain ⟨x, hx⟩ : ∃ x, (dDo s (F k)).1 = x := ⟨_, rfl⟩
      obtain ⟨s2, hs2⟩ : ∃ s2, (dDo s (F k)).2 = s2 := ⟨_, rfl⟩
      have HX := Lib.hid hx
      have HS2 := Lib.hid hs2
      rw [hs2] at HSZ2
      have HSm2 : Hid (Small s2) := Lib.hid (HSZ2.out.small (by have := HG.out (k + 1) (by omega); omega))
      clear hln hx hs2
      go_wp2_with fail
      refine HDO.out.mono ?_
      intro e w4 hd
      obtain ⟨rfl, K2, h2, hmv, hnw⟩ := HA1.out.did hd
      rw [HS2.out] at h2
      rw [HX.out]
      have HA2 := Lib.hid h2
      have HS4 : Hid (Stands w4 (fun k => wr.heap.size ≤ k ∧ k < w3.heap.size) ⟨A1, n1, q1, allZ s⟩) := Lib.hid (HS1.out.keep (fun j hF hj => hmv.block j hj (fun hK => by have := HA.out.dk.lt j hK; omega)))
      have s34 := hmv.size
      clear h2 hmv hnw hd HDO a0 a1 a2 a3
      go_wp2_with fail
      refine (told_any HA2.out.dk HSm2.out).mono ?_
      rintro e w5 ⟨A3, n3, q3, rfl, hl3, hs3, ho3, hc3, hm3, hb3⟩
      have HA3 := Lib.hid (HA2.out.below hb3)
      have HW5 := Lib.hid ((HS4.out.keep (fun j _ hj => hb3.block j hj)).bs)
      have HN5 := Lib.hid hs3.bs
      have HL3 := Lib.hid hl3
      have a0 : w5.cell? ⟨b, off + k * 4, none⟩ = some (.int .i64 (F k).kind) := (HA3.out.bel.cell (p := ⟨b, off + k * 4, none⟩) HBB.out).trans ((HA1.out.bel.cell (p := ⟨b, off + k * 4, none⟩) HBB.out).symm.trans HC0.out)
      have NXT : Hid (∀ v, (∃ j, v = w5.drewN j) → (∃ K s, AtK w v D K s ∧ SizeB s (gsum F (k + 1)))) := Lib.hid (fun v hv => ⟨K2, s2, HA3.out.quiet hv, HSZ2.out⟩)
      have hm3' := hm3
      unfold maxLen at hm3'
      have C1 := cut_h A1 n1 q1 z z rfl (by omega)
      have hzq : (z : Int) ≤ (q1 : Int) := by omega
      have HB1 : Hid (∀ c, (F k).kind ≠ 7 → Calls Try.prog 23 #[.slice A1 z c, .slice A3 n3 q3] w5 (Quiet (.bool true) w5)) := Lib.hid (fun c hk7 => by
        have hcut := HW5.out.cut (k := 0) (m := z) (by simp only [Nat.zero_add]; exact hzn) A1 (fun b off e _ => by simp at e; rw [e]; simp)
        rw [List.drop_zero, show (allZ s).take z = s.zs by rw [← HZL.out]; simp [allZ]] at hcut
        have := begins_any c q3 hcut HN5.out (Nat.le_trans hzn (Nat.le_trans hc1 hm1)) (Nat.le_trans hc3 hm3) hc3 hm3
        have e : prefB s.zs (allZ s2) = true := by rw [← HS2.out]; exact dDo_pref hk7
        rwa [e] at this)
      have HB2 : Hid ((F k).kind = 7 → Calls Try.prog 23 #[.slice A3 n3 q3, .slice A1 n1 q1] w5 (Quiet (.bool true) w5)) := Lib.hid (fun hk7 => by
        have := begins_any q3 q1 HN5.out HW5.out (Nat.le_trans hc3 hm3) (Nat.le_trans hc1 hm1) hc1 hm1
        have e : prefB (allZ s2) (allZ s) = true := by rw [← HS2.out]; exact dDo_cutpref hk7
        rwa [e] at this)
      have HSA : Hid (∀ v, (∃ j, v = w5.drewN j) → x ≠ 0 → Calls Try.prog 24 #[.slice A1 n1 q1, .slice A3 n3 q3] v (Quiet (.bool true) v)) := Lib.hid (fun v hv hx => by
        obtain ⟨j, rfl⟩ := hv
        have := same_any q1 q3 (HW5.out.drewN j) (HN5.out.drewN j) (Nat.le_trans hc1 hm1) (Nat.le_trans hc3 hm3)
        have e : eqB (allZ s) (allZ s2) = true := by rw [← HS2.out, dDo_no (by rw [HX.out]; exact hx)]; exact eqB_self _
        rwa [e] at this)
      have HSY : Hid (x ≠ 0 → s2.zs.length = z ∧ s2.up = up) := Lib.hid (fun hx => by
        have e : s2 = s := by rw [← HS2.out]; exact dDo_no (by rw [HX.out]; exact hx)
        rw [e]; exact ⟨HZL.out, HUP.out⟩)
      have HDN : Hid (up = false → 0 ≤ (F k).kind → (F k).kind ≤ 4 → x = 60) := Lib.hid (fun h1 h2 h3 => by rw [← HX.out]; exact dDo_down (HUP.out.trans h1) h2 h3)
      have hxb : 0 ≤ x ∧ x ≤ 60 := by rw [← HX.out]; exact dDo_code _ _
      have hkb := HOK.out.kind
      clear hs3 hl3 ho3 hb3 HA1 HA2 HS1 HS4 HSm HSm2 HSZ2 HS HA HZ HX HS2 HUP HZL HOK
      generalize (F k).kind = kd at *
      cases up with
      | true =>
        by_cases hc7 : kd = 7
        · by_cases hcx : x = 0
          · have g1 : (kd == 7) = true := by simp; omega
            have g2 : (kd != 7) = false := by simp; omega
            have g3 : (x != 0) = false := by simp; omega
            have hk7 := Lib.hid (show kd = 7 by omega)
            clear hxb hkb hc7 hcx
            go_wp2_with fail
            refine (HB2.out hk7.out).mono ?_
            rintro e v1 ⟨rfl, hq⟩
            have HQ := Lib.hid hq
            have a0v : v1.cell? ⟨b, off + k * 4, none⟩ = some (.int .i64 kd) := by obtain ⟨j, rfl⟩ := hq; exact a0
            clear hq a0
            have HN := Lib.hid (NXT.out _ HQ.out)
            go_wp2
            go_roundw
            case rel => exact ⟨k + 1, by omega, by go_num, HN⟩
            case measure => simp [intOf]; omega
          · have g1 : (kd == 7) = true := by simp; omega
            have g2 : (kd != 7) = false := by simp; omega
            have g3 : (x != 0) = true := by simp; omega
            have hx0 := Lib.hid (show x ≠ 0 by omega)
            have hk7 := Lib.hid (show kd = 7 by omega)
            clear hxb hkb hc7 hcx
            go_wp2_with fail
            refine (HB2.out hk7.out).mono ?_
            rintro e v1 ⟨rfl, hq⟩
            have HQ := Lib.hid hq
            have a0v : v1.cell? ⟨b, off + k * 4, none⟩ = some (.int .i64 kd) := by obtain ⟨j, rfl⟩ := hq; exact a0
            clear hq a0
            go_wp2_with fail
            refine (HSA.out v1 HQ.out hx0.out).mono ?_
            rintro e v2 ⟨rfl, hq⟩
            have HQ2 : Hid (∃ j, v2 = w5.drewN j) := Lib.hid (by obtain ⟨i, e1⟩ := HQ.out; obtain ⟨j, e2⟩ := hq; exact ⟨_, by rw [e2, e1]; exact World.drewN_drewN ..⟩)
            have a0w : v2.cell? ⟨b, off + k * 4, none⟩ = some (.int .i64 kd) := by obtain ⟨j, rfl⟩ := hq; exact a0v
            clear hq a0v
            have HAv := Lib.hid (HA3.out.quiet HQ2.out)
            go_wp2_with fail
            refine (synced_any HAv.out.dk).mono ?_
            rintro e w' ⟨rfl, rfl⟩
            rw [(HSY.out hx0.out).1]
            go_wp2_with fail
            refine (up_any HAv.out.dk).mono ?_
            rintro e w' ⟨rfl, rfl⟩
            rw [(HSY.out hx0.out).2]
            have HN := Lib.hid (NXT.out _ HQ2.out)
            go_wp2
            go_roundw
            case rel => exact ⟨k + 1, by omega, by go_num, HN⟩
            case measure => simp [intOf]; omega
        · by_cases hcx : x = 0
          · have g1 : (kd == 7) = false := by simp; omega
            have g2 : (kd != 7) = true := by simp; omega
            have g3 : (x != 0) = false := by simp; omega
            have hk7 := Lib.hid (show kd ≠ 7 by omega)
            clear hxb hkb hc7 hcx
            go_wp2_with fail
            refine (HB1.out _ hk7.out).mono ?_
            rintro e v1 ⟨rfl, hq⟩
            have HQ := Lib.hid hq
            have a0v : v1.cell? ⟨b, off + k * 4, none⟩ = some (.int .i64 kd) := by obtain ⟨j, rfl⟩ := hq; exact a0
            clear hq a0
            have HN := Lib.hid (NXT.out _ HQ.out)
            go_wp2
            go_roundw
            case rel => exact ⟨k + 1, by omega, by go_num, HN⟩
            case measure => simp [intOf]; omega
          · have g1 : (kd == 7) = false := by simp; omega
            have g2 : (kd != 7) = true := by simp; omega
            have g3 : (x != 0) = true := by simp; omega
            have hx0 := Lib.hid (show x ≠ 0 by omega)
            have hk7 := Lib.hid (show kd ≠ 7 by omega)
            clear hxb hkb hc7 hcx
            go_wp2_with fail
            refine (HB1.out _ hk7.out).mono ?_
            rintro e v1 ⟨rfl, hq⟩
            have HQ := Lib.hid hq
            have a0v : v1.cell? ⟨b, off + k * 4, none⟩ = some (.int .i64 kd) := by obtain ⟨j, rfl⟩ := hq; exact a0
            clear hq a0
            go_wp2_with fail
            refine (HSA.out v1 HQ.out hx0.out).mono ?_
            rintro e v2 ⟨rfl, hq⟩
            have HQ2 : Hid (∃ j, v2 = w5.drewN j) := Lib.hid (by obtain ⟨i, e1⟩ := HQ.out; obtain ⟨j, e2⟩ := hq; exact ⟨_, by rw [e2, e1]; exact World.drewN_drewN ..⟩)
            have a0w : v2.cell? ⟨b, off + k * 4, none⟩ = some (.int .i64 kd) := by obtain ⟨j, rfl⟩ := hq; exact a0v
            clear hq a0v
            have HAv := Lib.hid (HA3.out.quiet HQ2.out)
            go_wp2_with fail
            refine (synced_any HAv.out.dk).mono ?_
            rintro e w' ⟨rfl, rfl⟩
            rw [(HSY.out hx0.out).1]
            go_wp2_with fail
            refine (up_any HAv.out.dk).mono ?_
            rintro e w' ⟨rfl, rfl⟩
            rw [(HSY.out hx0.out).2]
            have HN := Lib.hid (NXT.out _ HQ2.out)
            go_wp2
            go_roundw
            case rel => exact ⟨k + 1, by omega, by go_num, HN⟩
            case measure => simp [intOf]; omega
      | false =>
        by_cases hr1 : kd ≤ 4
        · by_cases hr2 : 0 ≤ kd
          · have hc7 : kd ≠ 7 := by omega
            have hcx : x = 60 := HDN.out rfl hr2 hr1
            have g1 : (kd == 7) = false := by simp; omega
            have g2 : (kd != 7) = true := by simp; omega
            have g3 : (x != 0) = true := by simp; omega
            have hx0 := Lib.hid (show x ≠ 0 by omega)
            have g4 : kd ≤ 4 := by omega
            have g5 : 0 ≤ kd := by omega
            have g6 : (x != 60) = false := by simp; omega
            have hk7 := Lib.hid (show kd ≠ 7 by omega)
            clear hxb hkb hr1 hr2 hc7 hcx
            go_wp2_with fail
            refine (HB1.out _ hk7.out).mono ?_
            rintro e v1 ⟨rfl, hq⟩
            have HQ := Lib.hid hq
            have a0v : v1.cell? ⟨b, off + k * 4, none⟩ = some (.int .i64 kd) := by obtain ⟨j, rfl⟩ := hq; exact a0
            clear hq a0
            go_wp2_with fail
            refine (HSA.out v1 HQ.out hx0.out).mono ?_
            rintro e v2 ⟨rfl, hq⟩
            have HQ2 : Hid (∃ j, v2 = w5.drewN j) := Lib.hid (by obtain ⟨i, e1⟩ := HQ.out; obtain ⟨j, e2⟩ := hq; exact ⟨_, by rw [e2, e1]; exact World.drewN_drewN ..⟩)
            have a0w : v2.cell? ⟨b, off + k * 4, none⟩ = some (.int .i64 kd) := by obtain ⟨j, rfl⟩ := hq; exact a0v
            clear hq a0v
            have HAv := Lib.hid (HA3.out.quiet HQ2.out)
            go_wp2_with fail
            refine (synced_any HAv.out.dk).mono ?_
            rintro e w' ⟨rfl, rfl⟩
            rw [(HSY.out hx0.out).1]
            go_wp2_with fail
            refine (up_any HAv.out.dk).mono ?_
            rintro e w' ⟨rfl, rfl⟩
            rw [(HSY.out hx0.out).2]
            have HN := Lib.hid (NXT.out _ HQ2.out)
            go_wp2
            go_roundw
            case rel => exact ⟨k + 1, by omega, by go_num, HN⟩
            case measure => simp [intOf]; omega
          · have hc7 : kd ≠ 7 := by omega
            by_cases hcx : x = 0
            · have g1 : (kd == 7) = false := by simp; omega
              have g2 : (kd != 7) = true := by simp; omega
              have g3 : (x != 0) = false := by simp; omega
              have g4 : kd ≤ 4 := by omega
              have g5 : ¬ 0 ≤ kd := by omega
              have hk7 := Lib.hid (show kd ≠ 7 by omega)
              clear hxb hkb hr1 hr2 hc7 hcx
              go_wp2_with fail
              refine (HB1.out _ hk7.out).mono ?_
              rintro e v1 ⟨rfl, hq⟩
              have HQ := Lib.hid hq
              have a0v : v1.cell? ⟨b, off + k * 4, none⟩ = some (.int .i64 kd) := by obtain ⟨j, rfl⟩ := hq; exact a0
              clear hq a0
              have HN := Lib.hid (NXT.out _ HQ.out)
              go_wp2
              go_roundw
              case rel => exact ⟨k + 1, by omega, by go_num, HN⟩
              case measure => simp [intOf]; omega
            · have g1 : (kd == 7) = false := by simp; omega
              have g2 : (kd != 7) = true := by simp; omega
              have g3 : (x != 0) = true := by simp; omega
              have hx0 := Lib.hid (show x ≠ 0 by omega)
              have g4 : kd ≤ 4 := by omega
              have g5 : ¬ 0 ≤ kd := by omega
              have hk7 := Lib.hid (show kd ≠ 7 by omega)
              clear hxb hkb hr1 hr2 hc7 hcx
              go_wp2_with fail
              refine (HB1.out _ hk7.out).mono ?_
              rintro e v1 ⟨rfl, hq⟩
              have HQ := Lib.hid hq
              have a0v : v1.cell? ⟨b, off + k * 4, none⟩ = some (.int .i64 kd) := by obtain ⟨j, rfl⟩ := hq; exact a0
              clear hq a0
              go_wp2_with fail
              refine (HSA.out v1 HQ.out hx0.out).mono ?_
              rintro e v2 ⟨rfl, hq⟩
              have HQ2 : Hid (∃ j, v2 = w5.drewN j) := Lib.hid (by obtain ⟨i, e1⟩ := HQ.out; obtain ⟨j, e2⟩ := hq; exact ⟨_, by rw [e2, e1]; exact World.drewN_drewN ..⟩)
              have a0w : v2.cell? ⟨b, off + k * 4, none⟩ = some (.int .i64 kd) := by obtain ⟨j, rfl⟩ := hq; exact a0v
              clear hq a0v
              have HAv := Lib.hid (HA3.out.quiet HQ2.out)
              go_wp2_with fail
              refine (synced_any HAv.out.dk).mono ?_
              rintro e w' ⟨rfl, rfl⟩
              rw [(HSY.out hx0.out).1]
              go_wp2_with fail
              refine (up_any HAv.out.dk).mono ?_
              rintro e w' ⟨rfl, rfl⟩
              rw [(HSY.out hx0.out).2]
              have HN := Lib.hid (NXT.out _ HQ2.out)
              go_wp2
              go_roundw
              case rel => exact ⟨k + 1, by omega, by go_num, HN⟩
              case measure => simp [intOf]; omega
        · have hr2 : True := trivial
          by_cases hc7 : kd = 7
          · by_cases hcx : x = 0
            · have g1 : (kd == 7) = true := by simp; omega
              have g2 : (kd != 7) = false := by simp; omega
              have g3 : (x != 0) = false := by simp; omega
              have g4 : ¬ kd ≤ 4 := by omega
              have hk7 := Lib.hid (show kd = 7 by omega)
              clear hxb hkb hr1 hr2 hc7 hcx
              go_wp2_with fail
              refine (HB2.out hk7.out).mono ?_
              rintro e v1 ⟨rfl, hq⟩
              have HQ := Lib.hid hq
              have a0v : v1.cell? ⟨b, off + k * 4, none⟩ = some (.int .i64 kd) := by obtain ⟨j, rfl⟩ := hq; exact a0
              clear hq a0
              have HN := Lib.hid (NXT.out _ HQ.out)
              go_wp2
              go_roundw
              case rel => exact ⟨k + 1, by omega, by go_num, HN⟩
              case measure => simp [intOf]; omega
            · have g1 : (kd == 7) = true := by simp; omega
              have g2 : (kd != 7) = false := by simp; omega
              have g3 : (x != 0) = true := by simp; omega
              have hx0 := Lib.hid (show x ≠ 0 by omega)
              have g4 : ¬ kd ≤ 4 := by omega
              have hk7 := Lib.hid (show kd = 7 by omega)
              clear hxb hkb hr1 hr2 hc7 hcx
              go_wp2_with fail
              refine (HB2.out hk7.out).mono ?_
              rintro e v1 ⟨rfl, hq⟩
              have HQ := Lib.hid hq
              have a0v : v1.cell? ⟨b, off + k * 4, none⟩ = some (.int .i64 kd) := by obtain ⟨j, rfl⟩ := hq; exact a0
              clear hq a0
              go_wp2_with fail
              refine (HSA.out v1 HQ.out hx0.out).mono ?_
              rintro e v2 ⟨rfl, hq⟩
              have HQ2 : Hid (∃ j, v2 = w5.drewN j) := Lib.hid (by obtain ⟨i, e1⟩ := HQ.out; obtain ⟨j, e2⟩ := hq; exact ⟨_, by rw [e2, e1]; exact World.drewN_drewN ..⟩)
              have a0w : v2.cell? ⟨b, off + k * 4, none⟩ = some (.int .i64 kd) := by obtain ⟨j, rfl⟩ := hq; exact a0v
              clear hq a0v
              have HAv := Lib.hid (HA3.out.quiet HQ2.out)
              go_wp2_with fail
              refine (synced_any HAv.out.dk).mono ?_
              rintro e w' ⟨rfl, rfl⟩
              rw [(HSY.out hx0.out).1]
              go_wp2_with fail
              refine (up_any HAv.out.dk).mono ?_
              rintro e w' ⟨rfl, rfl⟩
              rw [(HSY.out hx0.out).2]
              have HN := Lib.hid (NXT.out _ HQ2.out)
              go_wp2
              go_roundw
              case rel => exact ⟨k + 1, by omega, by go_num, HN⟩
              case measure => simp [intOf]; omega
          · by_cases hcx : x = 0
            · have g1 : (kd == 7) = false := by simp; omega
              have g2 : (kd != 7) = true := by simp; omega
              have g3 : (x != 0) = false := by simp; omega
              have g4 : ¬ kd ≤ 4 := by omega
              have hk7 := Lib.hid (show kd ≠ 7 by omega)
              clear hxb hkb hr1 hr2 hc7 hcx
              go_wp2_with fail
              refine (HB1.out _ hk7.out).mono ?_
              rintro e v1 ⟨rfl, hq⟩
              have HQ := Lib.hid hq
              have a0v : v1.cell? ⟨b, off + k * 4, none⟩ = some (.int .i64 kd) := by obtain ⟨j, rfl⟩ := hq; exact a0
              clear hq a0
              have HN := Lib.hid (NXT.out _ HQ.out)
              go_wp2
              go_roundw
              case rel => exact ⟨k + 1, by omega, by go_num, HN⟩
              case measure => simp [intOf]; omega
            · have g1 : (kd == 7) = false := by simp; omega
              have g2 : (kd != 7) = true := by simp; omega
              have g3 : (x != 0) = true := by simp; omega
              have hx0 := Lib.hid (show x ≠ 0 by omega)
              have g4 : ¬ kd ≤ 4 := by omega
              have hk7 := Lib.hid (show kd ≠ 7 by omega)
              clear hxb hkb hr1 hr2 hc7 hcx
              go_wp2_with fail
              refine (HB1.out _ hk7.out).mono ?_
              rintro e v1 ⟨rfl, hq⟩
              have HQ := Lib.hid hq
              have a0v : v1.cell? ⟨b, off + k * 4, none⟩ = some (.int .i64 kd) := by obtain ⟨j, rfl⟩ := hq; exact a0
              clear hq a0
              go_wp2_with fail
              refine (HSA.out v1 HQ.out hx0.out).mono ?_
              rintro e v2 ⟨rfl, hq⟩
              have HQ2 : Hid (∃ j, v2 = w5.drewN j) := Lib.hid (by obtain ⟨i, e1⟩ := HQ.out; obtain ⟨j, e2⟩ := hq; exact ⟨_, by rw [e2, e1]; exact World.drewN_drewN ..⟩)
              have a0w : v2.cell? ⟨b, off + k * 4, none⟩ = some (.int .i64 kd) := by obtain ⟨j, rfl⟩ := hq; exact a0v
              clear hq a0v
              have HAv := Lib.hid (HA3.out.quiet HQ2.out)
              go_wp2_with fail
              refine (synced_any HAv.out.dk).mono ?_
              rintro e w' ⟨rfl, rfl⟩
              rw [(HSY.out hx0.out).1]
              go_wp2_with fail
              refine (up_any HAv.out.dk).mono ?_
              rintro e w' ⟨rfl, rfl⟩
              rw [(HSY.out hx0.out).2]
              have HN := Lib.hid (NXT.out _ HQ2.out)
              go_wp2
              go_roundw
              case rel => exact ⟨k + 1, by omega, by go_num, HN⟩
              case measure => simp [intOf]; omega
    · have hkm : ¬ (k : Int) < m := by omega
      have HB := Lib.hid (show Below w.heap.size w wr by obtain ⟨K, s, h1, _⟩ := HS.out; exact h1.bel)
      go_wp2
      go_ret
      exact ⟨rfl, HB.out⟩
end Go.Proofs.Ytlbmhkccmclmfaa
