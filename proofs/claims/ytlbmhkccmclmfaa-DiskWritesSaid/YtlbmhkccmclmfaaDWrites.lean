/- The statement DiskWrites: the walk. -/
import Derived.Test.YtlbmhkccmclmfaaDDo
import Derived.Deep.Cut
namespace Go.Proofs.Ytlbmhkccmclmfaa
open Go.ChangeShapes Go.WideShapes Go.ChangeAt Go.RowKit
set_option linter.unusedVariables false
/-- Between two writes: the disk; the list that goes along with it. -/
structure Along (w wr : World) (D : Nat) (K : Nat → Prop) (s : DiskZ) (V : Value) : Prop where
  at_ : AtK w wr D K s
  up : s.up = true
  own : wr.ownsRow w.heap.size 5 1 V (allZ s).length (vals (allZ s))
  apart : ∀ r, V.ownBlock = some r → ¬ K r
theorem Along.did {w wr w' : World} {D : Nat} {K K' : Nat → Prop} {s s' : DiskZ} {V : Value} (h : Along w wr D K s V) (h1 : AtK w w' D K' s') (h2 : Moved K wr w') (h3 : Newer wr K K') (hu : s'.up = true) :
    w'.ownsRow w.heap.size 5 1 V (allZ s).length (vals (allZ s)) ∧ (∀ r, V.ownBlock = some r → ¬ K' r) := by
  refine ⟨own_same h.own (fun r hr => h2.block r (h.own.lt r hr).2 (h.apart r hr)), fun r hr hK => ?_⟩
  rcases h3 r hK with e | e
  · exact h.apart r hr e
  · have := (h.own.lt r hr).2; omega
theorem Along.below {w wr w' : World} {D : Nat} {K : Nat → Prop} {s : DiskZ} {V : Value} (h : Along w wr D K s V) (hb : Below wr.heap.size wr w') : Along w w' D K s V :=
  ⟨h.at_.below hb, h.up, own_same h.own (fun r hr => hb.block r (h.own.lt r hr).2), h.apart⟩
theorem Along.app {w w1 w2 : World} {D n : Nat} {K : Nat → Prop} {s : DiskZ} {V V2 : Value} (h : AtK w w1 D K s) (hu : s.up = true) (hV : ∀ r, V.ownBlock = some r → w.heap.size ≤ r ∧ r < w1.heap.size ∧ ¬ K r) (hg : w1.grownBy w2 V.ownBlock) (hat : V2.ownBlock = V.ownBlock ∨ V2.ownBlock = some w1.heap.size)
    (ho : w2.ownsRow w.heap.size 5 1 V2 n (vals (allZ s))) (hn : n = (allZ s).length) : Along w w2 D K s V2 := by
  subst hn
  refine ⟨⟨h.dk.keep (fun k hk => hg.block k (h.dk.lt k hk) (fun e => (hV k e.symm).2.2 hk)) hg.size, h.new, h.bel.grown hg h.bel.size (fun k hk => (hV k hk).1)⟩, hu, ho, fun r hr hK => ?_⟩
  rcases hat with e | e
  · rw [e] at hr; exact (hV r hr).2.2 hK
  · rw [e] at hr; injection hr with hr; have := h.dk.lt r hK; omega
theorem same_self {w : World} {B1 B2 : Nat} {A1 A2 : Option Addr} {n1 n2 : Nat} (c1 c2 : Nat) {zs : List Int} (h1 : Bs w B1 A1 n1 zs) (h2 : Bs w B2 A2 n2 zs) (hn1 : n1 ≤ maxLen) (hn2 : n2 ≤ maxLen) :
    Calls Try.prog 24 #[.slice A1 n1 c1, .slice A2 n2 c2] w (Quiet (.bool true) w) := by
  have := same_any c1 c2 h1 h2 hn1 hn2
  rwa [eqB_self] at this
set_option maxRecDepth 100000 in
set_option maxHeartbeats 4000000 in
theorem diskWrites_in (A : Option Addr) (m c : Nat) (As : Nat → Option Addr) (Ns Cs : Nat → Nat) (Zs : Nat → List Int) (A2 : Option Addr) (m2 c2 : Nat) (Y : Nat → Bool) (w : World) (h : Lists w w.heap.size A m As Ns Cs Zs) (hm : m ≤ maxLen) (hN : ∀ j, j < m → Ns j ≤ 140737488355328)
    (hY : 0 < m2 → ∃ b off, A2 = some ⟨b, off, none⟩ ∧ b < w.heap.size ∧ ∀ j, j < m2 → w.cell? ⟨b, off + j, none⟩ = some (.bool (Y j))) (hm2 : m2 ≤ maxLen) :
    Calls Try.prog 7 #[.slice A m c, .slice A2 m2 c2] w fun e w' => e = .returned (.bool true) ∧ Below w.heap.size w w' := by
  have HF := Lib.hid h
  have HN := Lib.hid hN
  have HY := Lib.hid hY
  have AW := Lib.hid (dawake_any w)
  unfold maxLen at hm hm2
  clear h hN hY
  go_enter Try.func7, Try.ntmps7
  go_wp2_with fail
  refine AW.out.mono ?_
  rintro e w1 ⟨rfl, hb1⟩
  have HB1 := Lib.hid hb1
  clear hb1
  go_wp2_with fail
  refine (atk_new w w1 HB1.out).mono ?_
  rintro e w2 ⟨rfl, K0, h0, _⟩
  have H0 : Hid (∃ K s, Along w w2 w1.heap.size K s (.slice none 0 0) ∧ s.ws.length = 0 ∧ SizeB s 0) := Lib.hid ⟨K0, _, ⟨h0, rfl, World.ownsRow_nil w2 w.heap.size 5 1, fun r hr => by cases hr⟩, rfl, ⟨by simp [allZ], by simp⟩⟩
  obtain ⟨D, hD⟩ : ∃ D, w1.heap.size = D := ⟨_, rfl⟩
  rw [hD] at H0
  simp only [hD]
  clear hD h0 HB1
  go_wp2
  go_loopw [6, 7, 8, 9] (fun V n p i wr => ∃ k : Nat, k ≤ m ∧ i = .int .i64 k ∧ ∃ nn : Nat, n = .int .i64 nn ∧ nn ≤ 3000 ∧ ∃ q : Nat, p = .int .i64 q ∧ Hid (∃ K s, Along w wr D K s V ∧ s.ws.length = q ∧ SizeB s nn)) (fun _ _ _ i _ => m - (intOf i).toNat)
  case atStart => exact ⟨0, by omega, rfl, 0, rfl, by omega, 0, rfl, H0⟩
  case round =>
    obtain ⟨k, hk, rfl, nn, rfl, hnn, q, rfl, HS⟩ := hrel
    by_cases hlt : k < m
    · have hltI : (k : Int) < m := by omega
      obtain ⟨K, s, hA, hq, hsz⟩ := HS.out
      have hV := hA.own.lt
      obtain ⟨A6, c6, hv6, h61, h62⟩ := own_shape hA.own
      subst hv6
      have HA := Lib.hid hA
      have HZ := Lib.hid hsz
      have HQ := Lib.hid hq
      have hq3 : q ≤ 3000 := by have := hsz.writes; omega
      have hal : (allZ s).length ≤ 3000 := by have := hsz.bytes; omega
      have HSm : Hid (Small s) := Lib.hid (hsz.small (by omega))
      have hNk := HN.out k hlt
      obtain ⟨b, off, rfl, hb, hc⟩ := (HF.out.below hA.at_.bel).at_ hlt
      have hZk := Lib.hid ((HF.out.below hA.at_.bel).bs k hlt)
      have HBB := Lib.hid hb
      have HC := Lib.hid hc
      obtain ⟨al, hale⟩ : ∃ al, (allZ s).length = al := ⟨_, rfl⟩
      have HAL := Lib.hid hale
      rw [hale] at hal HA
      simp only [hale]
      obtain ⟨nk, hnke⟩ : ∃ nk, Ns k = nk := ⟨_, rfl⟩
      obtain ⟨ck, hcke⟩ : ∃ ck, Cs k = ck := ⟨_, rfl⟩
      obtain ⟨ak, hake⟩ : ∃ ak, As k = ak := ⟨_, rfl⟩
      rw [hnke] at hNk
      rw [hnke, hake] at hZk
      rw [hnke, hcke, hake] at hc HC
      have EN := Lib.hid hnke
      have EA := Lib.hid hake
      clear hA hsz hq hV hale hnke hcke hake h61
      by_cases hbig : 3000 < nn + nk + 20
      · have hbI : 3000 < (nn : Int) + (nk : Int) + 20 := by omega
        have HE := Lib.hid HA.out.at_.bel
        clear hbig hal hq3 h62 hk
        go_wp2
        go_ret
        exact ⟨rfl, HE.out⟩
      have hbI : ¬ 3000 < (nn : Int) + (nk : Int) + 20 := by omega
      have hb2 : nn + nk + 20 ≤ 3000 := by omega
      clear hbig
      have HW := Lib.hid (write_any ck HA.out.at_.dk hZk.out HA.out.at_.bel.size (by omega) HSm.out)
      have HDW : Hid (dWrite s (Zs k) = (0, ⟨s.up, s.zs, s.ws ++ [Zs k]⟩)) := Lib.hid (by unfold dWrite; rw [if_pos HA.out.up])
      go_wp2_with fail
      refine HW.out.mono ?_
      intro e w3 hd
      rw [HDW.out] at hd
      obtain ⟨rfl, K2, h2, hmv, hnw⟩ := HA.out.at_.did hd
      simp only at h2 ⊢
      obtain ⟨s1, hs1⟩ : ∃ s1, (⟨s.up, s.zs, s.ws ++ [Zs k]⟩ : DiskZ) = s1 := ⟨_, rfl⟩
      rw [hs1] at h2
      have HS1 := Lib.hid hs1
      have h3 := HA.out.did h2 hmv hnw (by rw [← hs1]; exact HA.out.up)
      have HO := Lib.hid h3.1
      have HAP := Lib.hid h3.2
      have HA2 := Lib.hid h2
      have hc3 : w3.cell? ⟨b, off + k, none⟩ = some (.slice ak nk ck) := (h2.bel.cell (p := ⟨b, off + k, none⟩) HBB.out).trans ((HA.out.at_.bel.cell (p := ⟨b, off + k, none⟩) HBB.out).symm.trans hc)
      have HZ3 := Lib.hid (((HF.out.below h2.bel).bs k hlt).lies)
      rw [EN.out, EA.out] at HZ3
      have HE1 : Hid (allZ s1 = allZ s ++ Zs k) := Lib.hid (by rw [← hs1]; simp [allZ])
      have HU1 : Hid (s1.up = true) := Lib.hid (by rw [← hs1]; exact HA.out.up)
      have HW1 : Hid (s1.ws.length = q + 1) := Lib.hid (by rw [← hs1, ← HQ.out]; simp)
      have HZ1 : Hid (SizeB s1 (nn + nk + 20)) := Lib.hid (by
        have := dWrite_size HZ.out (Zs k)
        rw [HDW.out, hs1, hZk.out.len] at this
        exact this.more (by omega))
      have HL1 : Hid ((allZ s1).length = al + nk) := Lib.hid (by rw [HE1.out, List.length_append, HAL.out, hZk.out.len])
      have HSm1 : Hid (Small s1) := Lib.hid (HZ1.out.small (by omega))
      rw [HAL.out] at HO
      have hVV : ∀ r, (Value.slice A6 al c6).ownBlock = some r → w.heap.size ≤ r ∧ r < w3.heap.size ∧ ¬ K2 r := fun r hr => ⟨(HO.out.lt r hr).1, (HO.out.lt r hr).2, HAP.out r hr⟩
      have HVV := Lib.hid hVV
      have s03 := h2.bel.size
      have HBB2 := Lib.hid h2.bel
      clear h2 h3 hmv hnw hd hs1 hc hVV
      go_upto_region 15 with ((at_builtin; refine wpList_appA _ rfl (.tmp 36) (.tmp 40) 27 rfl w.heap.size 5 1 1 Try.underlying27 u8_info (by omega) (.slice A6 al c6) al (vals (allZ s)) rfl HO.out ak nk ck (vals (Zs k)) rfl HZ3.out.1 HZ3.out.2 (vals_one _) (by unfold maxLen; omega) (by omega) s03 ?_; intro V2 w4 ho4 hg4 hat4))
      obtain ⟨A8, c8, rfl, h81, h82⟩ := own_shape ho4
      rw [← vals_app, ← HE1.out] at ho4
      have HAl : Hid (Along w w4 D K2 s1 (.slice A8 (al + nk) c8)) := Lib.hid (Along.app HA2.out HU1.out HVV.out hg4 hat4 ho4 HL1.out.symm)
      clear ho4 hg4 hat4 hc3
      by_cases hm2k : k < m2
      · have hm2I : (k : Int) < m2 := by omega
        obtain ⟨b2, o2, rfl, hb2', hy⟩ := HY.out (by omega)
        have hyk : w4.cell? ⟨b2, o2 + k, none⟩ = some (.bool (Y k)) := (HAl.out.at_.bel.cell (p := ⟨b2, o2 + k, none⟩) hb2').trans (hy k hm2k)
        clear hy
        cases hYk : Y k with
        | true =>
          rw [hYk] at hyk
          clear hYk
          have HSY := Lib.hid (sync_any HAl.out.at_.dk HSm1.out)
          have HDS : Hid (dSync s1 = (0, ⟨s1.up, s1.zs ++ s1.ws.flatten, []⟩)) := Lib.hid (by unfold dSync; rw [if_pos HU1.out])
          go_wp2_with fail
          refine HSY.out.mono ?_
          intro e w5 hd
          rw [HDS.out] at hd
          obtain ⟨rfl, K5, h5, hmv, hnw⟩ := HAl.out.at_.did hd
          simp only at h5 ⊢
          obtain ⟨s2, hs2⟩ : ∃ s2, (⟨s1.up, s1.zs ++ s1.ws.flatten, []⟩ : DiskZ) = s2 := ⟨_, rfl⟩
          rw [hs2] at h5
          have hz2 : s2.zs.length = al + nk := by rw [← hs2, ← HL1.out]; rfl
          have hE2 : allZ s2 = allZ s1 := by rw [← hs2, allZ_flat]; rfl
          have hU2 : s2.up = true := by rw [← hs2]; exact HU1.out
          have h6 := HAl.out.did h5 hmv hnw hU2
          have HL5 : Hid (Along w w5 D K5 s2 (.slice A8 (al + nk) c8)) := Lib.hid ⟨h5, hU2, by rw [hE2]; exact h6.1, h6.2⟩
          have HE2 := Lib.hid hE2
          have HZ2 := Lib.hid hz2
          have HW2 : Hid (s2.ws.length = 0) := Lib.hid (by rw [← hs2]; rfl)
          have HSZ2 : Hid (SizeB s2 (nn + nk + 20)) := Lib.hid (by
            have := dSync_size HZ1.out
            rw [HDS.out, hs2] at this
            exact this)
          have HLe : Hid ((allZ s2).length = al + nk) := Lib.hid (by rw [hE2]; exact HL1.out)
          clear h5 h6 hmv hnw hd hs2 hz2 hE2 hU2 hyk HSY HDS
          go_wp2_with fail
          refine (synced_any HL5.out.at_.dk).mono ?_
          rintro e w' ⟨rfl, rfl⟩
          rw [HZ2.out]
          go_wp2_with fail
          refine (told_any HL5.out.at_.dk (HSZ2.out.small (by omega))).mono ?_
          rintro e w6 ⟨A7, n7, q7, rfl, hl7, hs7, ho7, hc7, hm7, hb7⟩
          have HL6 := Lib.hid (HL5.out.below hb7)
          have HBY := Lib.hid hs7.bytes
          have HSame : Hid (Calls Try.prog 24 #[.slice A7 n7 q7, .slice A8 (al + nk) c8] w6 (Quiet (.bool true) w6)) := Lib.hid (same_self q7 c8 hs7.bs (bs_of_own (by rw [← HLe.out]; rw [← HLe.out] at HL6; exact HL6.out.own) HBY.out) (Nat.le_trans hc7 hm7) (Nat.le_trans h81 h82))
          have hm7' := hm7
          unfold maxLen at hm7'
          clear hs7 ho7 hb7 hl7 hm7
          go_wp2_with fail
          refine HSame.out.mono ?_
          rintro e w7 ⟨rfl, hq7⟩
          have HL7 : Hid (Along w w7 D K5 s2 (.slice A8 (al + nk) c8)) := Lib.hid (by obtain ⟨j, rfl⟩ := hq7; exact HL6.out.below ⟨rfl, rfl, rfl, Nat.le_refl _, fun _ _ => rfl⟩)
          clear hq7 HSame HL6
          go_wp2_with fail
          refine (writes_any HL7.out.at_.dk).mono ?_
          rintro e w' ⟨rfl, rfl⟩
          rw [HW2.out]
          go_wp2_with fail
          refine (up_any HL7.out.at_.dk).mono ?_
          rintro e w' ⟨rfl, rfl⟩
          rw [HL7.out.up]
          have HREL : Hid (∃ K s, Along w w7 D K s (.slice A8 (al + nk) c8) ∧ s.ws.length = 0 ∧ SizeB s (nn + nk + 20)) := Lib.hid ⟨K5, s2, HL7.out, HW2.out, HSZ2.out⟩
          go_wp2
          go_roundw
          case rel => exact ⟨k + 1, by omega, by go_num, nn + nk + 20, by go_num, by omega, 0, by first | rfl | go_num, HREL⟩
          case measure => simp [intOf]; omega
        | false =>
          rw [hYk] at hyk
          clear hYk
          go_wp2_with fail
          refine (told_any HAl.out.at_.dk (HZ1.out.small (by omega))).mono ?_
          rintro e w6 ⟨A7, n7, q7, rfl, hl7, hs7, ho7, hc7, hm7, hb7⟩
          have HL6 := Lib.hid (HAl.out.below hb7)
          have HBY := Lib.hid hs7.bytes
          have HSame : Hid (Calls Try.prog 24 #[.slice A7 n7 q7, .slice A8 (al + nk) c8] w6 (Quiet (.bool true) w6)) := Lib.hid (same_self q7 c8 hs7.bs (bs_of_own (by rw [← HL1.out]; rw [← HL1.out] at HL6; exact HL6.out.own) HBY.out) (Nat.le_trans hc7 hm7) (Nat.le_trans h81 h82))
          have hm7' := hm7
          unfold maxLen at hm7'
          clear hs7 ho7 hb7 hl7 hm7
          go_wp2_with fail
          refine HSame.out.mono ?_
          rintro e w7 ⟨rfl, hq7⟩
          have HL7 : Hid (Along w w7 D K2 s1 (.slice A8 (al + nk) c8)) := Lib.hid (by obtain ⟨j, rfl⟩ := hq7; exact HL6.out.below ⟨rfl, rfl, rfl, Nat.le_refl _, fun _ _ => rfl⟩)
          clear hq7 HSame HL6
          go_wp2_with fail
          refine (writes_any HL7.out.at_.dk).mono ?_
          rintro e w' ⟨rfl, rfl⟩
          rw [HW1.out]
          go_wp2_with fail
          refine (up_any HL7.out.at_.dk).mono ?_
          rintro e w' ⟨rfl, rfl⟩
          rw [HL7.out.up]
          have HREL : Hid (∃ K s, Along w w7 D K s (.slice A8 (al + nk) c8) ∧ s.ws.length = q + 1 ∧ SizeB s (nn + nk + 20)) := Lib.hid ⟨K2, s1, HL7.out, HW1.out, HZ1.out⟩
          go_wp2
          go_roundw
          case rel => exact ⟨k + 1, by omega, by go_num, nn + nk + 20, by go_num, by omega, q + 1, by first | rfl | go_num, HREL⟩
          case measure => simp [intOf]; omega
      · have hm2I : ¬ (k : Int) < m2 := by omega
        go_wp2_with fail
        refine (told_any HAl.out.at_.dk (HZ1.out.small (by omega))).mono ?_
        rintro e w6 ⟨A7, n7, q7, rfl, hl7, hs7, ho7, hc7, hm7, hb7⟩
        have HL6 := Lib.hid (HAl.out.below hb7)
        have HBY := Lib.hid hs7.bytes
        have HSame : Hid (Calls Try.prog 24 #[.slice A7 n7 q7, .slice A8 (al + nk) c8] w6 (Quiet (.bool true) w6)) := Lib.hid (same_self q7 c8 hs7.bs (bs_of_own (by rw [← HL1.out]; rw [← HL1.out] at HL6; exact HL6.out.own) HBY.out) (Nat.le_trans hc7 hm7) (Nat.le_trans h81 h82))
        have hm7' := hm7
        unfold maxLen at hm7'
        clear hs7 ho7 hb7 hl7 hm7
        go_wp2_with fail
        refine HSame.out.mono ?_
        rintro e w7 ⟨rfl, hq7⟩
        have HL7 : Hid (Along w w7 D K2 s1 (.slice A8 (al + nk) c8)) := Lib.hid (by obtain ⟨j, rfl⟩ := hq7; exact HL6.out.below ⟨rfl, rfl, rfl, Nat.le_refl _, fun _ _ => rfl⟩)
        clear hq7 HSame HL6
        go_wp2_with fail
        refine (writes_any HL7.out.at_.dk).mono ?_
        rintro e w' ⟨rfl, rfl⟩
        rw [HW1.out]
        go_wp2_with fail
        refine (up_any HL7.out.at_.dk).mono ?_
        rintro e w' ⟨rfl, rfl⟩
        rw [HL7.out.up]
        have HREL : Hid (∃ K s, Along w w7 D K s (.slice A8 (al + nk) c8) ∧ s.ws.length = q + 1 ∧ SizeB s (nn + nk + 20)) := Lib.hid ⟨K2, s1, HL7.out, HW1.out, HZ1.out⟩
        go_wp2
        go_roundw
        case rel => exact ⟨k + 1, by omega, by go_num, nn + nk + 20, by go_num, by omega, q + 1, by first | rfl | go_num, HREL⟩
        case measure => simp [intOf]; omega
    · have hkm : ¬ (k : Int) < m := by omega
      have HB := Lib.hid (show Below w.heap.size w wr by obtain ⟨K, s, h1, _⟩ := HS.out; exact h1.at_.bel)
      go_wp2
      go_ret
      exact ⟨rfl, HB.out⟩
end Go.Proofs.Ytlbmhkccmclmfaa
