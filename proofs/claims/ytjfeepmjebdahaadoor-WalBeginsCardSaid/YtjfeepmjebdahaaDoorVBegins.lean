/- The statement WalBegins: the walk. -/
import Derived.Test.YtjfeepmjebdahaaDoorVBegin
import Derived.Deep.Cut
namespace Go.Proofs.YtjfeepmjebdahaaDoor
open Go.ChangeShapes Go.WideShapes Go.ChangeAt Go.RowKit
set_option linter.unusedVariables false
open Plain Sha
set_option maxRecDepth 100000 in
set_option maxHeartbeats 8000000 in
theorem walBegins_in (A : Option Addr) (m c : Nat) (As : Nat → Option Addr) (Ns Cs : Nat → Nat) (Zs : Nat → List Int) (a1 a2 a3 : Int) (A4 : Option Addr) (n4 c4 : Nat) (z4 : List Int) (w : World) (h : Lists w w.heap.size A m As Ns Cs Zs) (hm : m ≤ maxLen) (hN : ∀ j, j < m → Ns j ≤ 140737488355328)
    (k1 : -9223372036854775808 ≤ a1 ∧ a1 ≤ 9223372036854775807) (k2 : -9223372036854775808 ≤ a2 ∧ a2 ≤ 9223372036854775807) (k3 : -9223372036854775808 ≤ a3 ∧ a3 ≤ 9223372036854775807) (h4 : Bs w w.heap.size A4 n4 z4) (hn4 : n4 ≤ maxLen) (hF : LaidF w) (hK : LaidK w) :
    Calls Tryd.prog 5 #[.slice A m c, .int .i64 a1, .int .i64 a2, .int .i64 a3, .slice A4 n4 c4] w fun e w' => e = .returned (.bool true) ∧ Below w.heap.size w w' := by
  have HL := Lib.hid h
  have HZ4 := Lib.hid h4
  have HF := Lib.hid hF
  have HK := Lib.hid hK
  have HN := Lib.hid hN
  have HLen : Hid (∀ j, j < m → (Zs j).length = Ns j) := Lib.hid (fun j hj => (h.bs j hj).len)
  have HG := Lib.hid (fun (w1 : World) (b1 : Below w.heap.size w w1) => wlong_any c (h.below b1) hm hN)
  unfold maxLen at hn4 hm
  have HL4 := Lib.hid h4.len
  clear h h4 hF hK hN
  go_enter Tryd.func5, Tryd.ntmps5
  go_wp2_with fail
  refine (wawake_any w HF.out HK.out).mono ?_
  rintro e w1 ⟨rfl, b1⟩
  have q1 := Lib.hid b1
  clear b1
  go_wp2_with fail
  refine (HG.out w1 q1.out).mono ?_
  rintro e w1' ⟨b, rfl, rfl, hb⟩
  cases b with
  | true =>
    go_wp2
    go_ret
    exact ⟨rfl, q1.out⟩
  | false =>
    have hs := hb rfl
    clear hb HG
    by_cases g1 : 500 < n4
    · have g1I : 500 < (n4 : Int) := by omega
      go_wp2
      go_ret
      exact ⟨rfl, q1.out⟩
    have g1I : ¬ 500 < (n4 : Int) := by omega
    by_cases g2 : a2 < 0
    · go_wp2
      go_ret
      exact ⟨rfl, q1.out⟩
    by_cases g3 : a3 < 0
    · go_wp2
      go_ret
      exact ⟨rfl, q1.out⟩
    by_cases g4 : a1 < 0
    · go_wp2
      go_ret
      exact ⟨rfl, q1.out⟩
    by_cases g5 : (m : Int) < a1
    · go_wp2
      go_ret
      exact ⟨rfl, q1.out⟩
    obtain ⟨S, rfl⟩ := Int.eq_ofNat_of_zero_le (show 0 ≤ a1 by omega)
    obtain ⟨Kp, rfl⟩ := Int.eq_ofNat_of_zero_le (show 0 ≤ a2 by omega)
    obtain ⟨hm50, hEN, hNs⟩ := weigh hs
    have HEN := Lib.hid hEN
    have HNs := Lib.hid hNs
    have hSm : S ≤ m := by omega
    have hKb : Kp ≤ 9223372036854775807 := by omega
    clear hs hEN hNs hm k1
    go_wp2_with fail
    refine (atk_first w w1 q1.out).mono ?_
    rintro e w2 ⟨rfl, k2, b2⟩
    have K2 := Lib.hid k2
    clear k2 b2
    go_wp2_with fail
    refine (wal_new K2.out HF.out HK.out).mono ?_
    rintro e w3 ⟨rfl, h⟩
    have H3 := Lib.hid h
    clear h
    obtain ⟨b, hb⟩ : ∃ b, w2.heap.size = b := ⟨_, rfl⟩
    obtain ⟨d, hd⟩ : ∃ d, w1.heap.size = d := ⟨_, rfl⟩
    rw [hb, hd] at H3 ⊢
    clear hb hd K2 q1
    go_wp2
    go_loopw [13] (fun i wr => ∃ k : Nat, k ≤ m ∧ i = .int .i64 (k : Int) ∧ Hid (Wal w wr b d (stB Zs S k))) (fun i _ => m - (intOf i).toNat)
    case atStart => exact ⟨0, by omega, rfl, Lib.hid (by rw [stB_zero]; exact H3.out)⟩
    case round =>
      obtain ⟨k, hk, rfl, HR⟩ := hrel
      by_cases hlt : k < m
      · have hltI : (k : Int) < (m : Int) := by omega
        have hsm := stB_small (Zs := Zs) (S := S) (k := k) (fun j hj => HLen.out j (by omega)) (by have := HEN.out k hk; omega) (by omega)
        have hnk := HNs.out k hlt
        by_cases hkS : k = S
        · subst hkS
          have hsy : dSync (stB Zs k k) = (0, sY Zs k) := by rw [stB_low (Nat.le_refl _)]; exact sync_all Zs k
          have C1 := Lib.hid (wal_sync HR.out hsy hsm)
          have HYS := Lib.hid (sY_small (S := k) (fun j hj => HLen.out j (by omega)) (by have := HEN.out k hk; omega))
          clear hsy hsm
          go_wp2_with fail
          refine C1.out.mono ?_
          rintro e w4 ⟨rfl, h⟩
          have H4 := Lib.hid h
          have hLr := HL.out.below h.bel
          obtain ⟨g, o, rfl, hg, hcell⟩ := hLr.at_ hlt
          have C2 := Lib.hid (wal_add (Cs k) H4.out (Below.refl _ _) (stands_bs (hLr.bs k hlt) (by unfold maxLen; omega) (fun k hk => .inr hk)) (by omega) (stB_turn Zs k) HYS.out)
          clear h C1 hLr HR
          go_wp2_with fail
          refine C2.out.mono ?_
          rintro e w5 ⟨rfl, h⟩
          have H5 := Lib.hid h
          clear h C2
          go_wp2
          go_roundw
          case rel => exact ⟨k + 1, by omega, by go_num, H5⟩
          case measure => simp [intOf]; omega
        · have hkI : ¬ (k : Int) = (S : Int) := by omega
          have hLr := HL.out.below HR.out.bel
          obtain ⟨g, o, rfl, hg, hcell⟩ := hLr.at_ hlt
          have C2 := Lib.hid (wal_add (Cs k) HR.out (Below.refl _ _) (stands_bs (hLr.bs k hlt) (by unfold maxLen; omega) (fun k hk => .inr hk)) (by omega) (stB_add (Zs := Zs) hkS) hsm)
          clear hLr hsm
          go_wp2_with fail
          refine C2.out.mono ?_
          rintro e w5 ⟨rfl, h⟩
          have H5 := Lib.hid h
          clear h C2
          go_wp2
          go_roundw
          case rel => exact ⟨k + 1, by omega, by go_num, H5⟩
          case measure => simp [intOf]; omega
      · obtain rfl : k = m := by omega
        clear H3 hk hlt
        by_cases hkS : S = k
        · subst hkS
          obtain ⟨F, hF⟩ : ∃ F, sAdd (sY Zs S) (shZ Zs S) (S - S) = F := ⟨_, rfl⟩
          obtain ⟨q, C, hcr, hcu, hcw, hch, hcl⟩ := crash_holds (Zs := Zs) (S := S) (m := S) hSm (fun j hj => by rw [HLen.out j hj]; have := HNs.out j hj; omega) Kp a3
          rw [hF, if_neg (show ¬ a3 < 0 by omega)] at hcr
          have hFh : Holds F (L0 Zs S) [] := by
            have := sAdd_holds (hold_sY (Zs := Zs) (S := S) (fun j hj => by rw [HLen.out j (by omega)]; have := HNs.out j (by omega); omega)) (shZ Zs S) (S - S) (fun j hj => by unfold shZ; rw [HLen.out _ (by omega)]; have := HNs.out (S + j) (by omega); omega)
            rw [hF, L0_split Zs hSm] at this
            exact this
          have hEk := HEN.out S (Nat.le_refl _)
          have hFl : (allZ F).length = EN Ns S := by
            have := hFh.all
            rw [List.append_nil] at this
            rw [this]
            unfold L0
            rw [joinZ_range, FZ_len S HLen.out]
          have hFz : F.zs = FZ Zs S := by rw [← hF]; rfl
          have hFs : Small F := ⟨by omega, by rw [← hF]; unfold sAdd sY; simp only [List.nil_append, List.length_map, List.length_range]; omega⟩
          have hFlast : lastZ (allZ F) F.zs.length = S := by
            have h := last_join (l := L0 Zs S) (q := []) S (by rw [L0_len]; omega) hFh.short
            rw [← hFh.all, L0_take Zs S S hSm] at h
            have e : joinZ (L0 Zs S) = F.zs := by rw [hFz]; unfold L0; rw [joinZ_range]
            rwa [e] at h
          rw [FZ_len S HLen.out] at hcl
          obtain ⟨Wn, hWn⟩ : ∃ Wn, min S (S + Kp) = Wn := ⟨_, rfl⟩
          rw [hWn] at hch
          have hWk : Wn ≤ S := by omega
          obtain ⟨D, hD⟩ : ∃ D : DiskZ, (⟨true, C.zs, C.ws⟩ : DiskZ) = D := ⟨_, rfl⟩
          rw [hD] at hch
          have hst : dStart C = (0, D) := by unfold dStart; rw [hcu, ← hD]; rfl
          have hDu : D.up = true := by rw [← hD]
          have hDl : (allZ D).length ≤ 2000 := by rw [← hD, hcw, allZ_flat]; omega
          have hDs : Small D := ⟨by omega, by rw [← hD]; show C.ws.length ≤ _; rw [hcw]; simp⟩
          have hCs : Small C := ⟨by
            have : allZ C = C.zs := by unfold allZ; rw [hcw]; simp
            rw [this]; omega, by rw [hcw]; simp⟩
          have hRh := hch.recover
          have hRu : (recS D).up = true := by rw [recS_up, hDu]
          have hRs := recS_small hDs
          have hRl : (allZ (recS D)).length ≤ 2000 := by
            have h1 := hRh.all
            have h2 := hch.all
            rw [List.append_nil] at h1
            have := congrArg List.length h2
            rw [List.length_append] at this
            rw [h1]; omega
          obtain ⟨R, hR⟩ : ∃ R, recS D = R := ⟨_, rfl⟩
          rw [hR] at hRh hRu hRs hRl
          obtain ⟨G, hG⟩ : ∃ G, (dWrite R (frameZ z4)).2 = G := ⟨_, rfl⟩
          have hdw : dWrite R (frameZ z4) = (0, G) := by rw [← hG]; unfold dWrite; rw [if_pos hRu]
          have hGh : Holds G (L0 Zs Wn ++ [z4]) [] := by rw [← hG]; exact hRh.add hRu (by rw [HL4.out]; omega)
          have hGs : Small G := by
            refine ⟨?_, ?_⟩
            · rw [← hG]
              unfold dWrite
              rw [if_pos hRu]
              have : allZ (⟨R.up, R.zs, R.ws ++ [frameZ z4]⟩ : DiskZ) = allZ R ++ frameZ z4 := by simp [allZ]
              rw [this, List.length_append, frameZ_len, HL4.out]
              omega
            · have hw : R.ws.length ≤ 0 := by
                rw [← hR]
                unfold recS
                split
                · simp
                · rw [← hD, hcw]; simp
              rw [← hG]
              unfold dWrite
              rw [if_pos hRu]
              simp; omega
          have HSm := Lib.hid hFs
          have HLast := Lib.hid hFlast
          have HCr := Lib.hid hcr
          have HSt := Lib.hid hst
          have HDu := Lib.hid hDu
          have HDs := Lib.hid hDs
          have HCs := Lib.hid hCs
          have HDh := Lib.hid hch
          have HRs := Lib.hid hRs
          have HDR := Lib.hid hR
          have HDW := Lib.hid hdw
          have HGh := Lib.hid hGh
          have HGs := Lib.hid hGs
          have HWL : Hid ((L0 Zs Wn).length = Wn) := Lib.hid (L0_len Zs Wn)
          have HPre : Hid (L0 Zs S = L0 Zs Wn ++ L0 (shZ Zs Wn) (S - Wn)) := Lib.hid (L0_split Zs hWk).symm
          obtain ⟨X, hX⟩ : ∃ X, IntKind.i64.wrap ((S : Int) + (Kp : Int)) = X := ⟨_, rfl⟩
          have hX2 : ((S : Int) + Kp ≤ 9223372036854775807 ∧ X = (S : Int) + Kp) ∨ (9223372036854775807 < (S : Int) + Kp ∧ X = (S : Int) + Kp - 18446744073709551616) := by
            rw [IntKind.wrap_i64] at hX
            omega
          have HXW : Hid (((¬ (S : Int) < X ∧ ¬ X < (S : Int)) → X = (Wn : Int)) ∧ (((S : Int) < X ∨ X < (S : Int)) → (S : Int) = (Wn : Int))) := Lib.hid ⟨fun h => by omega, fun h => by omega⟩
          have HFk : Hid (sAdd (sY Zs S) (shZ Zs S) (S - S) = F) := Lib.hid hF
          clear hF hcr hcu hcw hch hcl hFh hEk hFl hFz hFs hFlast hWn hD hst hDu hDl hDs hCs hRh hRu hRs hRl hR hG hdw hGh hGs hX2
          obtain ⟨B, hB⟩ : ∃ B, (decide ((S : Int) < X) || decide (X < (S : Int))) = B := ⟨_, rfl⟩
          have HB := Lib.hid hB
          have HBW : Hid ((B = true → (S : Int) = (Wn : Int)) ∧ (B = false → X = (Wn : Int))) := Lib.hid ⟨fun h => by
            rw [← hB, Bool.or_eq_true, decide_eq_true_eq, decide_eq_true_eq] at h
            exact HXW.out.2 h, fun h => by
            rw [← hB, Bool.or_eq_false_iff, decide_eq_false_iff_not, decide_eq_false_iff_not] at h
            exact HXW.out.1 h⟩
          clear hB HXW
          have C4 := Lib.hid (wal_sync HR.out (show dSync (stB Zs S S) = (0, F) by rw [stB_low (Nat.le_refl _), sync_all, ← HFk.out, Nat.sub_self, sAdd_zero]) (stB_small (Zs := Zs) (S := S) (k := S) HLen.out (by have := HEN.out S (Nat.le_refl _); omega) (by omega)))
          go_wp2_with fail
          refine C4.out.mono ?_
          rintro e w4 ⟨rfl, h⟩
          have H4 := Lib.hid h
          clear h C4 HR
          go_upto_region 17 with fail
          go_cut [84] from 76 (fun v wx => v = .bool B ∧ wx = w4)
          case first =>
            by_cases x1 : (S : Int) < X
            · have e := Lib.hid (show B = true by rw [← HB.out]; simp [x1])
              go_wp2
              go_meet
              case rel => exact ⟨by rw [e.out], rfl⟩
            · by_cases x2 : X < (S : Int)
              · have e := Lib.hid (show B = true by rw [← HB.out]; simp [x2])
                go_wp2
                go_meet
                case rel => exact ⟨by rw [e.out], rfl⟩
              · have e := Lib.hid (show B = false by rw [← HB.out]; simp [x1, x2])
                go_wp2
                go_meet
                case rel => exact ⟨by rw [e.out], rfl⟩
          case rest =>
            obtain ⟨rfl, hw⟩ := hcut
            have hw' := hw.symm
            subst hw'
            clear HB
            go_upto_if 84 with fail
            go_cut [14] from 85 (fun v wx => v = .int .i64 (Wn : Int) ∧ wx = w4)
            case first =>
              cases B with
              | true =>
                have e := Lib.hid (HBW.out.1 rfl)
                go_wp2
                go_meet
                case rel => exact ⟨by rw [e.out], rfl⟩
              | false =>
                have e := Lib.hid (HBW.out.2 rfl)
                go_wp2
                go_meet
                case rel => exact ⟨by rw [e.out], rfl⟩
            case rest =>
              obtain ⟨rfl, hw⟩ := hcut
              have hw' := hw.symm
              subst hw'
              have C5 := Lib.hid (wal_last H4.out HSm.out HLast.out)
              clear hX HBW
              go_wp2_with fail
              refine C5.out.mono ?_
              rintro e w5 ⟨rfl, _, h⟩
              have H5 := Lib.hid h
              have C6 := Lib.hid (wal_crash (Kp : Int) a3 H5.out HCr.out HSm.out (by omega) k3)
              clear h C5 H4
              go_wp2_with fail
              refine C6.out.mono ?_
              rintro e w6 ⟨rfl, h⟩
              have H6 := Lib.hid h
              have C7 := Lib.hid (wal_start H6.out HSt.out)
              clear h C6 H5
              go_wp2_with fail
              refine C7.out.mono ?_
              rintro e w7 ⟨rfl, h⟩
              obtain ⟨K7, a7, g7⟩ := h
              have C8 := Lib.hid (wal_recover2 a7 g7 HDs.out HDu.out HDh.out rfl HWL.out)
              clear C7 H6 a7 g7
              go_wp2_with fail
              refine C8.out.mono ?_
              rintro e w8 ⟨A8, c8, ps8, K8, rfl, a8, g8, m8, n8, r8⟩
              rw [HDR.out] at g8
              have A8' := Lib.hid a8
              have G8 := Lib.hid g8
              have R8 := Lib.hid r8
              have HLr := Lib.hid (lists_row (HL.out.below g8.at_.bel) g8.at_.bel.size HN.out)
              have C9 := Lib.hid (begin_any c8 c (r8.row HWL.out) HLr.out (by omega) ⟨L0 (shZ Zs Wn) (S - Wn), by rw [r8.zs, piecesOf_zs, ← HPre.out]; rfl⟩)
              clear a8 g8 m8 n8 r8 C8 HLr
              go_wp2_with fail
              refine C9.out.mono ?_
              rintro e w9 ⟨rfl, t9, rfl⟩
              have hb9 : Below w8.heap.size w8 (w8.drewN t9) := ⟨rfl, rfl, rfl, Nat.le_refl _, fun _ _ => rfl⟩
              obtain ⟨w9, hw9⟩ : ∃ w9, w8.drewN t9 = w9 := ⟨_, rfl⟩
              rw [hw9] at hb9 ⊢
              have A9 := Lib.hid (A8'.out.below hb9)
              have G9 := Lib.hid (G8.out.below hb9)
              have R9 := Lib.hid (R8.out.below hb9)
              have hnew := G9.out.at_.new
              have C10 := Lib.hid (waladd_any c4 A9.out G9.out HRs.out (stands_bs (HZ4.out.below G9.out.at_.bel) (by unfold maxLen; omega) (fun k hk hKk => by have := hnew k hKk; omega)) (by omega))
              rw [HDW.out] at C10
              clear hw9 hb9 hnew C9 A8' G8 R8
              go_wp2_with fail
              refine C10.out.mono ?_
              intro e w10 hd
              obtain ⟨rfl, K10, g10, m10, n10⟩ := G9.out.did hd
              have A10 := Lib.hid (A9.out.did m10 n10)
              have G10 := Lib.hid g10
              have R10 := Lib.hid (R9.out.keep m10 n10)
              have C11 := Lib.hid (wal_recs2 A10.out G10.out HGs.out HGh.out.recs (m := Wn + 1) (by rw [List.length_append, HWL.out]; rfl))
              clear hd g10 m10 n10 C10 A9 G9 R9
              go_wp2_with fail
              refine C11.out.mono ?_
              rintro e w11 ⟨A11, c11, ps11, rfl, a11, g11, b11, r11⟩
              have R11 := Lib.hid (R10.out.below b11)
              have hrow := r11.row (by rw [List.length_append, HWL.out]; rfl)
              have B11 := Lib.hid g11.at_.bel
              have HZ11 := Lib.hid (HZ4.out.below g11.at_.bel)
              have gw : IntKind.i64.wrap ((Wn : Int) + 1) = ((Wn + 1 : Nat) : Int) := by rw [IntKind.wrap_i64]; omega
              have C12 := Lib.hid (begin_any c8 c11 (R11.out.row HWL.out) hrow (by omega) ⟨[z4], by rw [R11.out.zs, r11.zs]⟩)
              obtain ⟨p, hp⟩ : ∃ p, ps11[Wn]? = some p := ⟨_, List.getElem?_eq_getElem (by rw [hrow.len]; omega)⟩
              have hpz : p.zs = z4 := by
                have := congrArg (·[Wn]?) r11.zs
                simp only [List.getElem?_map, hp, Option.map_some] at this
                rw [List.getElem?_append_right (by rw [HWL.out]; omega), HWL.out, Nat.sub_self] at this
                simpa using this
              obtain ⟨bx, ox, rfl, hcx, hbx, hmx⟩ := hrow.cell Wn p hp
              obtain ⟨pA, pn, pc, pz⟩ := p
              have hpz : pz = z4 := hpz
              subst hpz
              have hcx : w11.cell? ⟨bx, ox + Wn, none⟩ = some (.slice pA pn pc) := hcx
              have HBX := Lib.hid hbx
              have HMX := Lib.hid hmx
              clear a11 g11 b11 r11 hrow hp hbx hmx C11 A10 G10 R10
              go_wp2_with fail
              refine C12.out.mono ?_
              rintro e w12 ⟨rfl, t12, rfl⟩
              have C13 : Hid (Calls Tryd.prog 29 #[.slice pA pn pc, .slice A4 n4 c4] (w11.drewN t12) (Quiet (.bool true) (w11.drewN t12))) := Lib.hid (by
                have := same_any pc c4 (HBX.out.drewN t12) (HZ11.out.drewN t12) HMX.out (by unfold maxLen; omega)
                rwa [eqB_self] at this)
              have hcx2 : (w11.drewN t12).cell? ⟨bx, ox + Wn, none⟩ = some (.slice pA pn pc) := hcx
              clear C12 hcx
              go_wp2_with fail
              refine C13.out.mono ?_
              rintro e w13 ⟨rfl, t13, rfl⟩
              clear C13 hcx2
              go_wp2
              go_ret
              exact ⟨rfl, below_drewN B11.out _⟩
        · skip
          obtain ⟨F, hF⟩ : ∃ F, sAdd (sY Zs S) (shZ Zs S) (k - S) = F := ⟨_, rfl⟩
          obtain ⟨q, C, hcr, hcu, hcw, hch, hcl⟩ := crash_holds (Zs := Zs) (S := S) (m := k) hSm (fun j hj => by rw [HLen.out j hj]; have := HNs.out j hj; omega) Kp a3
          rw [hF, if_neg (show ¬ a3 < 0 by omega)] at hcr
          have hFh : Holds F (L0 Zs k) [] := by
            have := sAdd_holds (hold_sY (Zs := Zs) (S := S) (fun j hj => by rw [HLen.out j (by omega)]; have := HNs.out j (by omega); omega)) (shZ Zs S) (k - S) (fun j hj => by unfold shZ; rw [HLen.out _ (by omega)]; have := HNs.out (S + j) (by omega); omega)
            rw [hF, L0_split Zs hSm] at this
            exact this
          have hEk := HEN.out k (Nat.le_refl _)
          have hFl : (allZ F).length = EN Ns k := by
            have := hFh.all
            rw [List.append_nil] at this
            rw [this]
            unfold L0
            rw [joinZ_range, FZ_len k HLen.out]
          have hFz : F.zs = FZ Zs S := by rw [← hF]; rfl
          have hFs : Small F := ⟨by omega, by rw [← hF]; unfold sAdd sY; simp only [List.nil_append, List.length_map, List.length_range]; omega⟩
          have hFlast : lastZ (allZ F) F.zs.length = S := by
            have h := last_join (l := L0 Zs k) (q := []) S (by rw [L0_len]; omega) hFh.short
            rw [← hFh.all, L0_take Zs S k hSm] at h
            have e : joinZ (L0 Zs S) = F.zs := by rw [hFz]; unfold L0; rw [joinZ_range]
            rwa [e] at h
          rw [FZ_len k HLen.out] at hcl
          obtain ⟨Wn, hWn⟩ : ∃ Wn, min k (S + Kp) = Wn := ⟨_, rfl⟩
          rw [hWn] at hch
          have hWk : Wn ≤ k := by omega
          obtain ⟨D, hD⟩ : ∃ D : DiskZ, (⟨true, C.zs, C.ws⟩ : DiskZ) = D := ⟨_, rfl⟩
          rw [hD] at hch
          have hst : dStart C = (0, D) := by unfold dStart; rw [hcu, ← hD]; rfl
          have hDu : D.up = true := by rw [← hD]
          have hDl : (allZ D).length ≤ 2000 := by rw [← hD, hcw, allZ_flat]; omega
          have hDs : Small D := ⟨by omega, by rw [← hD]; show C.ws.length ≤ _; rw [hcw]; simp⟩
          have hCs : Small C := ⟨by
            have : allZ C = C.zs := by unfold allZ; rw [hcw]; simp
            rw [this]; omega, by rw [hcw]; simp⟩
          have hRh := hch.recover
          have hRu : (recS D).up = true := by rw [recS_up, hDu]
          have hRs := recS_small hDs
          have hRl : (allZ (recS D)).length ≤ 2000 := by
            have h1 := hRh.all
            have h2 := hch.all
            rw [List.append_nil] at h1
            have := congrArg List.length h2
            rw [List.length_append] at this
            rw [h1]; omega
          obtain ⟨R, hR⟩ : ∃ R, recS D = R := ⟨_, rfl⟩
          rw [hR] at hRh hRu hRs hRl
          obtain ⟨G, hG⟩ : ∃ G, (dWrite R (frameZ z4)).2 = G := ⟨_, rfl⟩
          have hdw : dWrite R (frameZ z4) = (0, G) := by rw [← hG]; unfold dWrite; rw [if_pos hRu]
          have hGh : Holds G (L0 Zs Wn ++ [z4]) [] := by rw [← hG]; exact hRh.add hRu (by rw [HL4.out]; omega)
          have hGs : Small G := by
            refine ⟨?_, ?_⟩
            · rw [← hG]
              unfold dWrite
              rw [if_pos hRu]
              have : allZ (⟨R.up, R.zs, R.ws ++ [frameZ z4]⟩ : DiskZ) = allZ R ++ frameZ z4 := by simp [allZ]
              rw [this, List.length_append, frameZ_len, HL4.out]
              omega
            · have hw : R.ws.length ≤ 0 := by
                rw [← hR]
                unfold recS
                split
                · simp
                · rw [← hD, hcw]; simp
              rw [← hG]
              unfold dWrite
              rw [if_pos hRu]
              simp; omega
          have HSm := Lib.hid hFs
          have HLast := Lib.hid hFlast
          have HCr := Lib.hid hcr
          have HSt := Lib.hid hst
          have HDu := Lib.hid hDu
          have HDs := Lib.hid hDs
          have HCs := Lib.hid hCs
          have HDh := Lib.hid hch
          have HRs := Lib.hid hRs
          have HDR := Lib.hid hR
          have HDW := Lib.hid hdw
          have HGh := Lib.hid hGh
          have HGs := Lib.hid hGs
          have HWL : Hid ((L0 Zs Wn).length = Wn) := Lib.hid (L0_len Zs Wn)
          have HPre : Hid (L0 Zs k = L0 Zs Wn ++ L0 (shZ Zs Wn) (k - Wn)) := Lib.hid (L0_split Zs hWk).symm
          obtain ⟨X, hX⟩ : ∃ X, IntKind.i64.wrap ((S : Int) + (Kp : Int)) = X := ⟨_, rfl⟩
          have hX2 : ((S : Int) + Kp ≤ 9223372036854775807 ∧ X = (S : Int) + Kp) ∨ (9223372036854775807 < (S : Int) + Kp ∧ X = (S : Int) + Kp - 18446744073709551616) := by
            rw [IntKind.wrap_i64] at hX
            omega
          have HXW : Hid (((¬ (k : Int) < X ∧ ¬ X < (S : Int)) → X = (Wn : Int)) ∧ (((k : Int) < X ∨ X < (S : Int)) → (k : Int) = (Wn : Int))) := Lib.hid ⟨fun h => by omega, fun h => by omega⟩
          have HFk : Hid (sAdd (sY Zs S) (shZ Zs S) (k - S) = F) := Lib.hid hF
          clear hF hcr hcu hcw hch hcl hFh hEk hFl hFz hFs hFlast hWn hD hst hDu hDl hDs hCs hRh hRu hRs hRl hR hG hdw hGh hGs hX2
          obtain ⟨B, hB⟩ : ∃ B, (decide ((k : Int) < X) || decide (X < (S : Int))) = B := ⟨_, rfl⟩
          have HB := Lib.hid hB
          have HBW : Hid ((B = true → (k : Int) = (Wn : Int)) ∧ (B = false → X = (Wn : Int))) := Lib.hid ⟨fun h => by
            rw [← hB, Bool.or_eq_true, decide_eq_true_eq, decide_eq_true_eq] at h
            exact HXW.out.2 h, fun h => by
            rw [← hB, Bool.or_eq_false_iff, decide_eq_false_iff_not, decide_eq_false_iff_not] at h
            exact HXW.out.1 h⟩
          clear hB HXW
          have hkI : ¬ (S : Int) = (k : Int) := by omega
          have hkB : ((S : Int) == (k : Int)) = false := by simpa using hkI
          have H4 : Hid (Wal w wr b d F) := Lib.hid (by have := HR.out; rwa [stB_end (by omega), HFk.out] at this)
          obtain ⟨w4, hw4⟩ : ∃ w4, w4 = wr := ⟨_, rfl⟩
          subst hw4
          clear HR
          go_upto_region 17 with fail
          go_cut [84] from 76 (fun v wx => v = .bool B ∧ wx = w4)
          case first =>
            by_cases x1 : (k : Int) < X
            · have e := Lib.hid (show B = true by rw [← HB.out]; simp [x1])
              go_wp2
              go_meet
              case rel => exact ⟨by rw [e.out], rfl⟩
            · by_cases x2 : X < (S : Int)
              · have e := Lib.hid (show B = true by rw [← HB.out]; simp [x2])
                go_wp2
                go_meet
                case rel => exact ⟨by rw [e.out], rfl⟩
              · have e := Lib.hid (show B = false by rw [← HB.out]; simp [x1, x2])
                go_wp2
                go_meet
                case rel => exact ⟨by rw [e.out], rfl⟩
          case rest =>
            obtain ⟨rfl, hw⟩ := hcut
            have hw' := hw.symm
            subst hw'
            clear HB
            go_upto_if 84 with fail
            go_cut [14] from 85 (fun v wx => v = .int .i64 (Wn : Int) ∧ wx = w4)
            case first =>
              cases B with
              | true =>
                have e := Lib.hid (HBW.out.1 rfl)
                go_wp2
                go_meet
                case rel => exact ⟨by rw [e.out], rfl⟩
              | false =>
                have e := Lib.hid (HBW.out.2 rfl)
                go_wp2
                go_meet
                case rel => exact ⟨by rw [e.out], rfl⟩
            case rest =>
              obtain ⟨rfl, hw⟩ := hcut
              have hw' := hw.symm
              subst hw'
              have C5 := Lib.hid (wal_last H4.out HSm.out HLast.out)
              clear hX HBW
              go_wp2_with fail
              refine C5.out.mono ?_
              rintro e w5 ⟨rfl, _, h⟩
              have H5 := Lib.hid h
              have C6 := Lib.hid (wal_crash (Kp : Int) a3 H5.out HCr.out HSm.out (by omega) k3)
              clear h C5 H4
              go_wp2_with fail
              refine C6.out.mono ?_
              rintro e w6 ⟨rfl, h⟩
              have H6 := Lib.hid h
              have C7 := Lib.hid (wal_start H6.out HSt.out)
              clear h C6 H5
              go_wp2_with fail
              refine C7.out.mono ?_
              rintro e w7 ⟨rfl, h⟩
              obtain ⟨K7, a7, g7⟩ := h
              have C8 := Lib.hid (wal_recover2 a7 g7 HDs.out HDu.out HDh.out rfl HWL.out)
              clear C7 H6 a7 g7
              go_wp2_with fail
              refine C8.out.mono ?_
              rintro e w8 ⟨A8, c8, ps8, K8, rfl, a8, g8, m8, n8, r8⟩
              rw [HDR.out] at g8
              have A8' := Lib.hid a8
              have G8 := Lib.hid g8
              have R8 := Lib.hid r8
              have HLr := Lib.hid (lists_row (HL.out.below g8.at_.bel) g8.at_.bel.size HN.out)
              have C9 := Lib.hid (begin_any c8 c (r8.row HWL.out) HLr.out (by omega) ⟨L0 (shZ Zs Wn) (k - Wn), by rw [r8.zs, piecesOf_zs, ← HPre.out]; rfl⟩)
              clear a8 g8 m8 n8 r8 C8 HLr
              go_wp2_with fail
              refine C9.out.mono ?_
              rintro e w9 ⟨rfl, t9, rfl⟩
              have hb9 : Below w8.heap.size w8 (w8.drewN t9) := ⟨rfl, rfl, rfl, Nat.le_refl _, fun _ _ => rfl⟩
              obtain ⟨w9, hw9⟩ : ∃ w9, w8.drewN t9 = w9 := ⟨_, rfl⟩
              rw [hw9] at hb9 ⊢
              have A9 := Lib.hid (A8'.out.below hb9)
              have G9 := Lib.hid (G8.out.below hb9)
              have R9 := Lib.hid (R8.out.below hb9)
              have hnew := G9.out.at_.new
              have C10 := Lib.hid (waladd_any c4 A9.out G9.out HRs.out (stands_bs (HZ4.out.below G9.out.at_.bel) (by unfold maxLen; omega) (fun k hk hKk => by have := hnew k hKk; omega)) (by omega))
              rw [HDW.out] at C10
              clear hw9 hb9 hnew C9 A8' G8 R8
              go_wp2_with fail
              refine C10.out.mono ?_
              intro e w10 hd
              obtain ⟨rfl, K10, g10, m10, n10⟩ := G9.out.did hd
              have A10 := Lib.hid (A9.out.did m10 n10)
              have G10 := Lib.hid g10
              have R10 := Lib.hid (R9.out.keep m10 n10)
              have C11 := Lib.hid (wal_recs2 A10.out G10.out HGs.out HGh.out.recs (m := Wn + 1) (by rw [List.length_append, HWL.out]; rfl))
              clear hd g10 m10 n10 C10 A9 G9 R9
              go_wp2_with fail
              refine C11.out.mono ?_
              rintro e w11 ⟨A11, c11, ps11, rfl, a11, g11, b11, r11⟩
              have R11 := Lib.hid (R10.out.below b11)
              have hrow := r11.row (by rw [List.length_append, HWL.out]; rfl)
              have B11 := Lib.hid g11.at_.bel
              have HZ11 := Lib.hid (HZ4.out.below g11.at_.bel)
              have gw : IntKind.i64.wrap ((Wn : Int) + 1) = ((Wn + 1 : Nat) : Int) := by rw [IntKind.wrap_i64]; omega
              have C12 := Lib.hid (begin_any c8 c11 (R11.out.row HWL.out) hrow (by omega) ⟨[z4], by rw [R11.out.zs, r11.zs]⟩)
              obtain ⟨p, hp⟩ : ∃ p, ps11[Wn]? = some p := ⟨_, List.getElem?_eq_getElem (by rw [hrow.len]; omega)⟩
              have hpz : p.zs = z4 := by
                have := congrArg (·[Wn]?) r11.zs
                simp only [List.getElem?_map, hp, Option.map_some] at this
                rw [List.getElem?_append_right (by rw [HWL.out]; omega), HWL.out, Nat.sub_self] at this
                simpa using this
              obtain ⟨bx, ox, rfl, hcx, hbx, hmx⟩ := hrow.cell Wn p hp
              obtain ⟨pA, pn, pc, pz⟩ := p
              have hpz : pz = z4 := hpz
              subst hpz
              have hcx : w11.cell? ⟨bx, ox + Wn, none⟩ = some (.slice pA pn pc) := hcx
              have HBX := Lib.hid hbx
              have HMX := Lib.hid hmx
              clear a11 g11 b11 r11 hrow hp hbx hmx C11 A10 G10 R10
              go_wp2_with fail
              refine C12.out.mono ?_
              rintro e w12 ⟨rfl, t12, rfl⟩
              have C13 : Hid (Calls Tryd.prog 29 #[.slice pA pn pc, .slice A4 n4 c4] (w11.drewN t12) (Quiet (.bool true) (w11.drewN t12))) := Lib.hid (by
                have := same_any pc c4 (HBX.out.drewN t12) (HZ11.out.drewN t12) HMX.out (by unfold maxLen; omega)
                rwa [eqB_self] at this)
              have hcx2 : (w11.drewN t12).cell? ⟨bx, ox + Wn, none⟩ = some (.slice pA pn pc) := hcx
              clear C12 hcx
              go_wp2_with fail
              refine C13.out.mono ?_
              rintro e w13 ⟨rfl, t13, rfl⟩
              clear C13 hcx2
              go_wp2
              go_ret
              exact ⟨rfl, below_drewN B11.out _⟩
end Go.Proofs.YtjfeepmjebdahaaDoor
