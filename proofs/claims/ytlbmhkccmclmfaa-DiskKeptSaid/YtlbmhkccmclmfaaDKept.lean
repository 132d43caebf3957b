/- The statement DiskKept: the walk. -/
import Derived.Test.YtlbmhkccmclmfaaDSynced
import Derived.Deep.Cut
namespace Go.Proofs.Ytlbmhkccmclmfaa
open Go.ChangeShapes Go.WideShapes Go.ChangeAt Go.RowKit
set_option linter.unusedVariables false
/-- How much writes count. -/
def wsum (N : Nat → Nat) : Nat → Nat
  | 0 => 0
  | k + 1 => wsum N k + N k + 20
theorem wsum_le (N : Nat → Nat) : ∀ k m, k ≤ m → wsum N k ≤ wsum N m := by
  intro k m h
  induction m with
  | zero => have : k = 0 := by omega
            subst this; exact Nat.le_refl _
  | succ m ih =>
    by_cases hk : k = m + 1
    · subst hk; exact Nat.le_refl _
    · have := ih (by omega)
      show _ ≤ wsum N m + N m + 20
      omega
theorem sum_wsum (N : Nat → Nat) : ∀ k, sumTo N k ≤ wsum N k
  | 0 => Nat.le_refl _
  | k + 1 => by have := sum_wsum N k; show sumTo N k + N k ≤ wsum N k + N k + 20; omega
def wsZ (Z : Nat → List Int) (k : Nat) : List (List Int) := (List.range k).map Z
theorem wsZ_snoc (Z : Nat → List Int) (k : Nat) : wsZ Z (k + 1) = wsZ Z k ++ [Z k] := by unfold wsZ; rw [List.range_succ, List.map_append]; rfl
theorem wsZ_flat (Z : Nat → List Int) (N : Nat → Nat) : ∀ k, (∀ j, j < k → (Z j).length = N j) → (wsZ Z k).flatten.length = sumTo N k
  | 0, _ => rfl
  | k + 1, h => by
    rw [wsZ_snoc, List.flatten_append, List.length_append, wsZ_flat Z N k (fun j hj => h j (by omega)), List.flatten_singleton, h k (by omega)]
    rfl
theorem wsZ_take (Z : Nat → List Int) (m k : Nat) (h : k ≤ m) : (wsZ Z m).take k = wsZ Z k := by
  unfold wsZ
  rw [← List.map_take, List.take_range, Nat.min_eq_left h]
/-- What a crash leaves, in numbers. -/
theorem left_counts (Z : Nat → List Int) (N : Nat → Nat) (m kp : Nat) (torn : Int) (h : ∀ j, j < m → (Z j).length = N j) (ht : 0 ≤ torn) :
    sumTo N (min m kp) ≤ (leftZ (wsZ Z m) kp torn).flatten.length ∧ ((leftZ (wsZ Z m) kp torn).flatten.length < sumTo N (min m (kp + 1)) ∨ sumTo N (min m (kp + 1)) = sumTo N (min m kp) ∧ (leftZ (wsZ Z m) kp torn).flatten.length = sumTo N (min m kp)) := by
  have hl : (wsZ Z m).length = m := by simp [wsZ]
  unfold leftZ
  rw [hl]
  by_cases hk : (m : Int) ≤ kp
  · rw [if_pos hk, wsZ_flat Z N m h, Nat.min_eq_left (by omega), Nat.min_eq_left (by omega)]
    exact ⟨Nat.le_refl _, .inr ⟨rfl, rfl⟩⟩
  · rw [if_neg hk, Int.toNat_natCast, List.flatten_append, List.length_append, List.flatten_singleton, wsZ_take Z m kp (by omega), wsZ_flat Z N kp (fun j hj => h j (by omega)), Nat.min_eq_right (by omega), Nat.min_eq_right (by omega)]
    have hg : (wsZ Z m).getD kp [] = Z kp := by
      unfold wsZ
      rw [List.getD_eq_getElem?_getD, List.getElem?_map, List.getElem?_range (by omega)]
      rfl
    have hn := h kp (by omega)
    rw [hg, hn, List.length_take, hn]
    have e : sumTo N (kp + 1) = sumTo N kp + N kp := rfl
    rw [e]
    refine ⟨by omega, ?_⟩
    rcases Nat.eq_zero_or_pos (N kp) with h0 | h0
    · right; omega
    · left; omega
theorem left_pref (z0 : List Int) (ws : List (List Int)) (kp torn : Int) (h0 : 0 ≤ kp) : prefB (z0 ++ (leftZ ws kp torn).flatten) (z0 ++ ws.flatten) = true := by
  unfold prefB
  refine decide_eq_true ?_
  have key : ∃ r, ws.flatten = (leftZ ws kp torn).flatten ++ r := by
    unfold leftZ
    split
    · exact ⟨[], by simp⟩
    · next hk =>
      have hlt : kp.toNat < ws.length := by omega
      have e1 : ws = ws.take kp.toNat ++ (ws[kp.toNat] :: ws.drop (kp.toNat + 1)) := by rw [← List.drop_eq_getElem_cons hlt, List.take_append_drop]
      have e2 : ws.getD kp.toNat [] = ws[kp.toNat] := by rw [List.getD_eq_getElem?_getD, List.getElem?_eq_getElem hlt]; rfl
      rw [e2]
      generalize (max (min torn ((ws[kp.toNat].length : Int) - 1)) 0).toNat = t
      refine ⟨(ws[kp.toNat]).drop t ++ (ws.drop (kp.toNat + 1)).flatten, ?_⟩
      conv => lhs; rw [e1]
      rw [List.flatten_append, List.flatten_cons, List.flatten_append, List.flatten_singleton]
      conv => lhs; rw [← List.take_append_drop t (ws[kp.toNat])]
      simp only [List.append_assoc]
  obtain ⟨r, hr⟩ := key
  rw [hr, ← List.append_assoc, List.take_left]
set_option maxRecDepth 100000 in
set_option maxHeartbeats 4000000 in
theorem diskKept_in (A0 : Option Addr) (m0 c0 : Nat) (F : Nat → ActZ) (A : Option Addr) (m c : Nat) (As : Nat → Option Addr) (Ns Cs : Nat → Nat) (Zs : Nat → List Int) (keep torn : Int) (w : World)
    (h0 : Acts w w.heap.size A0 m0 F) (hm0 : m0 ≤ maxLen) (h : Lists w w.heap.size A m As Ns Cs Zs) (hm : m ≤ maxLen) (hN : ∀ j, j < m → Ns j ≤ 140737488355328) (hk : -9223372036854775808 ≤ keep ∧ keep ≤ 9223372036854775807) (ht : -9223372036854775808 ≤ torn ∧ torn ≤ 9223372036854775807) :
    Calls Try.prog 5 #[.slice A0 m0 c0, .slice A m c, .int .i64 keep, .int .i64 torn] w fun e w' => e = .returned (.bool true) ∧ Below w.heap.size w w' := by
  have HF := Lib.hid h0
  have HL := Lib.hid h
  have HN := Lib.hid hN
  have HM0 := Lib.hid hm0
  have AW := Lib.hid (dawake_any w)
  have HKB := Lib.hid (And.intro hk ht)
  unfold maxLen at hm hm0
  clear h h0 hN hk ht
  go_enter Try.func5, Try.ntmps5
  go_wp2_with fail
  refine AW.out.mono ?_
  rintro e w1 ⟨rfl, hb1⟩
  have HB1 := Lib.hid hb1
  clear hb1
  go_wp2
  go_loop [9, 10] (fun n i => ∃ k : Nat, k ≤ m ∧ i = .int .i64 k ∧ ∃ s : Nat, n = .int .i64 s ∧ Hid (wsum Ns k = s) ∧ s ≤ 4000) (fun _ i => m - (intOf i).toNat)
  case atStart => exact ⟨0, by omega, rfl, 0, rfl, rfl, by omega⟩
  case round =>
    obtain ⟨k, hk, rfl, s, rfl, HS, hs⟩ := hrel
    by_cases hlt : k < m
    · obtain ⟨b, off, rfl, hb, hc⟩ := (HL.out.below HB1.out).at_ hlt
      have hl := HN.out k hlt
      have h2 : Hid (wsum Ns (k + 1) = s + Ns k + 20) := Lib.hid (by rw [← HS.out]; rfl)
      obtain ⟨lk, hlk⟩ : ∃ lk, Ns k = lk := ⟨_, rfl⟩
      rw [hlk] at hl hc h2
      clear hlk
      have hltI : (k : Int) < (m : Int) := by omega
      by_cases hbig : 4000 < s + lk + 20
      · have hbI : 4000 < (s : Int) + (lk : Int) + 20 := by omega
        clear hbig hm0
        go_wp2
        go_ret
        exact ⟨rfl, HB1.out⟩
      · have hbI : ¬ 4000 < (s : Int) + (lk : Int) + 20 := by omega
        have hb2 := Lib.hid hbig
        clear hbig hm0
        go_wp2
        go_round
        case rel => exact ⟨k + 1, by omega, by go_num, s + lk + 20, by go_num, h2, by have := hb2.out; omega⟩
        case measure => simp [intOf]; omega
    · have hkm : k = m := by omega
      subst hkm
      have HW4 : Hid (∀ j, j ≤ k → wsum Ns j ≤ 4000) := Lib.hid (fun j hj => by have := wsum_le Ns j k hj; have := HS.out; omega)
      have hkk : ¬ (k : Int) < k := by omega
      clear HS hs hlt
      go_wp2_with fail
      refine (great_any c0 (HF.out.below HB1.out) HM0.out).mono ?_
      rintro e w' ⟨rfl, rfl⟩
      by_cases hg : 4000 < gsum F m0
      · rw [decide_eq_true hg]
        clear hg
        go_wp2
        go_ret
        exact ⟨rfl, HB1.out⟩
      rw [decide_eq_false hg]
      have HG : Hid (∀ j, j ≤ m0 → gsum F j ≤ 4000) := Lib.hid (fun j hj => by have := gsum_le F j m0 hj; omega)
      clear hg
      by_cases hn1 : keep < 0
      · go_wp2
        go_ret
        exact ⟨rfl, HB1.out⟩
      by_cases hn2 : torn < 0
      · go_wp2
        go_ret
        exact ⟨rfl, HB1.out⟩
      obtain ⟨kp, hkp⟩ := Int.eq_ofNat_of_zero_le (show 0 ≤ keep by omega)
      subst hkp
      go_wp2_with fail
      refine (atk_new w w1 HB1.out).mono ?_
      rintro e w2 ⟨rfl, K0, h0, _⟩
      have H0 : Hid (∃ K s, AtK w w2 w1.heap.size K s ∧ SizeB s (gsum F 0)) := Lib.hid ⟨K0, _, h0, ⟨by simp [allZ], by simp⟩⟩
      obtain ⟨D, hD⟩ : ∃ D, w1.heap.size = D := ⟨_, rfl⟩
      rw [hD] at H0
      simp only [hD]
      clear hD h0 HB1 hkk
      go_wp2
      go_loopw [12] (fun i wr => ∃ j : Nat, j ≤ m0 ∧ i = .int .i64 j ∧ Hid (∃ K s, AtK w wr D K s ∧ SizeB s (gsum F j))) (fun i _ => m0 - (intOf i).toNat)
      case atStart => exact ⟨0, by omega, rfl, H0⟩
      case round =>
        obtain ⟨j, hj, rfl, HS⟩ := hrel
        by_cases hlt : j < m0
        · have hltI : (j : Int) < m0 := by omega
          obtain ⟨K, s, hA, hsz⟩ := HS.out
          have HA := Lib.hid hA
          have HZ := Lib.hid hsz
          have HSm : Hid (Small s) := Lib.hid (hsz.small (by have := HG.out j (by omega); omega))
          clear hA hsz
          obtain ⟨b, off, rfl, hb, a0, a1, a2, a3⟩ := (HF.out.below HA.out.bel).at_ hlt
          have HOK := Lib.hid ((HF.out.below HA.out.bel).ok j hlt)
          have hln : (F j).len ≤ 1000000 := by have h1 := HG.out (j + 1) (by omega); simp only [gsum] at h1; omega
          have HDO := Lib.hid (do_any (F j) HA.out.dk HSm.out HOK.out HA.out.bel.size hln)
          have HSZ2 : Hid (SizeB (dDo s (F j)).2 (gsum F (j + 1))) := Lib.hid ((dDo_size HZ.out (F j)).more (by rw [HOK.out.bs.len]; simp only [gsum]; omega))
          clear hln
          go_wp2_with fail
          refine HDO.out.mono ?_
          intro e w4 hd
          obtain ⟨rfl, K2, h2, _, _⟩ := HA.out.did hd
          have HN2 : Hid (∃ K s, AtK w w4 D K s ∧ SizeB s (gsum F (j + 1))) := Lib.hid ⟨K2, _, h2, HSZ2.out⟩
          clear h2 hd a0 a1 a2 a3
          go_wp2
          go_roundw
          case rel => exact ⟨j + 1, by omega, by go_num, HN2⟩
          case measure => simp [intOf]; omega
        · have hjm : ¬ (j : Int) < m0 := by omega
          obtain ⟨K, s, hA, hsz⟩ := HS.out
          have HA := Lib.hid hA
          have HZ : Hid (SizeB s 4000) := Lib.hid (hsz.more (HG.out j hj))
          clear hA hsz HS
          go_wp2_with fail
          refine (up_any HA.out.dk).mono ?_
          rintro e w' ⟨rfl, rfl⟩
          cases hup : s.up with
          | true =>
            have HS5 : Hid (∃ K s, AtK w wr D K s ∧ s.up = true ∧ SizeB s 4000) := Lib.hid ⟨K, s, HA.out, hup, HZ.out⟩
            clear hup HA HZ
            obtain ⟨w5, hw5⟩ : ∃ w5, wr = w5 := ⟨_, rfl⟩
            subst hw5
            go_upto_region 19 with fail
            obtain ⟨K6, s6, hA6, hU6, hZ6⟩ := HS5.out
            have HA6 := Lib.hid hA6
            have HU6 := Lib.hid hU6
            have HZ6 := Lib.hid hZ6
            have HSY := Lib.hid (sync_any hA6.dk (hZ6.small (by omega)))
            have HDY : Hid (dSync s6 = (0, ⟨true, allZ s6, []⟩)) := Lib.hid (by unfold dSync; rw [if_pos hU6, hU6]; rfl)
            clear hA6 hU6 hZ6 HS5
            go_wp2_with fail
            refine HSY.out.mono ?_
            intro e w6 hd
            rw [HDY.out] at hd
            obtain ⟨rfl, K7, h7, _, _⟩ := HA6.out.did hd
            have HA7 := Lib.hid h7
            have HZ7 : Hid (SizeB (⟨true, allZ s6, []⟩ : DiskZ) 4000) := Lib.hid (by have := dSync_size HZ6.out; rw [HDY.out] at this; exact this)
            clear h7 hd HSY HDY
            go_wp2_with fail
            refine (told_any HA7.out.dk (HZ7.out.small (by omega))).mono ?_
            rintro e w7 ⟨A7, L0, q7, rfl, hl7, hs7, ho7, hc7, hm7, hb7⟩
            have hm7' := hm7
            unfold maxLen at hm7'
            have hL0 : L0 ≤ 4000 := by have := HZ7.out.bytes; omega
            have HLZ : Hid ((allZ s6).length = L0) := Lib.hid (by rw [← hl7, allZ_flat])
            have H8 : Hid (∃ K s, AtK w w7 D K s ∧ s.up = true ∧ s.zs = allZ s6 ∧ s.ws = wsZ Zs 0 ∧ SizeB s (4000 + wsum Ns 0)) := Lib.hid ⟨K7, _, HA7.out.below hb7, rfl, rfl, rfl, HZ7.out⟩
            have e0 : Hid (sumTo Ns (min 0 kp) = 0 ∧ sumTo Ns (min 0 (kp + 1)) = 0) := Lib.hid (by rw [Nat.zero_min, Nat.zero_min]; exact ⟨rfl, rfl⟩)
            clear hs7 ho7 hb7 hl7 hm7 hc7 HA7 HZ7
            go_wp2
            go_loopw [14, 15, 16] (fun a b i wr => ∃ j : Nat, j ≤ k ∧ i = .int .i64 j ∧ ∃ x y : Nat, a = .int .i64 x ∧ b = .int .i64 y ∧ Hid (x = L0 + sumTo Ns (min j kp)) ∧ Hid (y = L0 + sumTo Ns (min j (kp + 1))) ∧ x ≤ 8000 ∧ y ≤ 8000 ∧ Hid (∃ K s, AtK w wr D K s ∧ s.up = true ∧ s.zs = allZ s6 ∧ s.ws = wsZ Zs j ∧ SizeB s (4000 + wsum Ns j))) (fun _ _ i _ => k - (intOf i).toNat)
            case atStart => exact ⟨0, by omega, rfl, L0, L0, rfl, rfl, Lib.hid (by rw [e0.out.1]; rfl), Lib.hid (by rw [e0.out.2]; rfl), by omega, by omega, H8⟩
            case round =>
              obtain ⟨j, hj, rfl, x, y, rfl, rfl, HX, HY, hx8, hy8, HS⟩ := hrel
              by_cases hlt : j < k
              · have hltI : (j : Int) < k := by omega
                obtain ⟨K, s, hA, hU, hzs, hws, hsz⟩ := HS.out
                obtain ⟨b, off, rfl, hb, hc⟩ := (HL.out.below hA.bel).at_ hlt
                have HBs := Lib.hid ((HL.out.below hA.bel).bs j hlt)
                have hnj : Ns j ≤ 4000 := by have := HW4.out (j + 1) (by omega); simp only [wsum] at this; omega
                have HWR := Lib.hid (write_any (Cs j) hA.dk HBs.out hA.bel.size (by omega) (hsz.small (by have := HW4.out j hj; omega)))
                have HDW : Hid (dWrite s (Zs j) = (0, ⟨true, allZ s6, wsZ Zs (j + 1)⟩)) := Lib.hid (by unfold dWrite; rw [if_pos hU, hU, hzs, hws, wsZ_snoc])
                have HSZ : Hid (SizeB (⟨true, allZ s6, wsZ Zs (j + 1)⟩ : DiskZ) (4000 + wsum Ns (j + 1))) := Lib.hid (by
                  have := dWrite_size hsz (Zs j)
                  rw [HDW.out, HBs.out.len] at this
                  exact this.more (by simp only [wsum]; omega))
                have HA := Lib.hid hA
                have HCC := Lib.hid hc
                have HBB := Lib.hid hb
                have hs1 : Hid (sumTo Ns (j + 1) = sumTo Ns j + Ns j) := Lib.hid rfl
                have hle : Hid (∀ i, i ≤ j + 1 → sumTo Ns i ≤ 4000) := Lib.hid (fun i hi => Nat.le_trans (Nat.le_trans (sum_wsum Ns i) (wsum_le Ns i (j + 1) hi)) (HW4.out _ (by omega)))
                obtain ⟨nj, hnje⟩ : ∃ nj, Ns j = nj := ⟨_, rfl⟩
                have HNJ := Lib.hid hnje
                rw [hnje] at hc hnj HCC HWR
                clear hA hU hzs hws hsz HS hnje
                go_wp2_with fail
                refine HWR.out.mono ?_
                intro e w8 hd
                rw [HDW.out] at hd
                obtain ⟨rfl, K8, h8, _, _⟩ := HA.out.did hd
                have hc8 : w8.cell? ⟨b, off + j, none⟩ = some (.slice (As j) nj (Cs j)) := (h8.bel.cell (p := ⟨b, off + j, none⟩) HBB.out).trans ((HA.out.bel.cell (p := ⟨b, off + j, none⟩) HBB.out).symm.trans HCC.out)
                have HN8 : Hid (∃ K s, AtK w w8 D K s ∧ s.up = true ∧ s.zs = allZ s6 ∧ s.ws = wsZ Zs (j + 1) ∧ SizeB s (4000 + wsum Ns (j + 1))) := Lib.hid ⟨K8, _, h8, rfl, rfl, rfl, HSZ.out⟩
                clear h8 hd hc HWR HDW
                by_cases hjk : j < kp
                · have hjI : (j : Int) < kp := by omega
                  have hjI2 : (j : Int) ≤ kp := by omega
                  have E1 : Hid (x + nj = L0 + sumTo Ns (min (j + 1) kp)) := Lib.hid (by rw [Nat.min_eq_left (by omega), hs1.out, HX.out, Nat.min_eq_left (by omega), HNJ.out]; omega)
                  have E2 : Hid (y + nj = L0 + sumTo Ns (min (j + 1) (kp + 1))) := Lib.hid (by rw [Nat.min_eq_left (by omega), hs1.out, HY.out, Nat.min_eq_left (by omega), HNJ.out]; omega)
                  have hx2 : x + nj ≤ 8000 := by rw [E1.out]; have := hle.out (min (j + 1) kp) (by omega); omega
                  have hy2 : y + nj ≤ 8000 := by rw [E2.out]; have := hle.out (min (j + 1) (kp + 1)) (by omega); omega
                  clear hjk hx8 hy8
                  go_wp2
                  go_roundw
                  case rel => exact ⟨j + 1, by omega, by go_num, x + nj, y + nj, by go_num, by go_num, E1, E2, hx2, hy2, HN8⟩
                  case measure => simp [intOf]; omega
                · have hjI : ¬ (j : Int) < kp := by omega
                  have E1 : Hid (x = L0 + sumTo Ns (min (j + 1) kp)) := Lib.hid (by rw [HX.out, Nat.min_eq_right (by omega), Nat.min_eq_right (by omega)])
                  by_cases hjk2 : j = kp
                  · have hjI2 : (j : Int) ≤ kp := by omega
                    have E2 : Hid (y + nj = L0 + sumTo Ns (min (j + 1) (kp + 1))) := Lib.hid (by rw [Nat.min_eq_left (by omega), hs1.out, HY.out, Nat.min_eq_left (by omega), HNJ.out]; omega)
                    have hy2 : y + nj ≤ 8000 := by rw [E2.out]; have := hle.out (min (j + 1) (kp + 1)) (by omega); omega
                    clear hjk hjk2 hy8
                    go_wp2
                    go_roundw
                    case rel => exact ⟨j + 1, by omega, by go_num, x, y + nj, rfl, by go_num, E1, E2, hx8, hy2, HN8⟩
                    case measure => simp [intOf]; omega
                  · have hjI2 : ¬ (j : Int) ≤ kp := by omega
                    have E2 : Hid (y = L0 + sumTo Ns (min (j + 1) (kp + 1))) := Lib.hid (by rw [HY.out, Nat.min_eq_right (by omega), Nat.min_eq_right (by omega)])
                    clear hjk hjk2
                    go_wp2
                    go_roundw
                    case rel => exact ⟨j + 1, by omega, by go_num, x, y, rfl, rfl, E1, E2, hx8, hy8, HN8⟩
                    case measure => simp [intOf]; omega
              · have hjk : j = k := by omega
                subst hjk
                obtain ⟨K, s, hA, hU, hzs, hws, hsz⟩ := HS.out
                have hss : s = ⟨true, allZ s6, wsZ Zs j⟩ := by
                  obtain ⟨su, sz, sw⟩ := s
                  simp only at hU hzs hws
                  rw [hU, hzs, hws]
                subst hss
                have HA := Lib.hid hA
                have HSm : Hid (Small ⟨true, allZ s6, wsZ Zs j⟩) := Lib.hid (hsz.small (by have := HW4.out j (Nat.le_refl _); omega))
                have HZL : Hid (∀ i, i < j → (Zs i).length = Ns i) := Lib.hid (fun i hi => (HL.out.bs i hi).len)
                have CT := Lib.hid (left_counts Zs Ns j kp torn HZL.out (by omega))
                have HCR := Lib.hid (fun (W : World) (K : Nat → Prop) (h : Dk W D K ⟨true, allZ s6, wsZ Zs j⟩) => crash_any kp torn h HSm.out HKB.out.1 HKB.out.2)
                have HDC : Hid (dCrash ⟨true, allZ s6, wsZ Zs j⟩ kp torn = (0, ⟨false, allZ s6 ++ (leftZ (wsZ Zs j) kp torn).flatten, []⟩)) := Lib.hid (by unfold dCrash; rw [if_pos rfl, if_neg (by omega)])
                have HPF := Lib.hid (left_pref (allZ s6) (wsZ Zs j) kp torn (by omega))
                have hjj : ¬ (j : Int) < j := by omega
                clear hA hU hzs hws hsz HS hlt
                go_wp2_with fail
                refine (told_any HA.out.dk HSm.out).mono ?_
                rintro e w8 ⟨A8, n8, q8, rfl, hl8, hs8, ho8, hc8, hm8, hb8⟩
                have HA8 := Lib.hid (HA.out.below hb8)
                have HS8 := Lib.hid hs8
                have HC8 := Lib.hid (And.intro hc8 hm8)
                have szz := hb8.size
                clear hs8 ho8 hb8 hl8 hc8 hm8
                go_wp2_with fail
                refine (HCR.out _ _ HA8.out.dk).mono ?_
                intro e w9 hd
                rw [HDC.out] at hd
                obtain ⟨rfl, K9, h9, hmv9, _⟩ := HA8.out.did hd
                have HA9 := Lib.hid h9
                have HS9 : Hid (Stands w9 _ _) := Lib.hid (HS8.out.keep (fun i hF hi => hmv9.block i hi (fun hK => by have := HA.out.dk.lt i hK; omega)))
                obtain ⟨ll, hll⟩ : ∃ ll, (leftZ (wsZ Zs j) kp torn).flatten = ll := ⟨_, rfl⟩
                rw [hll] at HA9 HPF CT
                have hsm9 : (allZ (⟨false, allZ s6 ++ ll, []⟩ : DiskZ)).length ≤ 1000000 := by
                  have h1 := (leftZ_len (wsZ Zs j) kp torn).1
                  have h2 := HSm.out.bytes
                  rw [allZ_flat, ← hll, List.length_append]
                  simp only [allZ, List.length_append] at h2 h1 ⊢
                  omega
                have HSm9 : Hid (Small ⟨false, allZ s6 ++ ll, []⟩) := Lib.hid ⟨hsm9, by simp⟩
                clear h9 hd hmv9 hll hsm9 HCR HDC
                go_wp2_with fail
                refine (up_any HA9.out.dk).mono ?_
                rintro e w' ⟨rfl, rfl⟩
                go_wp2_with fail
                refine (told_any HA9.out.dk HSm9.out).mono ?_
                rintro e w10 ⟨A10, n10, q10, rfl, hl10, hs10, ho10, hc10, hm10, hb10⟩
                have HA10 := Lib.hid (HA9.out.below hb10)
                have HW10 := Lib.hid ((HS9.out.keep (fun i _ hi => hb10.block i hi)).bs)
                have HN10 := Lib.hid hs10.bs
                have hz10 : (allZ s6 ++ ll).length = n10 := by rw [← hl10, allZ_flat]
                have HZ10 := Lib.hid hz10
                have hn10 : n10 = L0 + ll.length := by rw [← hz10, List.length_append, HLZ.out]
                have g1 : L0 ≤ n10 := by omega
                have g2 : x ≤ n10 := by rw [HX.out]; have := CT.out.1; omega
                have g3 : n10 < y ∨ (y = x ∧ n10 = x) := by rw [HX.out, HY.out]; have := CT.out.2; omega
                have HBG : Hid (Calls Try.prog 23 #[.slice A10 n10 q10, .slice A8 n8 q8] w10 (Quiet (.bool true) w10)) := Lib.hid (by
                  have h1 := begins_any q10 q8 HN10.out HW10.out (Nat.le_trans hc10 hm10) (Nat.le_trans HC8.out.1 HC8.out.2) HC8.out.1 HC8.out.2
                  have e : prefB (allZ (⟨false, allZ s6 ++ ll, []⟩ : DiskZ)) (allZ (⟨true, allZ s6, wsZ Zs j⟩ : DiskZ)) = true := by rw [allZ_flat]; exact HPF.out
                  rwa [e] at h1)
                have hm10' := hm10
                unfold maxLen at hm10'
                have HE : Hid (∀ v, (∃ i, v = w10.drewN i) → AtK w v D K9 ⟨false, allZ s6 ++ ll, []⟩) := Lib.hid (fun v hv => HA10.out.quiet hv)
                clear hs10 ho10 hb10 hl10 hm10 hz10 hn10 HX HY CT HS8 HS9 HW10 HN10 HA8 HA9 HA HSm HSm9
                have g1I : ¬ ((n10 : Int) < (L0 : Int)) := by omega
                have g2I : ¬ ((n10 : Int) < (x : Int)) := by omega
                go_wp2_with fail
                refine HBG.out.mono ?_
                rintro e v1 ⟨rfl, hq⟩
                have HV := Lib.hid (HE.out v1 hq)
                clear hq
                go_wp2_with fail
                refine (synced_any HV.out.dk).mono ?_
                rintro e w' ⟨rfl, rfl⟩
                simp only [HZ10.out]
                go_wp2_with fail
                refine (writes_any HV.out.dk).mono ?_
                rintro e w' ⟨rfl, rfl⟩
                by_cases hny : n10 < y
                · have g4 : (n10 : Int) < (y : Int) := by omega
                  clear g3 hny
                  go_wp2
                  go_ret
                  exact ⟨rfl, HV.out.bel⟩
                · obtain ⟨rfl, rfl⟩ : y = x ∧ n10 = x := by omega
                  clear g3 hny g2 g2I
                  have g4 : ¬ ((n10 : Int) < (n10 : Int)) := by omega
                  go_wp2
                  go_ret
                  exact ⟨rfl, HV.out.bel⟩
          | false =>
            have HST := Lib.hid (start_any HA.out.dk)
            have HDS : Hid (dStart s = (0, ⟨true, s.zs, s.ws⟩)) := Lib.hid (by unfold dStart; rw [hup]; rfl)
            have HZ5 : Hid (SizeB (⟨true, s.zs, s.ws⟩ : DiskZ) 4000) := Lib.hid ⟨HZ.out.bytes, HZ.out.writes⟩
            clear hup
            go_wp2_with fail
            refine HST.out.mono ?_
            intro e w5 hd
            rw [HDS.out] at hd
            obtain ⟨rfl, K5, h5, _, _⟩ := HA.out.did hd
            have HS5 : Hid (∃ K s, AtK w w5 D K s ∧ s.up = true ∧ SizeB s 4000) := Lib.hid ⟨K5, _, h5, rfl, HZ5.out⟩
            clear h5 hd HA HZ HST HDS HZ5
            go_upto_region 19 with fail
            obtain ⟨K6, s6, hA6, hU6, hZ6⟩ := HS5.out
            have HA6 := Lib.hid hA6
            have HU6 := Lib.hid hU6
            have HZ6 := Lib.hid hZ6
            have HSY := Lib.hid (sync_any hA6.dk (hZ6.small (by omega)))
            have HDY : Hid (dSync s6 = (0, ⟨true, allZ s6, []⟩)) := Lib.hid (by unfold dSync; rw [if_pos hU6, hU6]; rfl)
            clear hA6 hU6 hZ6 HS5
            go_wp2_with fail
            refine HSY.out.mono ?_
            intro e w6 hd
            rw [HDY.out] at hd
            obtain ⟨rfl, K7, h7, _, _⟩ := HA6.out.did hd
            have HA7 := Lib.hid h7
            have HZ7 : Hid (SizeB (⟨true, allZ s6, []⟩ : DiskZ) 4000) := Lib.hid (by have := dSync_size HZ6.out; rw [HDY.out] at this; exact this)
            clear h7 hd HSY HDY
            go_wp2_with fail
            refine (told_any HA7.out.dk (HZ7.out.small (by omega))).mono ?_
            rintro e w7 ⟨A7, L0, q7, rfl, hl7, hs7, ho7, hc7, hm7, hb7⟩
            have hm7' := hm7
            unfold maxLen at hm7'
            have hL0 : L0 ≤ 4000 := by have := HZ7.out.bytes; omega
            have HLZ : Hid ((allZ s6).length = L0) := Lib.hid (by rw [← hl7, allZ_flat])
            have H8 : Hid (∃ K s, AtK w w7 D K s ∧ s.up = true ∧ s.zs = allZ s6 ∧ s.ws = wsZ Zs 0 ∧ SizeB s (4000 + wsum Ns 0)) := Lib.hid ⟨K7, _, HA7.out.below hb7, rfl, rfl, rfl, HZ7.out⟩
            have e0 : Hid (sumTo Ns (min 0 kp) = 0 ∧ sumTo Ns (min 0 (kp + 1)) = 0) := Lib.hid (by rw [Nat.zero_min, Nat.zero_min]; exact ⟨rfl, rfl⟩)
            clear hs7 ho7 hb7 hl7 hm7 hc7 HA7 HZ7
            go_wp2
            go_loopw [14, 15, 16] (fun a b i wr => ∃ j : Nat, j ≤ k ∧ i = .int .i64 j ∧ ∃ x y : Nat, a = .int .i64 x ∧ b = .int .i64 y ∧ Hid (x = L0 + sumTo Ns (min j kp)) ∧ Hid (y = L0 + sumTo Ns (min j (kp + 1))) ∧ x ≤ 8000 ∧ y ≤ 8000 ∧ Hid (∃ K s, AtK w wr D K s ∧ s.up = true ∧ s.zs = allZ s6 ∧ s.ws = wsZ Zs j ∧ SizeB s (4000 + wsum Ns j))) (fun _ _ i _ => k - (intOf i).toNat)
            case atStart => exact ⟨0, by omega, rfl, L0, L0, rfl, rfl, Lib.hid (by rw [e0.out.1]; rfl), Lib.hid (by rw [e0.out.2]; rfl), by omega, by omega, H8⟩
            case round =>
              obtain ⟨j, hj, rfl, x, y, rfl, rfl, HX, HY, hx8, hy8, HS⟩ := hrel
              by_cases hlt : j < k
              · have hltI : (j : Int) < k := by omega
                obtain ⟨K, s, hA, hU, hzs, hws, hsz⟩ := HS.out
                obtain ⟨b, off, rfl, hb, hc⟩ := (HL.out.below hA.bel).at_ hlt
                have HBs := Lib.hid ((HL.out.below hA.bel).bs j hlt)
                have hnj : Ns j ≤ 4000 := by have := HW4.out (j + 1) (by omega); simp only [wsum] at this; omega
                have HWR := Lib.hid (write_any (Cs j) hA.dk HBs.out hA.bel.size (by omega) (hsz.small (by have := HW4.out j hj; omega)))
                have HDW : Hid (dWrite s (Zs j) = (0, ⟨true, allZ s6, wsZ Zs (j + 1)⟩)) := Lib.hid (by unfold dWrite; rw [if_pos hU, hU, hzs, hws, wsZ_snoc])
                have HSZ : Hid (SizeB (⟨true, allZ s6, wsZ Zs (j + 1)⟩ : DiskZ) (4000 + wsum Ns (j + 1))) := Lib.hid (by
                  have := dWrite_size hsz (Zs j)
                  rw [HDW.out, HBs.out.len] at this
                  exact this.more (by simp only [wsum]; omega))
                have HA := Lib.hid hA
                have HCC := Lib.hid hc
                have HBB := Lib.hid hb
                have hs1 : Hid (sumTo Ns (j + 1) = sumTo Ns j + Ns j) := Lib.hid rfl
                have hle : Hid (∀ i, i ≤ j + 1 → sumTo Ns i ≤ 4000) := Lib.hid (fun i hi => Nat.le_trans (Nat.le_trans (sum_wsum Ns i) (wsum_le Ns i (j + 1) hi)) (HW4.out _ (by omega)))
                obtain ⟨nj, hnje⟩ : ∃ nj, Ns j = nj := ⟨_, rfl⟩
                have HNJ := Lib.hid hnje
                rw [hnje] at hc hnj HCC HWR
                clear hA hU hzs hws hsz HS hnje
                go_wp2_with fail
                refine HWR.out.mono ?_
                intro e w8 hd
                rw [HDW.out] at hd
                obtain ⟨rfl, K8, h8, _, _⟩ := HA.out.did hd
                have hc8 : w8.cell? ⟨b, off + j, none⟩ = some (.slice (As j) nj (Cs j)) := (h8.bel.cell (p := ⟨b, off + j, none⟩) HBB.out).trans ((HA.out.bel.cell (p := ⟨b, off + j, none⟩) HBB.out).symm.trans HCC.out)
                have HN8 : Hid (∃ K s, AtK w w8 D K s ∧ s.up = true ∧ s.zs = allZ s6 ∧ s.ws = wsZ Zs (j + 1) ∧ SizeB s (4000 + wsum Ns (j + 1))) := Lib.hid ⟨K8, _, h8, rfl, rfl, rfl, HSZ.out⟩
                clear h8 hd hc HWR HDW
                by_cases hjk : j < kp
                · have hjI : (j : Int) < kp := by omega
                  have hjI2 : (j : Int) ≤ kp := by omega
                  have E1 : Hid (x + nj = L0 + sumTo Ns (min (j + 1) kp)) := Lib.hid (by rw [Nat.min_eq_left (by omega), hs1.out, HX.out, Nat.min_eq_left (by omega), HNJ.out]; omega)
                  have E2 : Hid (y + nj = L0 + sumTo Ns (min (j + 1) (kp + 1))) := Lib.hid (by rw [Nat.min_eq_left (by omega), hs1.out, HY.out, Nat.min_eq_left (by omega), HNJ.out]; omega)
                  have hx2 : x + nj ≤ 8000 := by rw [E1.out]; have := hle.out (min (j + 1) kp) (by omega); omega
                  have hy2 : y + nj ≤ 8000 := by rw [E2.out]; have := hle.out (min (j + 1) (kp + 1)) (by omega); omega
                  clear hjk hx8 hy8
                  go_wp2
                  go_roundw
                  case rel => exact ⟨j + 1, by omega, by go_num, x + nj, y + nj, by go_num, by go_num, E1, E2, hx2, hy2, HN8⟩
                  case measure => simp [intOf]; omega
                · have hjI : ¬ (j : Int) < kp := by omega
                  have E1 : Hid (x = L0 + sumTo Ns (min (j + 1) kp)) := Lib.hid (by rw [HX.out, Nat.min_eq_right (by omega), Nat.min_eq_right (by omega)])
                  by_cases hjk2 : j = kp
                  · have hjI2 : (j : Int) ≤ kp := by omega
                    have E2 : Hid (y + nj = L0 + sumTo Ns (min (j + 1) (kp + 1))) := Lib.hid (by rw [Nat.min_eq_left (by omega), hs1.out, HY.out, Nat.min_eq_left (by omega), HNJ.out]; omega)
                    have hy2 : y + nj ≤ 8000 := by rw [E2.out]; have := hle.out (min (j + 1) (kp + 1)) (by omega); omega
                    clear hjk hjk2 hy8
                    go_wp2
                    go_roundw
                    case rel => exact ⟨j + 1, by omega, by go_num, x, y + nj, rfl, by go_num, E1, E2, hx8, hy2, HN8⟩
                    case measure => simp [intOf]; omega
                  · have hjI2 : ¬ (j : Int) ≤ kp := by omega
                    have E2 : Hid (y = L0 + sumTo Ns (min (j + 1) (kp + 1))) := Lib.hid (by rw [HY.out, Nat.min_eq_right (by omega), Nat.min_eq_right (by omega)])
                    clear hjk hjk2
                    go_wp2
                    go_roundw
                    case rel => exact ⟨j + 1, by omega, by go_num, x, y, rfl, rfl, E1, E2, hx8, hy8, HN8⟩
                    case measure => simp [intOf]; omega
              · have hjk : j = k := by omega
                subst hjk
                obtain ⟨K, s, hA, hU, hzs, hws, hsz⟩ := HS.out
                have hss : s = ⟨true, allZ s6, wsZ Zs j⟩ := by
                  obtain ⟨su, sz, sw⟩ := s
                  simp only at hU hzs hws
                  rw [hU, hzs, hws]
                subst hss
                have HA := Lib.hid hA
                have HSm : Hid (Small ⟨true, allZ s6, wsZ Zs j⟩) := Lib.hid (hsz.small (by have := HW4.out j (Nat.le_refl _); omega))
                have HZL : Hid (∀ i, i < j → (Zs i).length = Ns i) := Lib.hid (fun i hi => (HL.out.bs i hi).len)
                have CT := Lib.hid (left_counts Zs Ns j kp torn HZL.out (by omega))
                have HCR := Lib.hid (fun (W : World) (K : Nat → Prop) (h : Dk W D K ⟨true, allZ s6, wsZ Zs j⟩) => crash_any kp torn h HSm.out HKB.out.1 HKB.out.2)
                have HDC : Hid (dCrash ⟨true, allZ s6, wsZ Zs j⟩ kp torn = (0, ⟨false, allZ s6 ++ (leftZ (wsZ Zs j) kp torn).flatten, []⟩)) := Lib.hid (by unfold dCrash; rw [if_pos rfl, if_neg (by omega)])
                have HPF := Lib.hid (left_pref (allZ s6) (wsZ Zs j) kp torn (by omega))
                have hjj : ¬ (j : Int) < j := by omega
                clear hA hU hzs hws hsz HS hlt
                go_wp2_with fail
                refine (told_any HA.out.dk HSm.out).mono ?_
                rintro e w8 ⟨A8, n8, q8, rfl, hl8, hs8, ho8, hc8, hm8, hb8⟩
                have HA8 := Lib.hid (HA.out.below hb8)
                have HS8 := Lib.hid hs8
                have HC8 := Lib.hid (And.intro hc8 hm8)
                have szz := hb8.size
                clear hs8 ho8 hb8 hl8 hc8 hm8
                go_wp2_with fail
                refine (HCR.out _ _ HA8.out.dk).mono ?_
                intro e w9 hd
                rw [HDC.out] at hd
                obtain ⟨rfl, K9, h9, hmv9, _⟩ := HA8.out.did hd
                have HA9 := Lib.hid h9
                have HS9 : Hid (Stands w9 _ _) := Lib.hid (HS8.out.keep (fun i hF hi => hmv9.block i hi (fun hK => by have := HA.out.dk.lt i hK; omega)))
                obtain ⟨ll, hll⟩ : ∃ ll, (leftZ (wsZ Zs j) kp torn).flatten = ll := ⟨_, rfl⟩
                rw [hll] at HA9 HPF CT
                have hsm9 : (allZ (⟨false, allZ s6 ++ ll, []⟩ : DiskZ)).length ≤ 1000000 := by
                  have h1 := (leftZ_len (wsZ Zs j) kp torn).1
                  have h2 := HSm.out.bytes
                  rw [allZ_flat, ← hll, List.length_append]
                  simp only [allZ, List.length_append] at h2 h1 ⊢
                  omega
                have HSm9 : Hid (Small ⟨false, allZ s6 ++ ll, []⟩) := Lib.hid ⟨hsm9, by simp⟩
                clear h9 hd hmv9 hll hsm9 HCR HDC
                go_wp2_with fail
                refine (up_any HA9.out.dk).mono ?_
                rintro e w' ⟨rfl, rfl⟩
                go_wp2_with fail
                refine (told_any HA9.out.dk HSm9.out).mono ?_
                rintro e w10 ⟨A10, n10, q10, rfl, hl10, hs10, ho10, hc10, hm10, hb10⟩
                have HA10 := Lib.hid (HA9.out.below hb10)
                have HW10 := Lib.hid ((HS9.out.keep (fun i _ hi => hb10.block i hi)).bs)
                have HN10 := Lib.hid hs10.bs
                have hz10 : (allZ s6 ++ ll).length = n10 := by rw [← hl10, allZ_flat]
                have HZ10 := Lib.hid hz10
                have hn10 : n10 = L0 + ll.length := by rw [← hz10, List.length_append, HLZ.out]
                have g1 : L0 ≤ n10 := by omega
                have g2 : x ≤ n10 := by rw [HX.out]; have := CT.out.1; omega
                have g3 : n10 < y ∨ (y = x ∧ n10 = x) := by rw [HX.out, HY.out]; have := CT.out.2; omega
                have HBG : Hid (Calls Try.prog 23 #[.slice A10 n10 q10, .slice A8 n8 q8] w10 (Quiet (.bool true) w10)) := Lib.hid (by
                  have h1 := begins_any q10 q8 HN10.out HW10.out (Nat.le_trans hc10 hm10) (Nat.le_trans HC8.out.1 HC8.out.2) HC8.out.1 HC8.out.2
                  have e : prefB (allZ (⟨false, allZ s6 ++ ll, []⟩ : DiskZ)) (allZ (⟨true, allZ s6, wsZ Zs j⟩ : DiskZ)) = true := by rw [allZ_flat]; exact HPF.out
                  rwa [e] at h1)
                have hm10' := hm10
                unfold maxLen at hm10'
                have HE : Hid (∀ v, (∃ i, v = w10.drewN i) → AtK w v D K9 ⟨false, allZ s6 ++ ll, []⟩) := Lib.hid (fun v hv => HA10.out.quiet hv)
                clear hs10 ho10 hb10 hl10 hm10 hz10 hn10 HX HY CT HS8 HS9 HW10 HN10 HA8 HA9 HA HSm HSm9
                have g1I : ¬ ((n10 : Int) < (L0 : Int)) := by omega
                have g2I : ¬ ((n10 : Int) < (x : Int)) := by omega
                go_wp2_with fail
                refine HBG.out.mono ?_
                rintro e v1 ⟨rfl, hq⟩
                have HV := Lib.hid (HE.out v1 hq)
                clear hq
                go_wp2_with fail
                refine (synced_any HV.out.dk).mono ?_
                rintro e w' ⟨rfl, rfl⟩
                simp only [HZ10.out]
                go_wp2_with fail
                refine (writes_any HV.out.dk).mono ?_
                rintro e w' ⟨rfl, rfl⟩
                by_cases hny : n10 < y
                · have g4 : (n10 : Int) < (y : Int) := by omega
                  clear g3 hny
                  go_wp2
                  go_ret
                  exact ⟨rfl, HV.out.bel⟩
                · obtain ⟨rfl, rfl⟩ : y = x ∧ n10 = x := by omega
                  clear g3 hny g2 g2I
                  have g4 : ¬ ((n10 : Int) < (n10 : Int)) := by omega
                  go_wp2
                  go_ret
                  exact ⟨rfl, HV.out.bel⟩
end Go.Proofs.Ytlbmhkccmclmfaa
