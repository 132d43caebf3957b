/- The statement WalTorn: the walk. -/
import Derived.Test.YtjfeepmjebdahaaDoorB9
namespace Go.Proofs.YtjfeepmjebdahaaDoor
open Go.ChangeShapes Go.WideShapes Go.ChangeAt Go.RowKit
set_option linter.unusedVariables false
open Plain Sha
set_option maxRecDepth 100000 in
set_option maxHeartbeats 4000000 in
theorem walTorn_in (A : Option Addr) (m c : Nat) (As : Nat → Option Addr) (Ns Cs : Nat → Nat) (Zs : Nat → List Int) (A2 : Option Addr) (n2 c2 : Nat) (z2 : List Int) (w : World) (h : Lists w w.heap.size A m As Ns Cs Zs) (hm : m ≤ maxLen) (hN : ∀ j, j < m → Ns j ≤ 140737488355328)
    (h2 : Bs w w.heap.size A2 n2 z2) (hn2 : n2 ≤ maxLen) (hF : LaidF w) (hK : LaidK w) :
    Calls Tryd.prog 7 #[.slice A m c, .slice A2 n2 c2] w fun e w' => e = .returned (.bool true) ∧ Below w.heap.size w w' := by
  have HL := Lib.hid h
  have HZ2 := Lib.hid h2
  have HF := Lib.hid hF
  have HK := Lib.hid hK
  have HN := Lib.hid hN
  have HLen : Hid (∀ j, j < m → (Zs j).length = Ns j) := Lib.hid (fun j hj => (h.bs j hj).len)
  have HG := Lib.hid (fun (w1 : World) (b1 : Below w.heap.size w w1) => wlong_any c (h.below b1) hm hN)
  unfold maxLen at hn2 hm
  have HL2 := Lib.hid h2.len
  clear h h2 hF hK hN
  go_enter Tryd.func7, Tryd.ntmps7
  go_wp2_with fail
  refine (wawake_any w HF.out HK.out).mono ?_
  rintro e w1 ⟨rfl, b1⟩
  have q1 := Lib.hid b1
  clear b1
  go_wp2_with fail
  refine (HG.out w1 q1.out).mono ?_
  rintro e w1' ⟨b, rfl, rfl, hb⟩
  cases b with
  | true =>
    go_wp2
    go_ret
    exact ⟨rfl, q1.out⟩
  | false =>
    have hs := hb rfl
    by_cases h11 : 11 < n2
    · have h11I : 11 < (n2 : Int) := by omega
      go_wp2
      go_ret
      exact ⟨rfl, q1.out⟩
    have h11I : ¬ 11 < (n2 : Int) := by omega
    obtain ⟨hm50, hEN, hNs⟩ := weigh hs
    have HEN := Lib.hid hEN
    have HNs := Lib.hid hNs
    clear hb hs hEN hNs HG hm
    go_wp2_with fail
    refine (atk_first w w1 q1.out).mono ?_
    rintro e w2 ⟨rfl, k2, b2⟩
    have K2 := Lib.hid k2
    clear k2 b2
    go_wp2_with fail
    refine (wal_new K2.out HF.out HK.out).mono ?_
    rintro e w3 ⟨rfl, h⟩
    have H3 := Lib.hid h
    clear h
    obtain ⟨b, hb⟩ : ∃ b, w2.heap.size = b := ⟨_, rfl⟩
    obtain ⟨d, hd⟩ : ∃ d, w1.heap.size = d := ⟨_, rfl⟩
    rw [hb, hd] at H3 ⊢
    clear hb hd K2 q1
    have H0 : Hid (Holds ⟨true, [], []⟩ [] []) := Lib.hid ⟨rfl, first_nil, fun z hz => by cases hz⟩
    go_wp2
    go_loopw [7] (fun i wr => ∃ k : Nat, k ≤ m ∧ i = .int .i64 (k : Int) ∧ Hid (Wal w wr b d (sAdd ⟨true, [], []⟩ Zs k))) (fun i _ => m - (intOf i).toNat)
    case atStart => exact ⟨0, by omega, rfl, Lib.hid (by rw [sAdd_zero]; exact H3.out)⟩
    case round =>
      obtain ⟨k, hk, rfl, HR⟩ := hrel
      by_cases hlt : k < m
      · have hLr := HL.out.below HR.out.bel
        obtain ⟨g, o, rfl, hg, hcell⟩ := hLr.at_ hlt
        have hz := hLr.bs k hlt
        have hnk := HNs.out k hlt
        have C1 := Lib.hid (wal_add (Cs k) HR.out (Below.refl _ _) (stands_bs hz (by unfold maxLen; omega) (fun k hk => .inr hk)) (by omega) (sAdd_succ Zs k rfl) (sAdd_small (fun j hj => HLen.out j (by omega)) (by have := HEN.out k hk; simp [allZ]; omega) (by simp; omega)))
        clear hz hLr
        have hltI : (k : Int) < (m : Int) := by omega
        go_wp2_with fail
        refine C1.out.mono ?_
        rintro e w4 ⟨rfl, h⟩
        have H4 := Lib.hid h
        clear h C1
        go_wp2
        go_roundw
        case rel => exact ⟨k + 1, by omega, by go_num, H4⟩
        case measure => simp [intOf]; omega
      · obtain rfl : k = m := by omega
        have hh1 := sAdd_holds H0.out Zs k (fun j hj => by rw [HLen.out j hj]; have := HNs.out j hj; omega)
        rw [List.nil_append] at hh1
        have hlen : (allZ (sAdd ⟨true, [], []⟩ Zs k)).length = EN Ns k := by rw [sAdd_len HLen.out]; simp [allZ]
        have hT := HEN.out k (Nat.le_refl _)
        obtain ⟨T, hTe⟩ : ∃ T, EN Ns k = T := ⟨_, rfl⟩
        rw [hTe] at hT hlen
        obtain ⟨s1, hs1⟩ : ∃ s1, sAdd ⟨true, [], []⟩ Zs k = s1 := ⟨_, rfl⟩
        have hu1 : s1.up = true := by rw [← hs1]; rfl
        have hw1 : s1.ws.length = k := by rw [← hs1]; unfold sAdd; simp
        rw [hs1] at HR hh1 hlen
        have hsm1 : Small s1 := ⟨by omega, by omega⟩
        obtain ⟨s2, hs2⟩ : ∃ s2, (dWrite s1 z2).2 = s2 := ⟨_, rfl⟩
        have hd2 : dWrite s1 z2 = (0, s2) := by rw [← hs2]; unfold dWrite; rw [if_pos hu1]
        have hu2 : s2.up = true := by rw [← hs2, dWrite_up, hu1]
        have hh2 : Holds s2 (L0 Zs k) z2 := by
          refine ⟨?_, first_less (by rw [HL2.out]; omega), hh1.short⟩
          have e := hh1.all
          rw [List.append_nil] at e
          rw [← e, ← hs2]
          unfold dWrite allZ
          rw [if_pos hu1]
          simp
        have hl2 : (allZ s2).length = T + n2 := by
          have e := hh1.all
          rw [List.append_nil] at e
          rw [hh2.all, List.length_append, ← e, hlen, HL2.out]
        have hsm2 : Small s2 := ⟨by omega, by rw [← hs2]; unfold dWrite; rw [if_pos hu1]; simp; omega⟩
        have hu3 : (recS s2).up = true := by rw [recS_up, hu2]
        have hh3 := hh2.recover
        have hl3 : (allZ (recS s2)).length = T := by
          have e := hh1.all
          rw [List.append_nil] at e
          rw [hh3.all, List.append_nil, ← e, hlen]
        have hsm3 : Small (recS s2) := recS_small hsm2
        have hh4 := hh3.recover
        have hl4 : (allZ (recS (recS s2))).length = T := by
          have e := hh3.all
          rw [hh4.all, ← e, hl3]
        have hsm4 : Small (recS (recS s2)) := recS_small hsm3
        have HB1 := Lib.hid hsm1
        have HD2 := Lib.hid hd2
        have HS2 := Lib.hid hsm2
        have HU2 := Lib.hid hu2
        have HH2 := Lib.hid hh2
        have HS3 := Lib.hid hsm3
        have HU3 := Lib.hid hu3
        have HH3 := Lib.hid hh3
        have HS4 := Lib.hid hsm4
        have HLL : Hid ((allZ s1).length = T ∧ (allZ (recS (recS s2))).length = T) := Lib.hid ⟨hlen, hl4⟩
        clear hh1 hlen hTe hs1 hu1 hw1 hsm1 hs2 hd2 hu2 hh2 hl2 hsm2 hu3 hh3 hl3 hsm3 hh4 hl4 hsm4 H3 H0 hk hlt
        have C1 := Lib.hid (wal_bytes HR.out HB1.out)
        rw [HLL.out.1] at C1
        go_wp2_with fail
        refine C1.out.mono ?_
        rintro e w4 ⟨B4, c4, rfl, _, h⟩
        have H4 := Lib.hid h
        clear h C1 HR
        go_wp2_with fail
        refine (wal_write c2 H4.out HD2.out (HZ2.out.below H4.out.bel) H4.out.bel.size (by omega) HB1.out).mono ?_
        rintro e w5 ⟨rfl, h⟩
        obtain ⟨K5, a5, g5⟩ := h
        have A5 := Lib.hid a5
        have G5 := Lib.hid g5
        clear a5 g5 H4
        go_wp2_with fail
        refine (wal_recover2 A5.out G5.out HS2.out HU2.out HH2.out HL2.out (L0_len Zs k)).mono ?_
        rintro e w6 ⟨B6, c6, ps6, K6, rfl, a6, g6, m6, n6, r6⟩
        have A6 := Lib.hid a6
        have G6 := Lib.hid g6
        have R6 := Lib.hid r6
        clear a6 g6 m6 n6 r6 A5 G5
        go_wp2_with fail
        refine (wal_recover2 A6.out G6.out HS3.out HU3.out HH3.out rfl (L0_len Zs k)).mono ?_
        rintro e w7 ⟨B7, c7, ps7, K7, rfl, a7, g7, m7, n7, r7⟩
        have A7 := Lib.hid a7
        have G7 := Lib.hid g7
        have R7 := Lib.hid ((R6.out.keep m7 n7).row (L0_len Zs k))
        have Z7 := Lib.hid R6.out.zs
        have HLr := Lib.hid (lists_row (HL.out.below g7.at_.bel) g7.at_.bel.size HN.out)
        clear a7 g7 m7 n7 r7 A6 G6 R6
        go_wp2_with fail
        refine (begin_any c6 c R7.out HLr.out (by omega) ⟨[], by rw [Z7.out, piecesOf_zs, List.append_nil]; rfl⟩).mono ?_
        rintro e w8 ⟨rfl, n8, rfl⟩
        have hW8 : Hid (Wal w (w7.drewN n8) b d (recS (recS s2))) := Lib.hid (Wal.quiet ⟨K7, A7.out, G7.out⟩ ⟨n8, rfl⟩)
        have C9 := Lib.hid (wal_bytes hW8.out HS4.out)
        rw [HLL.out.2] at C9
        go_wp2_with fail
        refine C9.out.mono ?_
        rintro e w9 ⟨B9, c9, rfl, _, h⟩
        have H9 := Lib.hid h.bel
        clear h C9
        go_wp2
        go_ret
        exact ⟨rfl, H9.out⟩
end Go.Proofs.YtjfeepmjebdahaaDoor
