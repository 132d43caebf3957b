/- slices.Concat of lists of bytes; all bytes of a disk. -/
import Derived.Test.YtlbmhkccmclmfaaDBytes
namespace Go.Proofs.Ytlbmhkccmclmfaa
open Go.ChangeShapes Go.WideShapes Go.ChangeAt Go.RowKit
set_option linter.unusedVariables false
set_option maxHeartbeats 1000000 in
theorem concat_any {F : Nat → Prop} {A : Option Addr} {ps : List PieceZ} (c : Nat) {w : World} (h : Bunch w F A ps) (hm : ps.length ≤ 100000000) (hs : (flatZ ps).length ≤ 100000000) :
    Calls Try.prog 25 #[.slice A ps.length c] w (Made w (flatZ ps)) := by
  have HLE : Hid (∀ k, (flatZ (ps.take k)).length ≤ 100000000) := Lib.hid (fun k => Nat.le_trans (flatZ_take_le k) hs)
  have HB := Lib.hid h
  have HPS := Lib.hid hs
  obtain ⟨m, hM⟩ : ∃ m, ps.length = m := ⟨_, rfl⟩
  have HM := Lib.hid hM
  rw [hM] at hm ⊢
  clear h hM hs
  go_enter Try.func25, Try.ntmps25
  go_wp2
  go_loop [3, 11] (fun s i => ∃ k : Nat, k ≤ m ∧ i = .int .i64 k ∧ s = .int .i64 ((flatZ (ps.take k)).length : Nat)) (fun _ i => m - (intOf i).toNat)
  case atStart => exact ⟨0, by omega, rfl, rfl⟩
  case round =>
    obtain ⟨k, hk, rfl, rfl⟩ := hrel
    by_cases hlt : k < m
    · obtain ⟨b, off, p, rfl, hb, hF, HP, hc, hst⟩ := HB.out.at_ (k := k) (by rw [HM.out]; exact hlt)
      have h1 := HLE.out (k + 1)
      have H2 : Hid ((flatZ (ps.take (k + 1))).length = (flatZ (ps.take k)).length + p.n) := Lib.hid (by rw [flatZ_take HP.out, List.length_append, hst.len])
      rw [H2.out] at h1
      unfold pval at hc
      generalize (flatZ (ps.take k)).length = sk at *
      generalize p.n = n at *
      generalize p.A = pA at *
      generalize p.c = pc at *
      have h2 : ¬ ((sk : Int) + (n : Int) < 0) := by omega
      clear hst hF
      go_wp2
      go_round
      case rel => exact ⟨k + 1, by omega, by go_num, by rw [H2.out]; go_num⟩
      case measure => simp [intOf]; omega
    · have hkm : k = m := by omega
      have HT : Hid (flatZ (ps.take k) = flatZ ps) := Lib.hid (by rw [List.take_of_length_le (by rw [HM.out]; omega)])
      rw [HT.out]
      have hS := HPS.out
      obtain ⟨S, hSd⟩ : ∃ S, (flatZ ps).length = S := ⟨_, rfl⟩
      rw [hSd] at hS ⊢
      have HSD := Lib.hid hSd
      have GR := Lib.hid (grow_any S w hS)
      clear hkm hSd
      go_wp2_with (go_at_call 40; refine GR.out.mono ?_; rintro e w1 ⟨v1, rfl, ho1, hb1⟩)
      go_loopw [6, 27] (fun v i wr => ∃ j : Nat, j ≤ m ∧ i = .int .i64 j ∧ wr.ownsRow w.heap.size 5 1 v (flatZ (ps.take j)).length (vals (flatZ (ps.take j))) ∧ Below w.heap.size w wr) (fun _ i _ => m - (intOf i).toNat)
      case atStart => exact ⟨0, by omega, rfl, ho1, hb1⟩
      case round =>
        obtain ⟨j, hj, rfl, hown, hbel⟩ := hrel
        by_cases hltj : j < m
        · obtain ⟨b, off, p, rfl, hb, hF, HP, hc, hst⟩ := (HB.out.keep (fun k _ hk => hbel.block k hk)).at_ (k := j) (by rw [HM.out]; exact hltj)
          have h1 := HLE.out (j + 1)
          have H2 : Hid ((flatZ (ps.take (j + 1))).length = (flatZ (ps.take j)).length + p.n) := Lib.hid (by rw [flatZ_take HP.out, List.length_append, hst.len])
          have H4 : Hid (vals (flatZ (ps.take (j + 1))) = vals (flatZ (ps.take j)) ++ vals p.zs) := Lib.hid (by rw [flatZ_take HP.out, vals_app])
          rw [H2.out] at h1
          unfold pval at hc
          have HST := Lib.hid hst.lies
          clear hst hF
          generalize hsj : (flatZ (ps.take j)).length = sj at *
          clear hsj
          generalize p.n = n at *
          generalize p.A = pA at *
          generalize p.c = pc at *
          go_wp2_with (at_builtin; refine wpList_app _ rfl (.tmp 31) (.tmp 32) 27 rfl w.heap.size 5 1 1 Try.underlying27 u8_info (by omega) u6 sj (vals (flatZ (ps.take j))) rfl hown pA n pc (vals p.zs) rfl HST.out.1 HST.out.2 (vals_one _) (by unfold maxLen; omega) (by omega) hbel.size ?_; intro v2 w2 ho2 hg2)
          go_roundw
          case rel => exact ⟨j + 1, by omega, by go_num, by rw [H2.out, H4.out]; exact ho2, hbel.grown hg2 hbel.size (fun q hq => (hown.lt q hq).1)⟩
          case measure => simp [intOf]; omega
        · have hjm : j = m := by omega
          have HT2 : Hid (flatZ (ps.take j) = flatZ ps) := Lib.hid (by rw [List.take_of_length_le (by rw [HM.out]; omega)])
          have HM' : Hid (Made w (flatZ ps) (.returned u6) wr) := Lib.hid (made_of rfl (by rw [← HT2.out]; exact hown) hbel)
          clear hjm
          go_wp2
          go_ret
          exact HM'.out
end Go.Proofs.Ytlbmhkccmclmfaa
