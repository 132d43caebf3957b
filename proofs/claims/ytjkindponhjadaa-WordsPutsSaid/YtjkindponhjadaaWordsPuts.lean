/- The walk of WordsPuts: numbers' bytes are the document's, and the caller's own. -/
import Derived.Test.YtjkindponhjadaaOwn
namespace Go.Proofs.Ytjkindponhjadaa
open Go.ChangeShapes Go.WideShapes Go.ChangeAt Go.RowKit
set_option linter.unusedVariables false
open Plain
set_option maxHeartbeats 1000000 in
theorem wordsPuts_walk (a0 : Int) (a1 : Int) (w0 : (Lit.int .u32 a0).wf = true) (w1 : (Lit.int .u64 a1).wf = true) (w : World) :
    Calls Try.prog 5 #[.int .u32 a0, .int .u64 a1] w fun e w' => e = .returned (.bool true) ∧ Below w.heap.size w w' := by
  obtain ⟨h0, h1⟩ := wf_u32' w0
  obtain ⟨h2, h3⟩ := wf_u64 w1
  clear w0 w1
  go_enter Try.func5, Try.ntmps5
  go_wp2
  go_loopw [5] (fun t wr => ∃ k : Nat, k ≤ 2 ∧ t = .int .i64 k ∧ Below w.heap.size w wr) (fun t _ => 2 - (intOf t).toNat)
  case atStart => exact ⟨0, by omega, rfl, Below.refl _ _⟩
  case round =>
    obtain ⟨k, hk, rfl, hbel⟩ := hrel
    by_cases hlt : k < 2
    · go_wp2_with (first
        | (go_at_call 20; refine (put32_any _ h0 h1 _).mono ?_; intro e w1 hm; obtain ⟨A, c, rfl, ho1, hb1, _, hc1⟩ := hm.n (n := 4) (putZ_len ..))
        | (go_at_call 21; refine (put64_any _ h2 h3 _).mono ?_; intro e w2 hm; obtain ⟨D, d, rfl, ho2, hb2, _, hd1⟩ := hm.n (n := 8) (putZ_len ..)))
      have B1 := Own.of (own_below ho1 hb2 (Nat.le_refl _)) (putZ_bytes a0 4)
      have B2 := Own.of ho2 (putZ_bytes a1 8)
      have R1 : Bs w2 w2.heap.size A 4 (putZ a0 4) := bs_of_own (own_below ho1 hb2 (Nat.le_refl _)) (putZ_bytes a0 4)
      have R2 : Bs w2 w2.heap.size D 8 (putZ a1 8) := bs_of_own ho2 (putZ_bytes a1 8)
      have hAlt : ∀ a, A = some a → a.block < w1.heap.size := fun a ha => ((Own.of ho1 (putZ_bytes a0 4)).lt a ha).2
      have hs1 := hbel.size
      have hs2 := hb1.size
      have hs3 := hb2.size
      have hbel2 : Below w.heap.size w w2 := (hbel.trans (hb1.mono hs1)).trans (hb2.mono (by omega))
      clear ho1 ho2 hm
      refine (refputI_any a0 4 h0 (by omega) (by omega) (by omega) _).mono ?_
      intro e w3 hm
      obtain ⟨P, pc, rfl, ho3, hb3, _, _⟩ := hm.n (n := 4) (putZ_len ..)
      go_wp2_with fail
      refine (refsame_any c pc (R1.below hb3) (bs_of_own ho3 (putZ_bytes _ _)) (by simp [maxLen]) (by simp [maxLen])).mono ?_
      rw [show eqB (putZ a0 4) (putZ a0 (Int.toNat 4)) = true from eqB_self (putZ a0 4)]
      rintro e w4 ⟨rfl, hq⟩
      have hb4 : Below w2.heap.size w2 w4 := by
        obtain ⟨m, rfl⟩ := hq
        exact below_drewN hb3 _
      clear hq ho3 hb3 hm
      go_wp2_with fail
      refine (refputI_any a1 8 h2 h3 (by omega) (by omega) _).mono ?_
      intro e w5 hm
      obtain ⟨P2, pc2, rfl, ho5, hb5, _, _⟩ := hm.n (n := 8) (putZ_len ..)
      have hs4 := hb4.size
      have hb6 : Below w2.heap.size w2 w5 := hb4.trans (hb5.mono hs4)
      go_wp2_with fail
      refine (refsame_any d pc2 (R2.below hb6) (bs_of_own ho5 (putZ_bytes _ _)) (by simp [maxLen]) (by simp [maxLen])).mono ?_
      rw [show eqB (putZ a1 8) (putZ a1 (Int.toNat 8)) = true from eqB_self (putZ a1 8)]
      rintro e w7 ⟨rfl, hq⟩
      have hb7 : Below w2.heap.size w2 w7 := by
        obtain ⟨m, rfl⟩ := hq
        exact below_drewN hb6 _
      have hbel7 : Below w.heap.size w w7 := hbel2.trans (hb7.mono (by omega))
      have O1 := B1.below hb7 (Nat.le_refl _)
      have O2 := B2.below hb7 (Nat.le_refl _)
      have hAL := Lib.hid hAlt
      have hsz : w.heap.size ≤ wr.heap.size := hs1
      clear hq ho5 hb5 hm hb6 hb4 hb7 R1 R2 B1 B2 hbel hb1 hb2 hbel2 hs4 hAlt
      go_wp2
      go_loopw [8] (fun i wx => ∃ j : Nat, j ≤ 4 ∧ i = .int .i64 j ∧ Own wx wr.heap.size A 4 c ∧ Own wx w1.heap.size D 8 d ∧ Below w.heap.size w wx) (fun i _ => 4 - (intOf i).toNat)
      case atStart => exact ⟨0, by omega, rfl, O1, O2, hbel7⟩
      case round =>
        clear O1 O2 hbel7
        obtain ⟨j, hj, rfl, O1, O2, hbx⟩ := hrel
        by_cases hltj : j < 4
        · obtain ⟨g, u, rfl, hg1, hg2, hu0, hu1, hc, hf, HS⟩ := O1.at_ hltj
          have hg3 : g < w1.heap.size := hAL.out ⟨g, 0, none⟩ rfl
          go_wp2
          go_roundw
          case rel => exact ⟨j + 1, by omega, by go_num, HS.out _ (by omega) (by omega), O2.far (by simpa using hg3) _, hbx.setCell (by simp; omega) _⟩
          case measure => simp [intOf]; omega
        · go_wp2
          go_loopw [9] (fun i wx => ∃ j : Nat, j ≤ 8 ∧ i = .int .i64 j ∧ Own wx w1.heap.size D 8 d ∧ Below w.heap.size w wx) (fun i _ => 8 - (intOf i).toNat)
          case atStart => exact ⟨0, by omega, rfl, O2, hbx⟩
          case round =>
            clear O1 O2 hbx
            obtain ⟨l, hl, rfl, O2, hbx⟩ := hrel
            by_cases hltl : l < 8
            · obtain ⟨g, u, rfl, hg1, hg2, hu0, hu1, hc, hf, HS⟩ := O2.at_ hltl
              go_wp2
              go_roundw
              case rel => exact ⟨l + 1, by omega, by go_num, HS.out _ (by omega) (by omega), hbx.setCell (by simp; omega) _⟩
              case measure => simp [intOf]; omega
            · go_wp2
              go_roundw
              case rel => exact ⟨k + 1, by omega, by go_num, hbx⟩
              case measure => simp [intOf]; omega
    · go_wp2
      go_ret
      exact ⟨rfl, hbel⟩
end Go.Proofs.Ytjkindponhjadaa
