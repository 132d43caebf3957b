/- The statement WindowRises: the walk. -/
import Derived.Test.YtnnfcbcjepbjiaaWnL
namespace Go.Proofs.Ytnnfcbcjepbjiaa
open Go.ChangeShapes Go.WideShapes Go.ChangeAt Go.RowKit
set_option linter.unusedVariables false
set_option linter.unusedSimpArgs false
open Plain Sha Wn
set_option maxRecDepth 100000 in
set_option maxHeartbeats 4000000 in
theorem wnrises_any (a : Int) (A : Option Addr) (n c : Nat) (zs : List Int) (w : World) (ha : -9223372036854775808 ≤ a ∧ a ≤ 9223372036854775807) (h : IsRow .i64 w A n c zs) :
    Calls Try.prog 6 #[.int .i64 a, .slice A n c] w (fun e w' => e = .returned (.bool true) ∧ Below w.heap.size w w') := by
  have HR := Lib.hid h.ir.1
  have HE := Lib.hid h.each
  generalize zs.take n = za at HR HE
  have hnm : n ≤ 9223372036854775807 := by have := h.ir.2; unfold maxLen at this; exact this
  clear h
  by_cases hbig : 300 < n
  · have hI : 300 < (n : Int) := by omega
    go_enter Try.func6, Try.ntmps6
    go_wp2_with (go_at_call 17; refine (awake_any _).mono ?_; rintro e v0 ⟨rfl, hb⟩; have B0 := Lib.hid hb; clear hb)
    go_ret
    exact ⟨rfl, B0.out⟩
  have hI : ¬ 300 < (n : Int) := by omega
  by_cases hneg : a < 0
  · skip
    go_enter Try.func6, Try.ntmps6
    go_wp2_with (go_at_call 17; refine (awake_any _).mono ?_; rintro e v0 ⟨rfl, hb⟩; have B0 := Lib.hid hb; clear hb)
    go_ret
    exact ⟨rfl, B0.out⟩
  have HN : Hid True := Lib.hid trivial
  go_enter Try.func6, Try.ntmps6
  go_wp2_with (first
      | (go_at_call 17; refine (awake_any _).mono ?_; rintro e v0 ⟨rfl, hb⟩; have B0 := Lib.hid hb; clear hb)
      | (go_at_call 9; refine (new_any _).mono ?_; rintro e v1 ⟨rfl, h1, hb, hs⟩; have H1 := Lib.hid (Win.mk h1 wIn_none); have B1 := Lib.hid (B0.out.trans (hb.mono B0.out.size)); have HS1 : v0.heap.size < v1.heap.size := (by omega); clear h1 hb hs))
  go_loopw [6, 7] (fun x i wr => ∃ k : Nat, k ≤ n ∧ i = .int .i64 k ∧ Hid (Below w.heap.size w wr) ∧ ∃ t : Int, x = .int .i64 t ∧ 0 ≤ t ∧ t ≤ (k : Int) * 1073741824 ∧ ∃ b S, Hid (Win wr v0.heap.size b S) ∧ Hid (topZ S = t) ∧ Hid (b = -1 ∨ b = a)) (fun _ i _ => n - (intOf i).toNat)
  case atStart => exact ⟨0, by omega, rfl, B1, 0, rfl, by omega, by omega, -1, [], H1, Lib.hid rfl, Lib.hid (.inl rfl)⟩
  case round =>
    obtain ⟨k, hk, rfl, HB, t, rfl, ht0, ht1, b, S, HW, HT, HO⟩ := hrel
    by_cases hlt : k < n
    · have hltI : (k : Int) < (n : Int) := by omega
      obtain ⟨bb, off, z, rfl, hbb, HAT, hc⟩ := (HR.out.below HB.out (Nat.le_refl _)).step hlt
      by_cases hz1 : z < 1
      · go_wp2
        go_ret
        exact ⟨rfl, HB.out⟩
      by_cases hz2 : 1073741824 < z
      · go_wp2
        go_ret
        exact ⟨rfl, HB.out⟩
      obtain ⟨S', e1, e2, e3⟩ := take_rise (a := a) (b := b) (S := S) (n := t + z) (by omega) (by rw [HT.out]; omega) HO.out
      have E1 := Lib.hid e1
      have E2 := Lib.hid e2
      have E3 := Lib.hid (take_again (b := a) (S := S') (n := t + z) (by omega) (by omega) e3)
      have G1 := HN
      have G2 := HN
      clear e1 e2 e3
      go_wp2_with (first
      | (have g := G1; clear g; go_at_call 15; refine (take_val HW.out (by unfold InI; omega) (by unfold InI; omega) E1.out).mono ?_; rintro e v2 ⟨rfl, h, hg⟩; have H2 := Lib.hid h; have B2 := Lib.hid (HB.out.trans (gw_below hg (by have := B0.out.size; omega) HB.out.size)); clear hg h G1)
      | (go_at_call 12; refine (top_val H2.out E2.out).mono ?_; rintro e wt ⟨rfl, et⟩; rw [et]; clear et wt)
      | (have g := G2; clear g; go_at_call 15; refine (take_val H2.out (by unfold InI; omega) (by unfold InI; omega) E3.out).mono ?_; rintro e v3 ⟨rfl, h, hg⟩; have H3 := Lib.hid h; have B3 := Lib.hid (B2.out.trans (gw_below hg (by have := B0.out.size; omega) B2.out.size)); clear hg h G2))
      refine ⟨⟨k + 1, by omega, by congr 1, B3, t + z, rfl, by omega, by omega, a, S', H3, E2, Lib.hid (.inr rfl)⟩, by simp only [intOf]; omega⟩
    · have hgeI : ¬ (k : Int) < (n : Int) := by omega
      go_wp2
      go_ret
      exact ⟨rfl, HB.out⟩
end Go.Proofs.Ytnnfcbcjepbjiaa
