/- The statement WindowBoots: the walk. -/
import Derived.Test.YtnnfcbcjepbjiaaWnL
namespace Go.Proofs.Ytnnfcbcjepbjiaa
open Go.ChangeShapes Go.WideShapes Go.ChangeAt Go.RowKit
set_option linter.unusedVariables false
set_option linter.unusedSimpArgs false
open Plain Sha Wn
set_option maxRecDepth 100000 in
set_option maxHeartbeats 4000000 in
theorem wnboots_any (a : Int) (A : Option Addr) (n c : Nat) (zs : List Int) (o m : Int) (w : World) (ha : -9223372036854775808 ≤ a ∧ a ≤ 9223372036854775807) (h : IsRow .i64 w A n c zs) (ho : -9223372036854775808 ≤ o ∧ o ≤ 9223372036854775807) (hm : -9223372036854775808 ≤ m ∧ m ≤ 9223372036854775807) :
    Calls Try.prog 8 #[.int .i64 a, .slice A n c, .int .i64 o, .int .i64 m] w (fun e w' => e = .returned (.bool true) ∧ Below w.heap.size w w') := by
  have HR := Lib.hid h.ir.1
  have HE := Lib.hid h.each
  generalize zs.take n = za at HR HE
  have hnm : n ≤ 9223372036854775807 := by have := h.ir.2; unfold maxLen at this; exact this
  clear h
  by_cases hbig : 100 < n
  · have hI : 100 < (n : Int) := by omega
    go_enter Try.func8, Try.ntmps8
    go_wp2_with (go_at_call 17; refine (awake_any _).mono ?_; rintro e v0 ⟨rfl, hb⟩; have B0 := Lib.hid hb; clear hb)
    go_ret
    exact ⟨rfl, B0.out⟩
  have hI : ¬ 100 < (n : Int) := by omega
  by_cases hneg : a < 0
  · skip
    go_enter Try.func8, Try.ntmps8
    go_wp2_with (go_at_call 17; refine (awake_any _).mono ?_; rintro e v0 ⟨rfl, hb⟩; have B0 := Lib.hid hb; clear hb)
    go_ret
    exact ⟨rfl, B0.out⟩
  by_cases hono : o < 0
  · skip
    go_enter Try.func8, Try.ntmps8
    go_wp2_with (go_at_call 17; refine (awake_any _).mono ?_; rintro e v0 ⟨rfl, hb⟩; have B0 := Lib.hid hb; clear hb)
    go_ret
    exact ⟨rfl, B0.out⟩
  by_cases hmno : m < 1
  · skip
    go_enter Try.func8, Try.ntmps8
    go_wp2_with (go_at_call 17; refine (awake_any _).mono ?_; rintro e v0 ⟨rfl, hb⟩; have B0 := Lib.hid hb; clear hb)
    go_ret
    exact ⟨rfl, B0.out⟩
  have HN : Hid True := Lib.hid trivial
  go_enter Try.func8, Try.ntmps8
  go_wp2_with (first
      | (go_at_call 17; refine (awake_any _).mono ?_; rintro e v0 ⟨rfl, hb⟩; have B0 := Lib.hid hb; clear hb)
      | (go_at_call 9; refine (new_any _).mono ?_; rintro e v1 ⟨rfl, h1, hb, hs⟩; have H1 := Lib.hid (Win.mk h1 wIn_none); have B1 := Lib.hid (B0.out.trans (hb.mono B0.out.size)); have HS1 : v0.heap.size < v1.heap.size := (by omega); clear h1 hb hs))
  go_loopw [10] (fun i wr => ∃ k : Nat, k ≤ n ∧ i = .int .i64 k ∧ Hid (Below w.heap.size w wr) ∧ ∃ b S, Hid (Win wr v0.heap.size b S) ∧ Hid (OfB a b S)) (fun i _ => n - (intOf i).toNat)
  case atStart => exact ⟨0, by omega, rfl, B1, -1, [], H1, Lib.hid (.inl ⟨rfl, rfl⟩)⟩
  case round =>
    obtain ⟨k, hk, rfl, HB, b, S, HW, HO⟩ := hrel
    by_cases hlt : k < n
    · have hltI : (k : Int) < (n : Int) := by omega
      obtain ⟨bb, off, z, rfl, hbb, HAT, hc⟩ := (HR.out.below HB.out (Nat.le_refl _)).step hlt
      have hz := HE.out z (List.mem_of_getElem? HAT.out)
      obtain ⟨T, hT⟩ : ∃ T, takeZ b S a z = T := ⟨_, rfl⟩
      have E1 := Lib.hid hT
      have HO2 : Hid (OfB a T.2.1 T.2.2) := Lib.hid (by rw [← hT]; exact ofB_take HO.out)
      obtain ⟨er, b2, S2⟩ := T
      have HO2 : Hid (OfB a b2 S2) := HO2
      unfold InI at hz
      clear hT
      have G1 := HN
      go_wp2_with (have g := G1; clear g; go_at_call 15; refine (take_val HW.out (by unfold InI; omega) (by unfold InI; omega) E1.out).mono ?_; rintro e v2 ⟨rfl, h, hg⟩; have H2 := Lib.hid h; have B2 := Lib.hid (HB.out.trans (gw_below hg (by have := B0.out.size; omega) HB.out.size)); clear hg h G1)
      exact ⟨⟨k + 1, by omega, by congr 1, B2, b2, S2, H2, HO2⟩, by simp only [intOf]; omega⟩
    · have hgeI : ¬ (k : Int) < (n : Int) := by omega
      have G1 := HN
      have G2 := HN
      have G3 := HN
      have G4 := HN
      have G5 := HN
      rcases HO.out with ⟨rfl, rfl⟩ | rfl
      · have E1 := Lib.hid (take_more (a := o) (b := -1) (S := []) (n := m) (by omega) (by omega) (by omega))
        go_wp2_with (first
              | (have g := G1; clear g; go_at_call 11; refine (boot_any HW.out.x).mono ?_; rintro e wb ⟨rfl, eb⟩; rw [eb]; clear eb wb G1)
              | (have g := G2; clear g; go_at_call 15; refine (take_val HW.out (by unfold InI; omega) (by unfold InI; omega) E1.out).mono ?_; rintro e v2 ⟨rfl, h, hg⟩; have H2 := Lib.hid h; have B2 := Lib.hid (HB.out.trans (gw_below hg (by have := B0.out.size; omega) HB.out.size)); clear hg h G2))
        go_ret
        exact ⟨rfl, B2.out⟩
      · have hb1 : ¬ b = -1 := by omega
        have hb1' : (b == -1) = false := by simpa using hb1
        obtain ⟨t, ht⟩ : ∃ t, topZ S = t := ⟨_, rfl⟩
        have HT := Lib.hid ht
        clear ht
        by_cases h1 : b < o
        · have E1 := Lib.hid (take_more (a := o) (b := b) (S := S) (n := m) (by omega) (by omega) h1)
          have E2 : Hid (topZ [m] = m) := Lib.hid (by show max 0 m = m; omega)
          go_wp2_with (first
                | (have g := G1; clear g; go_at_call 11; refine (boot_any HW.out.x).mono ?_; rintro e wb ⟨rfl, eb⟩; rw [eb]; clear eb wb G1)
                | (have g := G2; clear g; go_at_call 12; refine (top_val HW.out HT.out).mono ?_; rintro e wt ⟨rfl, et⟩; rw [et]; clear et wt G2)
                | (have g := G3; clear g; go_at_call 15; refine (take_val HW.out (by unfold InI; omega) (by unfold InI; omega) E1.out).mono ?_; rintro e v2 ⟨rfl, h, hg⟩; have H2 := Lib.hid h; have B2 := Lib.hid (HB.out.trans (gw_below hg (by have := B0.out.size; omega) HB.out.size)); clear hg h G3)
                | (have g := G4; clear g; go_at_call 11; refine (boot_any H2.out.x).mono ?_; rintro e wb ⟨rfl, eb⟩; rw [eb]; clear eb wb G4)
                | (have g := G5; clear g; go_at_call 12; refine (top_val H2.out E2.out).mono ?_; rintro e wt ⟨rfl, et⟩; rw [et]; clear et wt G5))
          go_ret
          exact ⟨rfl, B2.out⟩
        by_cases h2 : o = b
        · subst h2
          obtain ⟨T, hT⟩ : ∃ T, takeZ o S o m = T := ⟨_, rfl⟩
          have E1 := Lib.hid hT
          obtain ⟨er, b2, S2⟩ := T
          clear hT
          go_wp2_with (first
                | (have g := G1; clear g; go_at_call 11; refine (boot_any HW.out.x).mono ?_; rintro e wb ⟨rfl, eb⟩; rw [eb]; clear eb wb G1)
                | (have g := G2; clear g; go_at_call 12; refine (top_val HW.out HT.out).mono ?_; rintro e wt ⟨rfl, et⟩; rw [et]; clear et wt G2)
                | (have g := G3; clear g; go_at_call 15; refine (take_val HW.out (by unfold InI; omega) (by unfold InI; omega) E1.out).mono ?_; rintro e v2 ⟨rfl, h, hg⟩; have H2 := Lib.hid h; have B2 := Lib.hid (HB.out.trans (gw_below hg (by have := B0.out.size; omega) HB.out.size)); clear hg h G3))
          go_ret
          exact ⟨rfl, B2.out⟩
        · have E1 := Lib.hid (take_less (a := o) (b := b) (S := S) (n := m) (by omega) (by omega) (by omega))
          have h2' : (o == b) = false := by simpa using h2
          go_wp2_with (first
                | (have g := G1; clear g; go_at_call 11; refine (boot_any HW.out.x).mono ?_; rintro e wb ⟨rfl, eb⟩; rw [eb]; clear eb wb G1)
                | (have g := G2; clear g; go_at_call 12; refine (top_val HW.out HT.out).mono ?_; rintro e wt ⟨rfl, et⟩; rw [et]; clear et wt G2)
                | (have g := G3; clear g; go_at_call 15; refine (take_val HW.out (by unfold InI; omega) (by unfold InI; omega) E1.out).mono ?_; rintro e v2 ⟨rfl, h, hg⟩; have H2 := Lib.hid h; have B2 := Lib.hid (HB.out.trans (gw_below hg (by have := B0.out.size; omega) HB.out.size)); clear hg h G3)
                | (have g := G4; clear g; go_at_call 11; refine (boot_any H2.out.x).mono ?_; rintro e wb ⟨rfl, eb⟩; rw [eb]; clear eb wb G4)
                | (have g := G5; clear g; go_at_call 12; refine (top_val H2.out HT.out).mono ?_; rintro e wt ⟨rfl, et⟩; rw [et]; clear et wt G5))
          go_ret
          exact ⟨rfl, B2.out⟩
end Go.Proofs.Ytnnfcbcjepbjiaa
