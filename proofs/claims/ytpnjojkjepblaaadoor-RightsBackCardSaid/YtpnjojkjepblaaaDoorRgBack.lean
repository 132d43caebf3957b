/- The walk of RightsBack. -/
import Derived.Test.YtpnjojkjepblaaaDoorRgA
namespace Go.Proofs.YtpnjojkjepblaaaDoor
open Go.ChangeShapes Go.WideShapes Go.ChangeAt Go.RowKit
set_option linter.unusedVariables false
open Plain
theorem p_self (r : Int) (h0 : 0 ≤ r) (h1 : r ≤ 15) : pR (textB r) 16 = r ∧ pOk (textB r) 16 = true := by
  have e : ((r.toNat : Nat) : Int) = r := Int.toNat_of_nonneg h0
  have := p_stay (textB r) r.toNat (by rw [e]) 16 (by omega) (by omega)
  rw [e] at this
  exact this
theorem p_great (r : Int) (h : 15 < r) : pOk (textB r) 16 = false := by
  have e : textB r = textB 16 := by
    unfold textB textZ
    rw [if_pos h, if_pos (by omega)]
  rw [e]
  decide +kernel
theorem textB_other (r q : Int) (h0 : 0 ≤ r) (h1 : r ≤ 15) (h2 : 0 ≤ q) (h3 : q ≤ 15) (h : q ≠ r) : textB q ≠ textB r := fun e => by
  have := textB_inj q.toNat r.toNat (by omega) (by omega) (by rw [Int.toNat_of_nonneg h0, Int.toNat_of_nonneg h2]; exact e)
  omega
set_option maxHeartbeats 2000000 in
theorem rightsBack_any (r q : Int) (w : World) (h0 : 0 ≤ r) (h1 : r < 256) (h2 : 0 ≤ q) (h3 : q < 256) (hL : LaidL w) : Calls Tryd.prog 8 #[.int .u8 r, .int .u8 q] w (fun e w' => e = .returned (.bool true) ∧ Below w.heap.size w w') := by
  have HL := Lib.hid hL
  clear hL
  by_cases hr : 15 < r
  · have HP := Lib.hid (p_great r hr)
    go_enter Tryd.func8, Tryd.ntmps8
    go_wp2_with fail
    refine (text_any r _ HL.out h0 h1).mono ?_
    rintro e w1 ⟨rfl, hb1⟩
    have H1 := Lib.hid hb1
    clear hb1
    go_wp2_with fail
    refine (parse_val _ _ _ _ (HL.out.grown H1.out) rfl HP.out).mono ?_
    rintro e w2 ⟨rfl, hb2⟩
    have H2 : Hid (Below w.heap.size w w2) := Lib.hid (H1.out.trans (hb2.mono H1.out.size))
    clear hb2
    go_wp2_with (go_at_call 12; refine (awake_any _ (HL.out.grown H2.out)).mono ?_; rintro e w4 ⟨rfl, hb4⟩)
    go_ret
    exact ⟨rfl, H2.out.trans (hb4.mono H2.out.size)⟩
  have HP := Lib.hid (p_self r h0 (by omega))
  by_cases hq : 15 < q
  · go_enter Tryd.func8, Tryd.ntmps8
    go_wp2_with fail
    refine (text_any r _ HL.out h0 h1).mono ?_
    rintro e w1 ⟨rfl, hb1⟩
    have H1 := Lib.hid hb1
    clear hb1
    go_wp2_with fail
    refine (parse_val _ _ _ _ (HL.out.grown H1.out) HP.out.1 HP.out.2).mono ?_
    rintro e w2 ⟨rfl, hb2⟩
    have H2 : Hid (Below w.heap.size w w2) := Lib.hid (H1.out.trans (hb2.mono H1.out.size))
    clear hb2
    go_wp2_with (go_at_call 12; refine (awake_any _ (HL.out.grown H2.out)).mono ?_; rintro e w4 ⟨rfl, hb4⟩)
    go_ret
    exact ⟨rfl, H2.out.trans (hb4.mono H2.out.size)⟩
  by_cases hne : q = r
  · subst hne
    go_enter Tryd.func8, Tryd.ntmps8
    go_wp2_with fail
    refine (text_any q _ HL.out h0 h1).mono ?_
    rintro e w1 ⟨rfl, hb1⟩
    have H1 := Lib.hid hb1
    clear hb1
    go_wp2_with fail
    refine (parse_val _ _ _ _ (HL.out.grown H1.out) HP.out.1 HP.out.2).mono ?_
    rintro e w2 ⟨rfl, hb2⟩
    have H2 : Hid (Below w.heap.size w w2) := Lib.hid (H1.out.trans (hb2.mono H1.out.size))
    clear hb2
    go_wp2_with fail
    refine (text_any q _ (HL.out.grown H2.out) h0 h1).mono ?_
    rintro e w3 ⟨rfl, hb3⟩
    have H3 : Hid (Below w.heap.size w w3) := Lib.hid (H2.out.trans (hb3.mono H2.out.size))
    clear hb3
    go_wp2_with fail
    refine (text_any q _ (HL.out.grown H3.out) h0 h1).mono ?_
    rintro e w4 ⟨rfl, hb4⟩
    have H4 : Hid (Below w.heap.size w w4) := Lib.hid (H3.out.trans (hb4.mono H3.out.size))
    clear hb4
    go_wp2_with (go_at_call 12; refine (awake_any _ (HL.out.grown H4.out)).mono ?_; rintro e w5 ⟨rfl, hb5⟩)
    go_ret
    exact ⟨rfl, H4.out.trans (hb5.mono H4.out.size)⟩
  · have hs := seq_no (textB_other r q h0 (by omega) h2 (by omega) hne)
    have hI : (q == r) = false := by simpa using hne
    clear hne
    go_enter Tryd.func8, Tryd.ntmps8
    go_wp2_with fail
    refine (text_any r _ HL.out h0 h1).mono ?_
    rintro e w1 ⟨rfl, hb1⟩
    have H1 := Lib.hid hb1
    clear hb1
    go_wp2_with fail
    refine (parse_val _ _ _ _ (HL.out.grown H1.out) HP.out.1 HP.out.2).mono ?_
    rintro e w2 ⟨rfl, hb2⟩
    have H2 : Hid (Below w.heap.size w w2) := Lib.hid (H1.out.trans (hb2.mono H1.out.size))
    clear hb2
    go_wp2_with fail
    refine (text_any q _ (HL.out.grown H2.out) h2 h3).mono ?_
    rintro e w3 ⟨rfl, hb3⟩
    have H3 : Hid (Below w.heap.size w w3) := Lib.hid (H2.out.trans (hb3.mono H2.out.size))
    clear hb3
    go_wp2_with fail
    refine (text_any r _ (HL.out.grown H3.out) h0 h1).mono ?_
    rintro e w4 ⟨rfl, hb4⟩
    have H4 : Hid (Below w.heap.size w w4) := Lib.hid (H3.out.trans (hb4.mono H3.out.size))
    clear hb4
    go_wp2_with (go_at_call 12; refine (awake_any _ (HL.out.grown H4.out)).mono ?_; rintro e w5 ⟨rfl, hb5⟩)
    go_ret
    exact ⟨rfl, H4.out.trans (hb5.mono H4.out.size)⟩
end Go.Proofs.YtpnjojkjepblaaaDoor
