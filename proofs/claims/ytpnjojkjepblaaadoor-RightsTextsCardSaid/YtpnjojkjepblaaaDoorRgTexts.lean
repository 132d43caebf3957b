/- The walk of RightsTexts. -/
import Derived.Test.YtpnjojkjepblaaaDoorRgA
import Derived.Test.YtpnjojkjepblaaaDoorRgRT
namespace Go.Proofs.YtpnjojkjepblaaaDoor
open Go.ChangeShapes Go.WideShapes Go.ChangeAt Go.RowKit
set_option linter.unusedVariables false
open Plain
set_option maxHeartbeats 2000000 in
theorem rightsTexts_any (r : Int) (s : ByteArray) (w : World) (h0 : 0 ≤ r) (h1 : r < 256) (hs : s.size ≤ maxLen) (hL : LaidL w) : Calls Tryd.prog 3 #[.int .u8 r, .string s] w (fun e w' => e = .returned (.bool true) ∧ Below w.heap.size w w') := by
  unfold maxLen at hs
  have HL := Lib.hid hL
  clear hL
  by_cases hbig : 100 < (s.size : Int)
  · go_enter Tryd.func3, Tryd.ntmps3
    go_wp2
    go_ret
    exact ⟨rfl, Below.refl _ _⟩
  go_enter Tryd.func3, Tryd.ntmps3
  go_wp2
  go_loop [5, 6, 7] (fun a b i => ∃ k : Nat, k ≤ 16 ∧ i = .int .u8 k ∧ ∃ R q, Hid (pR s k = R) ∧ Hid (pOk s k = q) ∧ a = .int .u8 R ∧ b = .bool q) (fun _ _ i => 16 - (intOf i).toNat)
  case atStart => exact ⟨0, by omega, rfl, _, _, rfl, rfl, rfl, rfl⟩
  case round =>
    obtain ⟨k, hk, rfl, R, q, HR, HQ, rfl, rfl⟩ := hrel
    by_cases hlt : k < 16
    · have hltI : (k : Int) < 16 := by omega
      by_cases he : textB k = s
      · have HR2 : Hid (pR s (k + 1) = k ∧ pOk s (k + 1) = true) := Lib.hid (by simp [pR, pOk, he])
        have hq := seq_yes he
        clear he
        go_wp2_with (go_at_call 9; refine (reftext_any k _ (by omega) (by omega)).mono ?_; rintro e w' ⟨rfl, rfl⟩)
        go_round
        case rel => exact ⟨k + 1, by omega, by go_num, _, _, HR2.out.1, HR2.out.2, rfl, rfl⟩
        case measure => simp [intOf]; omega
      · have HR2 : Hid (pR s (k + 1) = R ∧ pOk s (k + 1) = q) := Lib.hid (by simp only [pR, pOk, if_neg he]; exact ⟨HR.out, HQ.out⟩)
        have hq := seq_no he
        clear he
        go_wp2_with (go_at_call 9; refine (reftext_any k _ (by omega) (by omega)).mono ?_; rintro e w' ⟨rfl, rfl⟩)
        go_round
        case rel => exact ⟨k + 1, by omega, by go_num, _, _, HR2.out.1, HR2.out.2, rfl, rfl⟩
        case measure => simp [intOf]; omega
    · obtain rfl : k = 16 := by omega
      cases q
      all_goals
        go_wp2_with fail
        refine (parse_val s R _ _ HL.out HR.out HQ.out).mono ?_
        rintro e w1 ⟨rfl, hb1⟩
        have H1 := Lib.hid hb1
        clear hb1
        go_wp2_with fail
        refine (text_any r _ (HL.out.grown H1.out) h0 h1).mono ?_
        rintro e w2 ⟨rfl, hb2⟩
        have H2 : Hid (Below w.heap.size w w2) := Lib.hid (H1.out.trans (hb2.mono H1.out.size))
        clear hb2
        go_wp2_with fail
        refine (reftext_any r _ h0 h1).mono ?_
        rintro e w3 ⟨rfl, rfl⟩
        go_wp2_with (go_at_call 12; refine (awake_any _ (HL.out.grown H2.out)).mono ?_; rintro e w4 ⟨rfl, hb4⟩)
        go_ret
        exact ⟨rfl, H2.out.trans (hb4.mono H2.out.size)⟩
end Go.Proofs.YtpnjojkjepblaaaDoor
