/- The document's own texts of rights. -/
import Derived.Test.YtpnjojkjepblaaaDoorRgT
namespace Go.Proofs.YtpnjojkjepblaaaDoor
open Go.ChangeShapes Go.WideShapes Go.ChangeAt Go.RowKit
set_option linter.unusedVariables false
open Plain
set_option maxHeartbeats 1000000 in
theorem reftext_any (r : Int) (w : World) (h0 : 0 ≤ r) (h1 : r < 256) : Calls Tryd.prog 9 #[.int .u8 r] w (fun e w' => e = .returned (.string (textB r)) ∧ w = w') := by
  by_cases hbig : 15 < r
  · have HT : Hid (textB r = ⟨#[63]⟩) := Lib.hid (by unfold textB textZ; rw [if_pos hbig]; rfl)
    go_enter Tryd.func9, Tryd.ntmps9
    go_wp2
    go_ret
    rw [HT.out]
    exact ⟨rfl, rfl⟩
  rcases (by omega : r = 1 ∨ r = 2 ∨ r = 3 ∨ r = 4 ∨ r = 5 ∨ r = 6 ∨ r = 7 ∨ r = 8 ∨ r = 9 ∨ r = 10 ∨ r = 11 ∨ r = 12 ∨ r = 13 ∨ r = 14 ∨ r = 15 ∨ r = 0) with rfl | rfl | rfl | rfl | rfl | rfl | rfl | rfl | rfl | rfl | rfl | rfl | rfl | rfl | rfl | rfl
  case neg.inr.inr.inr.inr.inr.inr.inr.inr.inr.inr.inr.inr.inr.inr.inr =>
    clear hbig h0 h1
    go_enter Tryd.func9, Tryd.ntmps9
    go_wp2
    go_ret
    exact ⟨rfl, rfl⟩
  all_goals
    clear hbig h0 h1
    go_enter Tryd.func9, Tryd.ntmps9
    go_wp2
    · rename_i hh
      rw [ByteArray.toList_eq] at hh
      exact absurd hh (by decide)
    · go_ret
      refine ⟨?_, rfl⟩
      show Ending.returned (.string _) = Ending.returned (.string _)
      congr 2
end Go.Proofs.YtpnjojkjepblaaaDoor
