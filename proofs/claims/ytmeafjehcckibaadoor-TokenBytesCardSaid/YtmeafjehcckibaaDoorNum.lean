/- Numbers and their bytes, there and back. -/
import Derived.Test.YtmeafjehcckibaaDoorB1
import Derived.RowKit
namespace Go.Proofs.YtmeafjehcckibaaDoor
open Go.ChangeShapes Go.WideShapes Go.ChangeAt Go.RowKit
set_option linter.unusedVariables false
open Plain
theorem putZ_succ (x : Int) (s : Nat) (h0 : 0 ≤ x) : putZ x (s + 1) = putZ (x / 256) s ++ [x % 256] := by
  refine list_ext_getD (by simp [putZ_len]) (fun j hj => ?_)
  rw [putZ_len] at hj
  rw [putZ_at x (s + 1) j hj]
  by_cases hjs : j < s
  · have e : (putZ (x / 256) s ++ [x % 256]).getD j 0 = (putZ (x / 256) s).getD j 0 := by
      simp only [List.getD_eq_getElem?_getD]
      rw [List.getElem?_append_left (by rw [putZ_len]; exact hjs)]
    rw [e, putZ_at _ s j hjs, show s + 1 - 1 - j = (s - 1 - j) + 1 from by omega, Int.pow_succ, Int.mul_comm (256 ^ (s - 1 - j)), Int.ediv_ediv_of_nonneg (by omega)]
  · obtain rfl : j = s := by omega
    have e : (putZ (x / 256) j ++ [x % 256]).getD j 0 = x % 256 := by
      simp only [List.getD_eq_getElem?_getD]
      rw [List.getElem?_append_right (by rw [putZ_len]; omega), putZ_len]
      simp
    rw [e, show j + 1 - 1 - j = 0 from by omega]
    simp
theorem numZ_putZ (s : Nat) : ∀ x : Int, 0 ≤ x → x < 256 ^ s → numZ (putZ x s) = x := by
  induction s with
  | zero => intro x h0 h1; have : x = 0 := by simp at h1; omega
            subst this; rfl
  | succ s ih =>
    intro x h0 h1
    rw [Int.pow_succ] at h1
    rw [putZ_succ x s h0, numZ_snoc, ih (x / 256) (by omega) (by omega)]
    omega
end Go.Proofs.YtmeafjehcckibaaDoor
