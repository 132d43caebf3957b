/- Numbers as bytes: what the program's and the document's put return. -/
import Derived.Test.YtpnjojkjepblaaaDoorCat
import Derived.Laws.ShiftsVarLaws
namespace Go.Proofs.YtpnjojkjepblaaaDoor
open Go.ChangeShapes Go.WideShapes Go.ChangeAt Go.RowKit
set_option linter.unusedVariables false
/-- The last s bytes of x, the greatest ahead. -/
def putZ (x : Int) (s : Nat) : List Int := (List.range s).map fun j => x / 256 ^ (s - 1 - j) % 256
theorem putZ_len (x : Int) (s : Nat) : (putZ x s).length = s := by simp [putZ]
theorem putZ_at (x : Int) (s j : Nat) (h : j < s) : (putZ x s).getD j 0 = x / 256 ^ (s - 1 - j) % 256 := by
  simp [putZ, List.getD_eq_getElem?_getD, h]
theorem putZ_bytes (x : Int) (s : Nat) : IsBytes (putZ x s) := by
  intro j hj
  rw [putZ_len] at hj
  rw [putZ_at x s j hj]
  omega
theorem div_step (x : Int) (j : Nat) : x / 256 ^ j / 256 = x / 256 ^ (j + 1) := by
  rw [Int.ediv_ediv_of_nonneg (Int.le_of_lt (Int.pow_pos (by omega))), Int.pow_succ]
theorem div_range (x : Int) (j : Nat) (h0 : 0 ≤ x) (h1 : x < 18446744073709551616) : 0 ≤ x / 256 ^ j ∧ x / 256 ^ j < 18446744073709551616 := by
  have hp : (0 : Int) < 256 ^ j := Int.pow_pos (by omega)
  exact ⟨Int.ediv_nonneg h0 (by omega), Int.lt_of_le_of_lt (Int.ediv_le_self _ h0) h1⟩
end Go.Proofs.YtpnjojkjepblaaaDoor
