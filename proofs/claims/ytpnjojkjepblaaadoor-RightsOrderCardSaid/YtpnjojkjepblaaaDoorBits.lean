/- What the turns and shifts of the program and of the document's answer return: the same numbers. No condition but that the number is one of 32 bits. -/
import Derived.Test.YtpnjojkjepblaaaDoorLib
namespace Go.Proofs.YtpnjojkjepblaaaDoor
open Go.ChangeShapes Go.WideShapes Go.ChangeAt Go.RowKit
set_option linter.unusedVariables false
open Plain

theorem ret_int {k : IntKind} {a b : Int} (h : a = b) : Ending.returned (.int k a) = .returned (.int k b) := by rw [h]
theorem mod_twice (n : Int) : (wrap64 (n.tmod 32 + 32)).tmod 32 = n % 32 := by
  have h : n.tmod 32 = if 0 ≤ n ∨ n % 32 = 0 then n % 32 else n % 32 - 32 := by
    rw [Int.tmod_eq_emod]
    by_cases h0 : 0 ≤ n
    · simp [h0]
    · by_cases h1 : n % 32 = 0
      · simp [h1, Int.dvd_of_emod_eq_zero h1]
      · have h2 : ¬ (32 : Int) ∣ n := fun h => h1 (Int.emod_eq_zero_of_dvd h)
        simp [h0, h1, h2]
  have hw : wrap64 (n.tmod 32 + 32) = n.tmod 32 + 32 := by unfold wrap64; split at h <;> omega
  rw [hw, Int.tmod_eq_emod_of_nonneg (by split at h <;> omega)]
  split at h <;> omega
theorem rot_of_or (x n : Int) (h0 : 0 ≤ x) (h1 : x < 4294967296) : bits BinOp.or IntKind.u32 (shrZ x (n % 32)) (x * 2 ^ (32 - n % 32).toNat % 4294967296) = rotZ x n := by
  obtain ⟨k, hk⟩ : ∃ k : Nat, n % 32 = k := ⟨(n % 32).toNat, by omega⟩
  obtain ⟨y, rfl⟩ := Int.eq_ofNat_of_zero_le h0
  have := or_split y k (by omega) (by omega)
  unfold rotZ shrZ
  rw [hk]
  rw [show min (k : Int).toNat 32 = k from by omega, show (32 - (k : Int)).toNat = 32 - k from by omega, this]
  rfl
theorem div_pow_succ (x : Int) (k : Nat) (h0 : 0 ≤ x) : x / 2 ^ k / 2 = x / 2 ^ (k + 1) := by
  rw [Int.ediv_ediv_of_nonneg (Int.le_of_lt (Int.pow_pos (by omega))), Int.pow_succ]
end Go.Proofs.YtpnjojkjepblaaaDoor
