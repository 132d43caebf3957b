/- Plain facts on numbers: turns and shifts of 32 bits, bytes of numbers. Nothing of the program is imported but its rows' module (for the name). -/
import Derived.Laws.BitsAllLaws
import Derived.Below
namespace Go.Proofs.Ytjkindponhjadaa.Plain
set_option linter.unusedVariables false

theorem and31 (n : Int) : bits .and .i64 n 31 = n % 32 := by
  show IntKind.i64.wrap ((BitVec.ofInt 64 n &&& BitVec.ofInt 64 31).toNat : Int) = _
  rw [BitVec.toNat_and]
  have h31 : (BitVec.ofInt 64 31).toNat = 2 ^ 5 - 1 := by decide
  rw [h31, Nat.and_two_pow_sub_one_eq_mod, BitVec.toNat_ofInt, IntKind.wrap_i64]
  omega

/-- x turned by k places (k below 32), as the sum of its two parts. -/
def rotN (x k : Nat) : Nat := x / 2 ^ k + (x % 2 ^ k) * 2 ^ (32 - k)
def rotZ (x n : Int) : Int := (rotN x.toNat (n % 32).toNat : Nat)
def shrZ (x n : Int) : Int := x / 2 ^ (min n.toNat 32)

theorem rotN_zero (x : Nat) : rotN x 0 = x := by simp [rotN, Nat.mod_one]
theorem rotN_lt (x k : Nat) (hx : x < 2 ^ 32) (hk : k ≤ 32) : rotN x k < 2 ^ 32 := by
  unfold rotN
  have e : 2 ^ 32 = 2 ^ (32 - k) * 2 ^ k := by rw [← Nat.pow_add]; congr 1; omega
  have hp : 0 < 2 ^ k := Nat.two_pow_pos k
  have h1 : x / 2 ^ k < 2 ^ (32 - k) := by rw [Nat.div_lt_iff_lt_mul hp, ← e]; exact hx
  have h2 : x % 2 ^ k < 2 ^ k := Nat.mod_lt _ hp
  have h3 : (x % 2 ^ k + 1) * 2 ^ (32 - k) ≤ 2 ^ k * 2 ^ (32 - k) := Nat.mul_le_mul_right _ h2
  rw [Nat.add_mul, Nat.one_mul] at h3
  rw [e, Nat.mul_comm (2 ^ (32 - k))]
  omega
theorem rotZ_range (x n : Int) (h0 : 0 ≤ x) (h1 : x < 4294967296) : 0 ≤ rotZ x n ∧ rotZ x n < 4294967296 := by
  unfold rotZ
  have := rotN_lt x.toNat (n % 32).toNat (by omega) (by omega)
  omega
theorem shrZ_range (x n : Int) (h0 : 0 ≤ x) (h1 : x < 4294967296) : 0 ≤ shrZ x n ∧ shrZ x n < 4294967296 := by
  unfold shrZ
  have hp : (0 : Int) < 2 ^ (min n.toNat 32) := Int.pow_pos (by omega)
  refine ⟨Int.ediv_nonneg h0 (by omega), ?_⟩
  exact Int.lt_of_le_of_lt (Int.ediv_le_self _ h0) h1
theorem shrZ_zero (x n : Int) (h : n ≤ 0) : shrZ x n = x := by
  unfold shrZ
  rw [show min n.toNat 32 = 0 from by omega]; simp

/-- One place more. -/
theorem rotN_succ (x k : Nat) (hk : k < 32) : rotN x (k + 1) = rotN x k / 2 + rotN x k % 2 * 2147483648 := by
  unfold rotN
  have e1 : 2 ^ (k + 1) = 2 ^ k * 2 := Nat.pow_succ ..
  have e2 : 2 ^ (32 - k) = 2 ^ (32 - (k + 1)) * 2 := by rw [← Nat.pow_succ]; congr 1; omega
  have e3 : 2 ^ k * 2 ^ (32 - (k + 1)) = 2147483648 := by
    rw [← Nat.pow_add, show k + (32 - (k + 1)) = 31 from by omega]
  rw [e1, e2, ← Nat.div_div_eq_div_mul, Nat.mod_mul]
  generalize hq : x / 2 ^ k = q
  generalize hr : x % 2 ^ k = r
  generalize hM : 2 ^ (32 - (k + 1)) = M at *
  generalize hP : 2 ^ k = P at *
  have e4 : (r + P * (q % 2)) * M = r * M + q % 2 * 2147483648 := by
    rw [Nat.add_mul, ← e3, Nat.mul_comm P, Nat.mul_assoc]
  have e5 : r * (M * 2) = r * M * 2 := by rw [Nat.mul_assoc]
  rw [e4, e5]
  omega
/-- The two halves of a turn meet in no bit. -/
theorem or_split (x k : Nat) (hx : x < 2 ^ 32) (hk : k ≤ 31) :
    bits .or .u32 ((x : Int) / 2 ^ k) ((x : Int) * 2 ^ (32 - k) % 4294967296) = (rotN x k : Nat) := by
  have e : 2 ^ 32 = 2 ^ k * 2 ^ (32 - k) := by rw [← Nat.pow_add]; congr 1; omega
  have e1 : (x : Int) / 2 ^ k = ((x / 2 ^ k : Nat) : Int) := by simp
  have e2 : (x : Int) * 2 ^ (32 - k) % 4294967296 = ((x % 2 ^ k * 2 ^ (32 - k) : Nat) : Int) := by
    rw [← Nat.mul_mod_mul_right, ← e]; simp
  have hp : 0 < 2 ^ k := Nat.two_pow_pos k
  have h1 : x / 2 ^ k < 2 ^ (32 - k) := by rw [Nat.div_lt_iff_lt_mul hp, Nat.mul_comm, ← e]; exact hx
  have h3 := rotN_lt x k hx (by omega)
  unfold rotN at h3
  rw [e1, e2, u32_or_nat _ _ (by omega) (by omega)]
  unfold rotN
  congr 1
  have := Nat.two_pow_add_eq_or_of_lt h1 (x % 2 ^ k)
  rw [Nat.or_comm, Nat.mul_comm (x % 2 ^ k), ← this, Nat.add_comm]
end Go.Proofs.Ytjkindponhjadaa.Plain
