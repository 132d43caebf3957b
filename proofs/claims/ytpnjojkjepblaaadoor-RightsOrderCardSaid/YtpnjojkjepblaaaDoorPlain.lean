/- Plain facts on numbers: turns and shifts of 32 bits, bytes of numbers. Nothing of the program is imported but its rows' module (for the name). -/
import Derived.Laws.BitsAllLaws
import Derived.Below
namespace Go.Proofs.YtpnjojkjepblaaaDoor.Plain
set_option linter.unusedVariables false

theorem and31 (n : Int) : bits .and .i64 n 31 = n % 32 := by
  show IntKind.i64.wrap ((BitVec.ofInt 64 n &&& BitVec.ofInt 64 31).toNat : Int) = _
  rw [BitVec.toNat_and]
  have h31 : (BitVec.ofInt 64 31).toNat = 2 ^ 5 - 1 := by decide
  rw [h31, Nat.and_two_pow_sub_one_eq_mod, BitVec.toNat_ofInt, IntKind.wrap_i64]
  omega

/-- x turned by k places (k below 32), as the sum of its two parts. -/
def rotN (x k : Nat) : Nat := x / 2 ^ k + (x % 2 ^ k) * 2 ^ (32 - k)
def rotZ (x n : Int) : Int := (rotN x.toNat (n % 32).toNat : Nat)
def shrZ (x n : Int) : Int := x / 2 ^ (min n.toNat 32)

theorem rotN_zero (x : Nat) : rotN x 0 = x := by simp [rotN, Nat.mod_one]
theorem rotN_lt (x k : Nat) (hx : x < 2 ^ 32) (hk : k ≤ 32) : rotN x k < 2 ^ 32 := by
  unfold rotN
  have e : 2 ^ 32 = 2 ^ (32 - k) * 2 ^ k := by rw [← Nat.pow_add]; congr 1; omega
  have hp : 0 < 2 ^ k := Nat.two_pow_pos k
  have h1 : x / 2 ^ k < 2 ^ (32 - k) := by rw [Nat.div_lt_iff_lt_mul hp, ← e]; exact hx
  have h2 : x % 2 ^ k < 2 ^ k := Nat.mod_lt _ hp
  have h3 : (x % 2 ^ k + 1) * 2 ^ (32 - k) ≤ 2 ^ k * 2 ^ (32 - k) := Nat.mul_le_mul_right _ h2
  rw [Nat.add_mul, Nat.one_mul] at h3
  rw [e, Nat.mul_comm (2 ^ (32 - k))]
  omega
theorem rotZ_range (x n : Int) (h0 : 0 ≤ x) (h1 : x < 4294967296) : 0 ≤ rotZ x n ∧ rotZ x n < 4294967296 := by
  unfold rotZ
  have := rotN_lt x.toNat (n % 32).toNat (by omega) (by omega)
  omega
theorem shrZ_range (x n : Int) (h0 : 0 ≤ x) (h1 : x < 4294967296) : 0 ≤ shrZ x n ∧ shrZ x n < 4294967296 := by
  unfold shrZ
  have hp : (0 : Int) < 2 ^ (min n.toNat 32) := Int.pow_pos (by omega)
  refine ⟨Int.ediv_nonneg h0 (by omega), ?_⟩
  exact Int.lt_of_le_of_lt (Int.ediv_le_self _ h0) h1
theorem shrZ_zero (x n : Int) (h : n ≤ 0) : shrZ x n = x := by
  unfold shrZ
  rw [show min n.toNat 32 = 0 from by omega]; simp

/-- One place more. -/
theorem rotN_succ (x k : Nat) (hk : k < 32) : rotN x (k + 1) = rotN x k / 2 + rotN x k % 2 * 2147483648 := by
  unfold rotN
  have e1 : 2 ^ (k + 1) = 2 ^ k * 2 := Nat.pow_succ ..
  have e2 : 2 ^ (32 - k) = 2 ^ (32 - (k + 1)) * 2 := by rw [← Nat.pow_succ]; congr 1; omega
  have e3 : 2 ^ k * 2 ^ (32 - (k + 1)) = 2147483648 := by
    rw [← Nat.pow_add, show k + (32 - (k + 1)) = 31 from by omega]
  rw [e1, e2, ← Nat.div_div_eq_div_mul, Nat.mod_mul]
  generalize hq : x / 2 ^ k = q
  generalize hr : x % 2 ^ k = r
  generalize hM : 2 ^ (32 - (k + 1)) = M at *
  generalize hP : 2 ^ k = P at *
  have e4 : (r + P * (q % 2)) * M = r * M + q % 2 * 2147483648 := by
    rw [Nat.add_mul, ← e3, Nat.mul_comm P, Nat.mul_assoc]
  have e5 : r * (M * 2) = r * M * 2 := by rw [Nat.mul_assoc]
  rw [e4, e5]
  omega
/-- The two halves of a turn meet in no bit. -/
theorem or_split (x k : Nat) (hx : x < 2 ^ 32) (hk : k ≤ 31) :
    bits .or .u32 ((x : Int) / 2 ^ k) ((x : Int) * 2 ^ (32 - k) % 4294967296) = (rotN x k : Nat) := by
  have e : 2 ^ 32 = 2 ^ k * 2 ^ (32 - k) := by rw [← Nat.pow_add]; congr 1; omega
  have e1 : (x : Int) / 2 ^ k = ((x / 2 ^ k : Nat) : Int) := by simp
  have e2 : (x : Int) * 2 ^ (32 - k) % 4294967296 = ((x % 2 ^ k * 2 ^ (32 - k) : Nat) : Int) := by
    rw [← Nat.mul_mod_mul_right, ← e]; simp
  have hp : 0 < 2 ^ k := Nat.two_pow_pos k
  have h1 : x / 2 ^ k < 2 ^ (32 - k) := by rw [Nat.div_lt_iff_lt_mul hp, Nat.mul_comm, ← e]; exact hx
  have h3 := rotN_lt x k hx (by omega)
  unfold rotN at h3
  rw [e1, e2, u32_or_nat _ _ (by omega) (by omega)]
  unfold rotN
  congr 1
  have := Nat.two_pow_add_eq_or_of_lt h1 (x % 2 ^ k)
  rw [Nat.or_comm, Nat.mul_comm (x % 2 ^ k), ← this, Nat.add_comm]

/-- The number whose digits, of base 256, are the list's, the greatest ahead. -/
def numZ (l : List Int) : Int := l.foldl (fun x z => x * 256 + z) 0
theorem numZ_snoc (l : List Int) (z : Int) : numZ (l ++ [z]) = numZ l * 256 + z := by simp [numZ, List.foldl_append]
def AllB (l : List Int) : Prop := ∀ z, z ∈ l → 0 ≤ z ∧ z < 256
theorem fold_range (l : List Int) : ∀ acc m : Int, 0 ≤ acc → acc + 1 ≤ m → AllB l → 0 ≤ l.foldl (fun x z => x * 256 + z) acc ∧ l.foldl (fun x z => x * 256 + z) acc + 1 ≤ m * 256 ^ l.length := by
  induction l with
  | nil => intro acc m h0 h1 _; simp; omega
  | cons z l ih =>
    intro acc m h0 h1 h
    have hz := h z (by simp)
    have := ih (acc * 256 + z) (m * 256) (by omega) (by omega) (fun y hy => h y (by simp [hy]))
    rw [List.foldl_cons, List.length_cons, Int.pow_succ, Int.mul_comm (256 ^ l.length), ← Int.mul_assoc]
    exact this
theorem numZ_range (l : List Int) (h : AllB l) : 0 ≤ numZ l ∧ numZ l < 256 ^ l.length := by
  have := fold_range l 0 1 (by omega) (by omega) h
  rw [Int.one_mul] at this
  exact ⟨this.1, by unfold numZ; omega⟩
theorem pow256_le (a b : Nat) (h : a ≤ b) : (256 : Int) ^ a ≤ 256 ^ b := by
  obtain ⟨k, rfl⟩ := Nat.exists_eq_add_of_le h
  have h1 : (0 : Int) < 256 ^ k := Int.pow_pos (by omega)
  have h2 : (0 : Int) < 256 ^ a := Int.pow_pos (by omega)
  have := Int.mul_le_mul_of_nonneg_left (show (1 : Int) ≤ 256 ^ k by omega) (show (0 : Int) ≤ 256 ^ a by omega)
  rw [Int.pow_add]; omega
def loadOk (len : Nat) (at_ : Int) (s : Nat) : Bool := decide (0 ≤ at_ ∧ at_ + s ≤ len)
def loadZ (zs : List Int) (at_ : Int) (s : Nat) : Int := if loadOk zs.length at_ s = true then numZ ((zs.drop at_.toNat).take s) else 0
theorem loadZ_yes (zs : List Int) (a s : Nat) (h : a + s ≤ zs.length) : loadZ zs a s = numZ ((zs.drop a).take s) := by
  unfold loadZ loadOk
  rw [if_pos (by simp; omega)]; simp
theorem loadOk_yes (n a s : Nat) (h : a + s ≤ n) : loadOk n a s = true := by unfold loadOk; simp; omega
theorem loadOk_no (n : Nat) (a : Int) (s : Nat) (h : a < 0 ∨ (n : Int) < a + s) : loadOk n a s = false := by unfold loadOk; simp; omega
theorem loadZ_no (zs : List Int) (a : Int) (s : Nat) (h : a < 0 ∨ (zs.length : Int) < a + s) : loadZ zs a s = 0 := by
  unfold loadZ; rw [loadOk_no _ _ _ h]; simp
theorem numZ_piece (zs : List Int) (a k : Nat) (u1 : Int) (h : a + k < zs.length) (hu : zs.getD (a + k) 0 = u1) :
    numZ ((zs.drop a).take (k + 1)) = numZ ((zs.drop a).take k) * 256 + u1 := by
  have hl : k < (zs.drop a).length := by simp; omega
  rw [List.take_succ_eq_append_getElem hl, numZ_snoc]
  congr 1
  rw [← hu]
  simp [List.getD_eq_getElem?_getD, List.getElem?_eq_getElem h]
theorem allB_piece (zs : List Int) (a k : Nat) (h : ∀ j, j < zs.length → 0 ≤ zs.getD j 0 ∧ zs.getD j 0 < 256) : AllB ((zs.drop a).take k) := by
  intro z hz
  have hz' := List.mem_of_mem_drop (List.mem_of_mem_take hz)
  obtain ⟨j, hj, rfl⟩ := List.mem_iff_getElem.1 hz'
  have := h j hj
  simpa [List.getD_eq_getElem?_getD, List.getElem?_eq_getElem hj] using this
theorem numZ_piece_range (zs : List Int) (a k m : Nat) (hk : k ≤ m) (h : ∀ j, j < zs.length → 0 ≤ zs.getD j 0 ∧ zs.getD j 0 < 256) : 0 ≤ numZ ((zs.drop a).take k) ∧ numZ ((zs.drop a).take k) < 256 ^ m := by
  have h1 := numZ_range _ (allB_piece zs a k h)
  have h2 := pow256_le ((zs.drop a).take k).length m (by simp; omega)
  omega
theorem loadZ_range (zs : List Int) (a : Int) (s : Nat) (h : ∀ j, j < zs.length → 0 ≤ zs.getD j 0 ∧ zs.getD j 0 < 256) : 0 ≤ loadZ zs a s ∧ loadZ zs a s < 256 ^ s := by
  unfold loadZ
  have := pow256_le 0 s (by omega)
  split
  · exact numZ_piece_range zs _ s s (by omega) h
  · omega
theorem or_byte (u z : Int) (hu : 0 ≤ u) (hu1 : u < 72057594037927936) (hz : 0 ≤ z) (hz1 : z < 256) :
    bits .or .u64 (IntKind.u64.wrap (u * 256)) z = u * 256 + z := by
  obtain ⟨x, rfl⟩ := Int.eq_ofNat_of_zero_le hu
  obtain ⟨y, rfl⟩ := Int.eq_ofNat_of_zero_le hz
  have hw : IntKind.u64.wrap ((x : Int) * 256) = ((x * 256 : Nat) : Int) := by rw [IntKind.wrap_u64]; omega
  rw [hw, u64_or_nat _ _ (by omega) (by omega)]
  have := Nat.two_pow_add_eq_or_of_lt (i := 8) (b := y) (by omega) x
  rw [show x * 256 = 2 ^ 8 * x from by omega, ← this]
  omega
theorem mul_byte (u z : Int) (hu : 0 ≤ u) (hu1 : u < 72057594037927936) (hz : 0 ≤ z) (hz1 : z < 256) :
    IntKind.u64.wrap (IntKind.u64.wrap (256 * u) + z) = u * 256 + z := by
  rw [IntKind.wrap_u64, IntKind.wrap_u64]; omega
end Go.Proofs.YtpnjojkjepblaaaDoor.Plain
