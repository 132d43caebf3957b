/- What the turns and shifts of the program and of the document's answer return: the same numbers. No condition but that the number is one of 32 bits. -/
import Derived.Test.YtjkindponhjadaaLib
namespace Go.Proofs.Ytjkindponhjadaa
open Go.ChangeShapes Go.WideShapes Go.ChangeAt Go.RowKit
set_option linter.unusedVariables false
open Plain

theorem ret_int {k : IntKind} {a b : Int} (h : a = b) : Ending.returned (.int k a) = .returned (.int k b) := by rw [h]
theorem mod_twice (n : Int) : (wrap64 (n.tmod 32 + 32)).tmod 32 = n % 32 := by
  have h : n.tmod 32 = if 0 ≤ n ∨ n % 32 = 0 then n % 32 else n % 32 - 32 := by
    rw [Int.tmod_eq_emod]
    by_cases h0 : 0 ≤ n
    · simp [h0]
    · by_cases h1 : n % 32 = 0
      · simp [h1, Int.dvd_of_emod_eq_zero h1]
      · have h2 : ¬ (32 : Int) ∣ n := fun h => h1 (Int.emod_eq_zero_of_dvd h)
        simp [h0, h1, h2]
  have hw : wrap64 (n.tmod 32 + 32) = n.tmod 32 + 32 := by unfold wrap64; split at h <;> omega
  rw [hw, Int.tmod_eq_emod_of_nonneg (by split at h <;> omega)]
  split at h <;> omega
theorem shr_any (x n : Int) (h0 : 0 ≤ x) (h1 : x < 4294967296) (w : World) :
    Calls Try.prog 13 #[.int .u32 x, .int .i64 n] w (Quiet (.int .u32 (shrZ x n)) w) := by
  by_cases hn : n < 0
  · have hz := Lib.hid (shrZ_zero x n (by omega))
    go_enter Try.func13, Try.ntmps13
    go_wp2
    go_ret
    exact ⟨ret_int hz.out.symm, 0, rfl⟩
  · have hn' : 0 ≤ n := by omega
    go_enter Try.func13, Try.ntmps13
    go_wp2
    go_ret
    exact ⟨rfl, 0, rfl⟩
theorem rot_of_or (x n : Int) (h0 : 0 ≤ x) (h1 : x < 4294967296) : bits BinOp.or IntKind.u32 (shrZ x (n % 32)) (x * 2 ^ (32 - n % 32).toNat % 4294967296) = rotZ x n := by
  obtain ⟨k, hk⟩ : ∃ k : Nat, n % 32 = k := ⟨(n % 32).toNat, by omega⟩
  obtain ⟨y, rfl⟩ := Int.eq_ofNat_of_zero_le h0
  have := or_split y k (by omega) (by omega)
  unfold rotZ shrZ
  rw [hk]
  rw [show min (k : Int).toNat 32 = k from by omega, show (32 - (k : Int)).toNat = 32 - k from by omega, this]
  rfl
theorem rotr_any (x n : Int) (h0 : 0 ≤ x) (h1 : x < 4294967296) (w : World) :
    Calls Try.prog 11 #[.int .u32 x, .int .i64 n] w (Quiet (.int .u32 (rotZ x n)) w) := by
  have hb := and31 n
  have hk0 : 0 ≤ n % 32 := by omega
  have hk1 : n % 32 < 32 := by omega
  have hs := shrZ_range x (n % 32) h0 h1
  go_enter Try.func11, Try.ntmps11
  go_wp2
  go_quiet ((go_at_call 13; exact quiet_at (shr_any _ _ h0 h1)))
  go_wp2
  go_ret
  exact ⟨ret_int (rot_of_or x n h0 h1), _, rfl⟩
theorem refrotr_any (x n : Int) (h0 : 0 ≤ x) (h1 : x < 4294967296) (w : World) :
    Calls Try.prog 12 #[.int .u32 x, .int .i64 n] w (Quiet (.int .u32 (rotZ x n)) w) := by
  obtain ⟨y, rfl⟩ := Int.eq_ofNat_of_zero_le h0
  have hm := mod_twice n
  obtain ⟨j, hj, hj2⟩ : ∃ j : Nat, n % 32 = j ∧ j < 32 := ⟨(n % 32).toNat, by omega, by omega⟩
  have hfin : rotZ y n = (rotN y j : Nat) := by unfold rotZ; rw [hj]; rfl
  rw [hj] at hm
  have HF := Lib.hid hfin
  clear hfin hj
  have h0' := rotN_zero y
  have HZ := Lib.hid h0'
  clear h0'
  go_enter Try.func12, Try.ntmps12
  go_wp2
  clear hm
  go_loop [0, 5] (fun x i => ∃ k : Nat, k ≤ j ∧ i = .int .i64 k ∧ x = .int .u32 (rotN y k : Nat)) (fun _ i => j - (intOf i).toNat)
  case atStart => exact ⟨0, by omega, rfl, by rw [HZ.out]⟩
  case round =>
    obtain ⟨k, hk, rfl, rfl⟩ := hrel
    have HS := Lib.hid (rotN_succ y k (by omega))
    have hlt := rotN_lt y k (by omega) (by omega)
    by_cases hkj : k < j
    · generalize hr : rotN y k = r at *
      have HR := Lib.hid hr
      clear hr
      have b1 : (r : Int) < 4294967296 := by omega
      have b2 : (0 : Int) ≤ (r : Int) % 2 := by omega
      have b3 : (r : Int) % 2 ≤ 1 := by omega
      go_wp2
      go_round
      case rel => exact ⟨k + 1, by omega, by go_num, by rw [HS.out]; go_num⟩
      case measure => simp [intOf]; omega
    · have hkj' : k = j := by omega
      have HK := Lib.hid hkj'
      clear hkj'
      go_wp2
      go_ret
      exact ⟨ret_int (by rw [HF.out, HK.out]), 0, rfl⟩
theorem div_pow_succ (x : Int) (k : Nat) (h0 : 0 ≤ x) : x / 2 ^ k / 2 = x / 2 ^ (k + 1) := by
  rw [Int.ediv_ediv_of_nonneg (Int.le_of_lt (Int.pow_pos (by omega))), Int.pow_succ]
theorem refshr_any (x n : Int) (h0 : 0 ≤ x) (h1 : x < 4294967296) (w : World) :
    Calls Try.prog 14 #[.int .u32 x, .int .i64 n] w (Quiet (.int .u32 (shrZ x n)) w) := by
  go_enter Try.func14, Try.ntmps14
  go_wp2
  go_loop [0, 5] (fun v i => ∃ k : Nat, k ≤ min n.toNat 32 ∧ i = .int .i64 k ∧ ∃ u : Int, 0 ≤ u ∧ u < 4294967296 ∧ v = .int .u32 u ∧ Hid (u = x / 2 ^ k)) (fun _ i => 32 - (intOf i).toNat)
  case atStart => exact ⟨0, by omega, rfl, x, h0, h1, rfl, Lib.hid (by simp)⟩
  case round =>
    obtain ⟨k, hk, rfl, u, hu0, hu1, rfl, HU⟩ := hrel
    by_cases hlt : k < min n.toNat 32
    · have ha : (k : Int) < n := by omega
      have hb : (k : Int) < 32 := by omega
      go_wp2
      go_round
      case rel => exact ⟨k + 1, by omega, by go_num, u / 2, by omega, by omega, rfl, Lib.hid (by rw [HU.out]; exact div_pow_succ x k h0)⟩
      case measure => simp [intOf]; omega
    · have hfin : u = shrZ x n := by
        rw [HU.out]; unfold shrZ; congr 2; omega
      have HF := Lib.hid hfin
      clear hfin
      by_cases ha : (k : Int) < n
      · have hb : ¬ (k : Int) < 32 := by omega
        go_wp2
        go_ret
        exact ⟨ret_int HF.out, 0, rfl⟩
      · have ha' : decide ((k : Int) < n) = false := by simpa using ha
        go_wp2
        go_ret
        exact ⟨ret_int HF.out, 0, rfl⟩
end Go.Proofs.Ytjkindponhjadaa
