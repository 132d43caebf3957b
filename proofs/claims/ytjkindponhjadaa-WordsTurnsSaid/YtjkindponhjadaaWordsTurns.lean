/- The walk of WordsTurns: turns add up, lead back, are two shifts together. -/
import Derived.Test.YtjkindponhjadaaAwake
namespace Go.Proofs.Ytjkindponhjadaa
open Go.ChangeShapes Go.WideShapes Go.ChangeAt Go.RowKit
set_option linter.unusedVariables false
open Plain
theorem rotN_full (x : Nat) (hx : x < 2 ^ 32) : rotN x 32 = x := by
  unfold rotN; rw [Nat.div_eq_of_lt hx, Nat.mod_eq_of_lt hx]; simp
theorem rotN_add (x a : Nat) (hx : x < 2 ^ 32) (ha : a < 32) : ∀ b, b < 32 → rotN (rotN x a) b = rotN x ((a + b) % 32) := by
  intro b
  induction b with
  | zero => intro _; rw [rotN_zero, Nat.add_zero, Nat.mod_eq_of_lt ha]
  | succ b ih =>
    intro hb
    rw [rotN_succ _ _ (by omega), ih (by omega), ← rotN_succ _ _ (by omega)]
    by_cases h : (a + b) % 32 + 1 = 32
    · rw [h, rotN_full x hx, show (a + (b + 1)) % 32 = 0 from by omega, rotN_zero]
    · rw [show (a + (b + 1)) % 32 = (a + b) % 32 + 1 from by omega]
theorem rotZ_add (x n m : Int) (h0 : 0 ≤ x) (h1 : x < 4294967296) : rotZ (rotZ x n) m = rotZ x (n + m) := by
  unfold rotZ
  rw [Int.toNat_natCast, rotN_add _ _ (by omega) (by omega) _ (by omega)]
  congr 2
  omega
theorem rotZ_back (x n : Int) (h0 : 0 ≤ x) (h1 : x < 4294967296) : rotZ (rotZ x n) (-n) = x := by
  rw [rotZ_add x n (-n) h0 h1, Int.add_right_neg]
  unfold rotZ
  rw [show ((0 : Int) % 32).toNat = 0 from rfl, rotN_zero]; omega
theorem or_zero_u32 (x : Int) (h0 : 0 ≤ x) (h1 : x < 4294967296) : bits BinOp.or IntKind.u32 x 0 = x := by
  rw [u32_or x 0 h0 h1 (by omega) (by omega)]; simp; omega
theorem wordsTurns_walk (a0 : Int) (a1 : Int) (a2 : Int) (w0 : (Lit.int .u32 a0).wf = true) (w1 : (Lit.int .i64 a1).wf = true) (w2 : (Lit.int .i64 a2).wf = true) (w : World) :
    Calls Try.prog 8 #[.int .u32 a0, .int .i64 a1, .int .i64 a2] w fun e w' => e = .returned (.bool true) ∧ Below w.heap.size w w' := by
  obtain ⟨h0, h1⟩ := wf_u32' w0
  have hA := wf_i64 w1
  have hB := wf_i64 w2
  clear w0 w1 w2
  by_cases hr : 0 ≤ a1 ∧ a1 ≤ 1000 ∧ 0 ≤ a2 ∧ a2 ≤ 1000
  · obtain ⟨r1, r2, r3, r4⟩ := hr
    have E1 := rotZ_add a0 a1 a2 h0 h1
    have E2 := rotZ_back a0 a1 h0 h1
    have hR := rotZ_range a0 a1 h0 h1
    have E3 := rot_of_or a0 a1 h0 h1
    by_cases hk : a1 % 32 = 0
    · have E4 : rotZ a0 a1 = a0 := by unfold rotZ; rw [hk, show (0 : Int).toNat = 0 from rfl, rotN_zero]; omega
      have E5 := shrZ_zero a0 0 (by omega)
      have E6 := or_zero_u32 a0 h0 h1
      rw [E4] at E1 E2
      clear hA hB E3 hR
      go_enter Try.func8, Try.ntmps8
      go_wp2_with (first
        | (go_at_call 28; refine (awake_any w).mono ?_; rintro e w1 ⟨rfl, hb⟩)
        | (go_at_call 11; refine (rotr_any _ _ (by omega) (by omega) _).mono ?_; rintro e w' ⟨rfl, m, rfl⟩)
        | (go_at_call 13; refine (shr_any _ _ (by omega) (by omega) _).mono ?_; rintro e w' ⟨rfl, m, rfl⟩))
      go_ret
      exact ⟨rfl, below_drewN hb _⟩
    · have hk0 : 0 < a1 % 32 := by omega
      have hk1 : a1 % 32 < 32 := by omega
      clear hA hB hk
      go_enter Try.func8, Try.ntmps8
      go_wp2_with (first
        | (go_at_call 28; refine (awake_any w).mono ?_; rintro e w1 ⟨rfl, hb⟩)
        | (go_at_call 11; refine (rotr_any _ _ (by omega) (by omega) _).mono ?_; rintro e w' ⟨rfl, m, rfl⟩)
        | (go_at_call 13; refine (shr_any _ _ (by omega) (by omega) _).mono ?_; rintro e w' ⟨rfl, m, rfl⟩))
      go_ret
      exact ⟨rfl, below_drewN hb _⟩
  · by_cases t1 : a1 < 0
    · clear hr hA hB
      go_enter Try.func8, Try.ntmps8
      go_wp2_with (go_at_call 28; refine (awake_any w).mono ?_; rintro e w1 ⟨rfl, hb⟩)
      go_ret
      exact ⟨rfl, hb⟩
    by_cases t2 : 1000 < a1
    · clear hr hA hB
      go_enter Try.func8, Try.ntmps8
      go_wp2_with (go_at_call 28; refine (awake_any w).mono ?_; rintro e w1 ⟨rfl, hb⟩)
      go_ret
      exact ⟨rfl, hb⟩
    by_cases t3 : a2 < 0
    · clear hr hA hB
      go_enter Try.func8, Try.ntmps8
      go_wp2_with (go_at_call 28; refine (awake_any w).mono ?_; rintro e w1 ⟨rfl, hb⟩)
      go_ret
      exact ⟨rfl, hb⟩
    · have t4 : 1000 < a2 := by omega
      clear hr hA hB
      go_enter Try.func8, Try.ntmps8
      go_wp2_with (go_at_call 28; refine (awake_any w).mono ?_; rintro e w1 ⟨rfl, hb⟩)
      go_ret
      exact ⟨rfl, hb⟩
end Go.Proofs.Ytjkindponhjadaa
