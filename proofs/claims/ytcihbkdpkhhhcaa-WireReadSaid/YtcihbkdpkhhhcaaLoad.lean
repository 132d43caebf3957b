/- What the functions that load numbers return: of a slice that reads as bytes, the number at the place, where it is there whole. -/
import Derived.Test.YtcihbkdpkhhhcaaSame
namespace Go.Proofs.Ytcihbkdpkhhhcaa
open Go.ChangeShapes Go.WideShapes Go.ChangeAt Go.RowKit
set_option linter.unusedVariables false
open Plain
theorem Bs.rng' {w : World} {B n : Nat} {A : Option Addr} {zs : List Int} (h : Bs w B A n zs) : ∀ j, j < zs.length → 0 ≤ zs.getD j 0 ∧ zs.getD j 0 < 256 := fun j hj => h.rng j (by rw [← h.len]; exact hj)
theorem ret_load {a b : Int} {c d : Bool} (h : a = b) (h2 : c = d) : Ending.returned (.tuple #[.int .u64 a, .bool c]) = .returned (.tuple #[.int .u64 b, .bool d]) := by rw [h, h2]
theorem ret_load32 {a b : Int} {c d : Bool} (h : a = b) (h2 : c = d) : Ending.returned (.tuple #[.int .u32 a, .bool c]) = .returned (.tuple #[.int .u32 b, .bool d]) := by rw [h, h2]
theorem load_any {B : Nat} {A : Option Addr} {n : Nat} (c : Nat) {zs : List Int} {w : World} (h : Bs w B A n zs) (hn : n ≤ maxLen) (at_ : Int) (hat : -9223372036854775808 ≤ at_ ∧ at_ ≤ 9223372036854775807) (s : Nat) (hs : s ≤ 8) :
    Calls Try.prog 75 #[.slice A n c, .int .i64 at_, .int .i64 s] w (Quiet (.tuple #[.int .u64 (loadZ zs at_ s), .bool (loadOk n at_ s)]) w) := by
  unfold maxLen at hn
  by_cases ha : at_ < 0
  · have H1 := Lib.hid (loadZ_no zs at_ s (.inl ha))
    have H2 := Lib.hid (loadOk_no n at_ s (.inl ha))
    go_enter Try.func75, Try.ntmps75
    go_wp2
    go_ret2
    exact ⟨ret_load H1.out.symm H2.out.symm, 0, rfl⟩
  have hr := Lib.hid h.rng'
  have hl := h.len
  obtain ⟨a, rfl⟩ := Int.eq_ofNat_of_zero_le (Int.not_lt.1 ha)
  by_cases hb : (n : Int) - s < a
  · have H1 := Lib.hid (loadZ_no zs a s (.inr (by omega)))
    have H2 := Lib.hid (loadOk_no n a s (.inr (by omega)))
    have HL := Lib.hid hl
    clear hl ha
    go_enter Try.func75, Try.ntmps75
    go_wp2
    go_ret2
    exact ⟨ret_load H1.out.symm H2.out.symm, 0, rfl⟩
  have H1 := Lib.hid (loadZ_yes zs a s (by omega))
  have H2 := Lib.hid (loadOk_yes n a s (by omega))
  have HL := Lib.hid hl
  clear hl ha
  go_enter Try.func75, Try.ntmps75
  go_wp2
  go_loop [8, 21] (fun x i => ∃ k : Nat, k ≤ s ∧ i = .int .i64 k ∧ ∃ u : Int, 0 ≤ u ∧ u < 18446744073709551616 ∧ x = .int .u64 u ∧ Hid (numZ ((zs.drop a).take k) = u)) (fun _ i => s - (intOf i).toNat)
  case atStart => exact ⟨0, by omega, rfl, 0, by omega, by omega, rfl, Lib.hid (by simp [numZ])⟩
  case round =>
    obtain ⟨k, hk, rfl, u, hu0, hu1, rfl, HU⟩ := hrel
    by_cases hlt : k < s
    · obtain ⟨b1, o1, u1, rfl, _, HU1, hu1, hu1', hc1⟩ := h.at_ (k := a + k) (by omega)
      have hp := numZ_piece_range zs a k 7 (by omega) hr.out
      rw [HU.out] at hp
      have HB := Lib.hid (or_byte u u1 hu0 (by omega) hu1 hu1')
      have HN := Lib.hid (numZ_piece zs a k u1 (by rw [HL.out]; omega) HU1.out)
      have hv : Hid (0 ≤ u * 256 + u1 ∧ u * 256 + u1 < 18446744073709551616) := Lib.hid (by omega)
      clear hp
      go_wp2
      go_round
      case rel => exact ⟨k + 1, by omega, by go_num, u * 256 + u1, hv.out.1, hv.out.2, by rw [HB.out], Lib.hid (by rw [HN.out, HU.out])⟩
      case measure => simp [intOf]; omega
    · have hks : k = s := by omega
      have HK := Lib.hid (show numZ ((zs.drop a).take s) = u by rw [← hks]; exact HU.out)
      clear hks
      go_wp2
      go_ret2
      exact ⟨ret_load (by rw [H1.out, HK.out]) H2.out.symm, 0, rfl⟩
theorem refload_any {B : Nat} {A : Option Addr} {n : Nat} (c : Nat) {zs : List Int} {w : World} (h : Bs w B A n zs) (hn : n ≤ maxLen) (at_ : Int) (hat : -9223372036854775808 ≤ at_ ∧ at_ ≤ 9223372036854775807) (s : Nat) (hs : s ≤ 8) :
    Calls Try.prog 70 #[.slice A n c, .int .i64 at_, .int .i64 s] w (Quiet (.tuple #[.int .u64 (loadZ zs at_ s), .bool (loadOk n at_ s)]) w) := by
  unfold maxLen at hn
  by_cases ha : at_ < 0
  · have H1 := Lib.hid (loadZ_no zs at_ s (.inl ha))
    have H2 := Lib.hid (loadOk_no n at_ s (.inl ha))
    go_enter Try.func70, Try.ntmps70
    go_wp2
    go_ret2
    exact ⟨ret_load H1.out.symm H2.out.symm, 0, rfl⟩
  have hr := Lib.hid h.rng'
  have hl := h.len
  obtain ⟨a, rfl⟩ := Int.eq_ofNat_of_zero_le (Int.not_lt.1 ha)
  by_cases hb : (n : Int) - s < a
  · have H1 := Lib.hid (loadZ_no zs a s (.inr (by omega)))
    have H2 := Lib.hid (loadOk_no n a s (.inr (by omega)))
    have HL := Lib.hid hl
    clear hl ha
    by_cases hb2 : (n : Int) < a
    · go_enter Try.func70, Try.ntmps70
      go_wp2
      go_ret2
      exact ⟨ret_load H1.out.symm H2.out.symm, 0, rfl⟩
    · have hb3 : (n : Int) - a < s := by omega
      go_enter Try.func70, Try.ntmps70
      go_wp2
      go_ret2
      exact ⟨ret_load H1.out.symm H2.out.symm, 0, rfl⟩
  have H1 := Lib.hid (loadZ_yes zs a s (by omega))
  have H2 := Lib.hid (loadOk_yes n a s (by omega))
  have HL := Lib.hid hl
  have hb2 : ¬ (n : Int) < a := by omega
  have hb3 : ¬ (n : Int) - a < s := by omega
  have hb4 : (a : Int) + s ≤ n := by omega
  clear hl ha
  go_enter Try.func70, Try.ntmps70
  go_wp2
  go_loop [8, 9] (fun x i => ∃ k : Nat, k ≤ s ∧ i = .int .i64 (a + k : Nat) ∧ ∃ u : Int, 0 ≤ u ∧ u < 18446744073709551616 ∧ x = .int .u64 u ∧ Hid (numZ ((zs.drop a).take k) = u)) (fun _ i => a + s - (intOf i).toNat)
  case atStart => exact ⟨0, by omega, rfl, 0, by omega, by omega, rfl, Lib.hid (by simp [numZ])⟩
  case round =>
    obtain ⟨k, hk, rfl, u, hu0, hu1, rfl, HU⟩ := hrel
    by_cases hlt : k < s
    · obtain ⟨b1, o1, u1, rfl, _, HU1, hu1, hu1', hc1⟩ := h.at_ (k := a + k) (by omega)
      have hp := numZ_piece_range zs a k 7 (by omega) hr.out
      rw [HU.out] at hp
      have HB := Lib.hid (mul_byte u u1 hu0 (by omega) hu1 hu1')
      have HN := Lib.hid (numZ_piece zs a k u1 (by rw [HL.out]; omega) HU1.out)
      have hv : Hid (0 ≤ u * 256 + u1 ∧ u * 256 + u1 < 18446744073709551616) := Lib.hid (by omega)
      clear hp
      go_wp2
      go_round
      case rel => exact ⟨k + 1, by omega, by go_num, u * 256 + u1, hv.out.1, hv.out.2, by rw [HB.out], Lib.hid (by rw [HN.out, HU.out])⟩
      case measure => simp [intOf]; omega
    · have hks : k = s := by omega
      have HK := Lib.hid (show numZ ((zs.drop a).take s) = u by rw [← hks]; exact HU.out)
      clear hks
      go_wp2
      go_ret2
      exact ⟨ret_load (by rw [H1.out, HK.out]) H2.out.symm, 0, rfl⟩
end Go.Proofs.Ytcihbkdpkhhhcaa
