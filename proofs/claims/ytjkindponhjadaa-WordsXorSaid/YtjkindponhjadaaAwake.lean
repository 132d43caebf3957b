/- The chapter's examples, as the law asks them, hold. -/
import Derived.Test.YtjkindponhjadaaWords
namespace Go.Proofs.Ytjkindponhjadaa
open Go.ChangeShapes Go.WideShapes Go.ChangeAt Go.RowKit
set_option linter.unusedVariables false
open Plain
theorem loads_examples : loadZ [1, 2, 3, 4] 0 4 = 16909060 ∧ loadOk 4 0 4 = true ∧ loadOk 4 1 4 = false ∧ loadZ [0, 0, 0, 0, 0, 0, 0, 1] 0 8 = 1 ∧ loadOk 8 0 8 = true := by decide
set_option maxHeartbeats 2000000 in
theorem awake_any (w : World) : Calls Try.prog 28 #[] w fun e w' => e = .returned (.bool true) ∧ Below w.heap.size w w' := by
  have e1 : putZ 16909060 4 = [1, 2, 3, 4] := by decide
  have c1 := put32_any 16909060 (by omega) (by omega) w
  rw [e1] at c1
  have C1 := Lib.hid c1
  clear c1 e1
  go_enter Try.func28, Try.ntmps28
  go_wp2_with fail
  refine C1.out.mono ?_
  intro e w1 hm
  obtain ⟨A, c, rfl, ho, hb, _, hc⟩ := hm.n (n := 4) rfl
  have B1 := Made.bs ho (show IsBytes [1, 2, 3, 4] by unfold IsBytes; decide)
  obtain ⟨b1, o1, rfl, hlt1, hcells⟩ := B1.row (by omega)
  have hc0 : w1.cell? ⟨b1, o1, none⟩ = some (.int .u8 1) := hcells 0 (by omega)
  have hc3 : w1.cell? ⟨b1, o1 + 3, none⟩ = some (.int .u8 4) := hcells 3 (by omega)
  clear hcells hm
  have e1 : loadZ [1, 2, 3, 4] 0 4 = 16909060 := by decide
  have e2 : loadOk 4 0 4 = true := by decide
  have e3 : loadZ [1, 2, 3, 4] 1 4 = 0 := by decide
  have e4 : loadOk 4 1 4 = false := by decide
  go_wp2_with fail
  refine (load32_any c B1 (by simp [maxLen]) 0 (by omega)).mono ?_
  rintro e w2 ⟨rfl, m2, rfl⟩
  go_wp2_with fail
  refine (load32_any c (B1.drewN _) (by simp [maxLen]) 1 (by omega)).mono ?_
  rintro e w2 ⟨rfl, m3, rfl⟩
  have e5 : loadZ [0, 0, 0, 0, 0, 0, 0, 1] 0 8 = 1 := by decide
  have e6 : loadOk 8 0 8 = true := by decide
  go_wp2_with fail
  refine (load64_any 8 (bs_new (w1.drewN (m2 + m3)) [0, 0, 0, 0, 0, 0, 0, 1] 8 rfl (by unfold IsBytes; decide) 5 w1.heap.size rfl) (by simp [maxLen]) 0 (by omega)).mono ?_
  rintro e w2 ⟨rfl, hq⟩
  have hb2 : Below w.heap.size w w2 := by
    obtain ⟨m, rfl⟩ := hq
    exact below_drewN ((below_drewN hb _).alloc hb.size _) _
  clear hq hb ho B1 hc0 hc3 hlt1 e1 e2
  go_wp2_with fail
  refine (cat3_any 1 0 2 25 ((bs_new w2 [1] 1 rfl (by unfold IsBytes; decide) 5 w2.heap.size rfl).alloc (by simp) _) (Bs.nil (B := 0)) (bs_new (w2.alloc (.cells #[.int .u8 1] 5)) [2, 3] 2 rfl (by unfold IsBytes; decide) 5 (w2.heap.size + 1) (by simp)) (by simp) (by omega) (by simp) (by omega) 3 (w2.heap.size + 1 + 1) (by simp)).mono ?_
  intro e w3 hm
  obtain ⟨A, c2, rfl, ho, hb, _, hc⟩ := hm.n (n := 3) rfl
  have hb3 : Below w.heap.size w w3 := by
    refine ((((hb2.alloc hb2.size _).alloc ?_ _).alloc ?_ _)).trans (hb.mono ?_) <;> (have := hb2.size; simp; omega)
  have B3 : Bs w3 w3.heap.size A 3 [1, 2, 3] := Made.bs ho (show IsBytes [1, 2, 3] by unfold IsBytes; decide)
  clear hb ho hm hb2
  go_wp2_with fail
  refine (xor_any 3 2 ((bs_new w3 [1, 2, 3] 3 rfl (by unfold IsBytes; decide) 5 w3.heap.size rfl).alloc (by simp) _) (bs_new (w3.alloc (.cells #[.int .u8 1, .int .u8 2, .int .u8 3] 5)) [3, 3] 2 rfl (by unfold IsBytes; decide) 5 (w3.heap.size + 1) (by simp)) (by simp) (by simp) (by omega) (by omega)).mono ?_
  intro e w4 hm
  obtain ⟨D, c4, rfl, ho, hb, _, hc⟩ := hm.n (n := 2) rfl
  have hb4 : Below w.heap.size w w4 := by
    refine (((hb3.alloc hb3.size _).alloc ?_ _)).trans (hb.mono ?_) <;> (have := hb3.size; simp; omega)
  have B4 : Bs w4 w4.heap.size D 2 [2, 1] := Made.bs ho (show IsBytes [2, 1] by unfold IsBytes; decide)
  have B3' := (B3.alloc (Nat.le_refl _) (.cells #[.int .u8 1, .int .u8 2, .int .u8 3] 5)).alloc (by simp) (.cells #[.int .u8 3, .int .u8 3] 5)
  have B3'' : Bs w4 w3.heap.size A 3 [1, 2, 3] := B3'.belowM hb (by simp; omega)
  obtain ⟨b3, o3, rfl, hlt3, hcells3⟩ := B3''.row (by omega)
  obtain ⟨b4, o4, rfl, hlt4, hcells4⟩ := B4.row (by omega)
  have k1 : w4.cell? ⟨b3, o3 + 2, none⟩ = some (.int .u8 3) := hcells3 2 (by omega)
  have k2 : w4.cell? ⟨b4, o4, none⟩ = some (.int .u8 2) := hcells4 0 (by omega)
  have k3 : w4.cell? ⟨b4, o4 + 1, none⟩ = some (.int .u8 1) := hcells4 1 (by omega)
  clear hb ho hm B3 B3' B3'' B4 hcells3 hcells4
  have r1 : rotZ 1 1 = 2147483648 := by decide
  have r2 : rotZ 2147483648 33 = 1073741824 := by decide
  have r3 : rotZ 2 (-1) = 4 := by decide
  have r4 : shrZ 2147483648 31 = 1 := by decide
  have r5 : shrZ 1 32 = 0 := by decide
  have r6 : shrZ 5 (-1) = 5 := by decide
  have r7 : eqB [1] [1, 0] = false := by decide
  go_wp2_with fail
  refine (same_any 1 2 ((bs_new w4 [1] 1 rfl (by unfold IsBytes; decide) 5 w4.heap.size rfl).alloc (by simp) _) (bs_new (w4.alloc (.cells #[.int .u8 1] 5)) [1, 0] 2 rfl (by unfold IsBytes; decide) 5 (w4.heap.size + 1) (by simp)) (by simp [maxLen]) (by simp [maxLen])).mono ?_
  rw [r7]
  rintro e w5 ⟨rfl, hq⟩
  have hb5 : Below w.heap.size w w5 := by
    obtain ⟨m, rfl⟩ := hq
    exact below_drewN ((hb4.alloc hb4.size _).alloc (by have := hb4.size; simp; omega) _) _
  clear hq hb3 hb4 k1 k2 k3 hlt3 hlt4 C1 r7
  go_wp2_with (first
    | (go_at_call 11; refine (rotr_any _ _ (by omega) (by omega) _).mono ?_; rintro e w' ⟨rfl, m, rfl⟩)
    | (go_at_call 13; refine (shr_any _ _ (by omega) (by omega) _).mono ?_; rintro e w' ⟨rfl, m, rfl⟩))
  go_ret
  exact ⟨rfl, below_drewN hb5 _⟩
end Go.Proofs.Ytjkindponhjadaa
