/- What stands behind a message. -/
import Derived.Test.YtcihbkdpkhhhcaaDoorRow8
import Derived.Test.YtcihbkdpkhhhcaaDoorOwn
import Derived.Deep.DrawnRows
namespace Go.Proofs.YtcihbkdpkhhhcaaDoor
open Go.ChangeShapes Go.WideShapes Go.ChangeAt Go.RowKit
set_option linter.unusedVariables false
open Plain Sha
attribute [local go_sem ↓] Go.wp_at_zero Go.wp_at_succ
theorem noughts_bytes (k : Nat) : IsBytes (List.replicate k 0) := fun j hj => by
  simp [List.getD_eq_getElem?_getD, List.getElem?_replicate]
  split <;> decide
set_option maxRecDepth 100000 in
set_option maxHeartbeats 1000000 in
theorem end_any (n : Nat) (hn : n ≤ 1099511627776) (w : World) :
    Calls Tryd.prog 46 #[.int .i64 (n : Int)] w (Made w (padZ n)) := by
  obtain ⟨k, hk⟩ : ∃ k, (119 - n % 64) % 64 = k := ⟨_, rfl⟩
  have e1 : (119 - (n : Int) % 64) % 64 = (k : Int) := by omega
  have hk64 : k < 64 := by omega
  have hmk : ∀ w : World, _ := fun w => make_u8 k (by omega) w
  rw [madeCells_vals] at hmk
  have e2 : IntKind.u64.wrap (n : Int) = (n : Int) := by rw [IntKind.wrap_u64]; omega
  have e3 : IntKind.u64.wrap (8 * (n : Int)) = ((8 * n : Nat) : Int) := by rw [IntKind.wrap_u64]; omega
  have HK := Lib.hid hk
  have HF : Hid ([128] ++ List.replicate k 0 ++ putZ ((8 * n : Nat) : Int) 8 = padZ n) := Lib.hid (by unfold padZ; rw [hk]; simp)
  have HL : Hid (([128] ++ List.replicate k 0 ++ putZ ((8 * n : Nat) : Int) 8).length = 1 + k + 8) := Lib.hid (by simp [putZ_len]; omega)
  have H128 : Hid (IsBytes [128]) := Lib.hid (by unfold IsBytes; decide)
  have B1 := Lib.hid ((bs_new w [128] 1 rfl H128.out 5 w.heap.size rfl).alloc (by simp) (.cells (vals (List.replicate k 0)).toArray 5)).drew
  have B2 := Lib.hid (bs_new (w.alloc (.cells (vals [128]).toArray 5)) (List.replicate k 0) k (List.length_replicate ..) (noughts_bytes k) 5 (w.heap.size + 1) (by simp)).drew
  have C1 := Lib.hid (bs_new (w.alloc (.cells (vals (List.replicate k 0)).toArray 5)) [128] 1 rfl H128.out 5 (w.heap.size + 1) (by simp)).drew
  have C2 := Lib.hid ((bs_new w (List.replicate k 0) k (List.length_replicate ..) (noughts_bytes k) 5 w.heap.size rfl).alloc (by simp) (.cells (vals [128]).toArray 5)).drew
  have B3 := Lib.hid (bs_new w [128] 1 rfl H128.out 5 w.heap.size rfl).drew
  have C3 := Lib.hid (bs_new w (List.replicate k 0) k (List.length_replicate ..) (noughts_bytes k) 5 w.heap.size rfl).drew
  clear hk
  go_enter Tryd.func46, Tryd.ntmps46
  go_wp2
  go_region_held3 (fun _ => True) (exact trivial) ((first
    | (go_at_call 50; refine (put64_any ((8 * n : Nat) : Int) (by omega) (by omega) _).mono ?_; intro e w1 hm; obtain ⟨A, c, rfl, ho, hb1, _, hc1⟩ := hm.n (n := 8) (putZ_len ..); have S3 : Bs w1 w1.heap.size A 8 (putZ ((8 * n : Nat) : Int) 8) := Made.bs ho (putZ_bytes _ _); have s1 := hb1.size; simp at s1; have S1 := B1.out.belowM hb1 (by simp); have S2 := B2.out.belowM hb1 (by simp); have hw1 : Below w.heap.size w w1 := (((Below.refl _ _).alloc (Nat.le_refl _) _).alloc (by simp) _).drew.trans (hb1.mono (by simp <;> omega)))
    | (go_at_call 50; refine (put64_any ((8 * n : Nat) : Int) (by omega) (by omega) _).mono ?_; intro e w1 hm; obtain ⟨A, c, rfl, ho, hb1, _, hc1⟩ := hm.n (n := 8) (putZ_len ..); have S3 : Bs w1 w1.heap.size A 8 (putZ ((8 * n : Nat) : Int) 8) := Made.bs ho (putZ_bytes _ _); have s1 := hb1.size; simp at s1; have S1 := C1.out.belowM hb1 (by simp); have S2 := C2.out.belowM hb1 (by simp); have hw1 : Below w.heap.size w w1 := (((Below.refl _ _).alloc (Nat.le_refl _) _).alloc (by simp) _).drew.trans (hb1.mono (by simp <;> omega)))
    | (go_at_call 50; refine (put64_any ((8 * n : Nat) : Int) (by omega) (by omega) _).mono ?_; intro e w1 hm; obtain ⟨A, c, rfl, ho, hb1, _, hc1⟩ := hm.n (n := 8) (putZ_len ..); have S3 : Bs w1 w1.heap.size A 8 (putZ ((8 * n : Nat) : Int) 8) := Made.bs ho (putZ_bytes _ _); have s1 := hb1.size; simp at s1; have S1 := B3.out.belowM hb1 (by simp); have hw1 : Below w.heap.size w w1 := ((Below.refl _ _).alloc (Nat.le_refl _) _).drew.trans (hb1.mono (by simp <;> omega)))
    | (go_at_call 50; refine (put64_any ((8 * n : Nat) : Int) (by omega) (by omega) _).mono ?_; intro e w1 hm; obtain ⟨A, c, rfl, ho, hb1, _, hc1⟩ := hm.n (n := 8) (putZ_len ..); have S3 : Bs w1 w1.heap.size A 8 (putZ ((8 * n : Nat) : Int) 8) := Made.bs ho (putZ_bytes _ _); have s1 := hb1.size; simp at s1; have S2 := C3.out.belowM hb1 (by simp); have hw1 : Below w.heap.size w w1 := ((Below.refl _ _).alloc (Nat.le_refl _) _).drew.trans (hb1.mono (by simp <;> omega)))
    | (go_at_call 50; refine (put64_any ((8 * n : Nat) : Int) (by omega) (by omega) _).mono ?_; intro e w1 hm; obtain ⟨A, c, rfl, ho, hb1, _, hc1⟩ := hm.n (n := 8) (putZ_len ..); have S3 : Bs w1 w1.heap.size A 8 (putZ ((8 * n : Nat) : Int) 8) := Made.bs ho (putZ_bytes _ _); have s1 := hb1.size; simp at s1; have hw1 : Below w.heap.size w w1 := (Below.refl w.heap.size w).drew.trans (hb1.mono (by simp)))
    | (go_at_call 22; refine (cat3_any 1 k c 22 S1 S2 S3 (by omega) (by omega) (Nat.le_refl _) (by omega) 3 _ rfl).mono ?_; intro e w2 hm2; obtain ⟨A5, c5, rfl, ho5, hb5, _, _⟩ := hm2.n HL.out; have hb6 : Below w.heap.size w w2 := (hw1.alloc (by omega) _).trans (hb5.mono (by simp <;> omega)); have ho6 := own_base (base' := w.heap.size) ho5 (by simp <;> omega))
    | (go_at_call 22; refine (cat3_any 1 k c 22 (S1.alloc (by omega) _) (bs_new w1 (List.replicate k 0) k (List.length_replicate ..) (noughts_bytes k) 5 w1.heap.size rfl) (S3.alloc (Nat.le_refl _) _) (by simp <;> omega) (by simp <;> omega) (by simp <;> omega) (by omega) 3 _ (by simp)).mono ?_; intro e w2 hm2; obtain ⟨A5, c5, rfl, ho5, hb5, _, _⟩ := hm2.n HL.out; have hb6 : Below w.heap.size w w2 := ((hw1.alloc (by omega) _).alloc (by simp <;> omega) _).trans (hb5.mono (by simp <;> omega)); have ho6 := own_base (base' := w.heap.size) ho5 (by simp <;> omega))
    | (go_at_call 22; refine (cat3_any 1 k c 22 (bs_new w1 [128] 1 rfl H128.out 5 w1.heap.size rfl) (S2.alloc (by omega) _) (S3.alloc (Nat.le_refl _) _) (by simp <;> omega) (by simp <;> omega) (by simp <;> omega) (by omega) 3 _ (by simp)).mono ?_; intro e w2 hm2; obtain ⟨A5, c5, rfl, ho5, hb5, _, _⟩ := hm2.n HL.out; have hb6 : Below w.heap.size w w2 := ((hw1.alloc (by omega) _).alloc (by simp <;> omega) _).trans (hb5.mono (by simp <;> omega)); have ho6 := own_base (base' := w.heap.size) ho5 (by simp <;> omega))
    | (go_at_call 22; refine (cat3_any 1 k c 22 ((bs_new w1 [128] 1 rfl H128.out 5 w1.heap.size rfl).alloc (by simp) _) (bs_new (w1.alloc (.cells (vals [128]).toArray 5)) (List.replicate k 0) k (List.length_replicate ..) (noughts_bytes k) 5 (w1.heap.size + 1) (by simp)) ((S3.alloc (Nat.le_refl _) _).alloc (by simp) _) (by simp <;> omega) (by simp <;> omega) (by simp <;> omega) (by omega) 3 _ (by simp)).mono ?_; intro e w2 hm2; obtain ⟨A5, c5, rfl, ho5, hb5, _, _⟩ := hm2.n HL.out; have hb6 : Below w.heap.size w w2 := (((hw1.alloc (by omega) _).alloc (by simp <;> omega) _).alloc (by simp <;> omega) _).trans (hb5.mono (by simp <;> omega)); have ho6 := own_base (base' := w.heap.size) ho5 (by simp <;> omega))
    | (go_at_call 22; refine (cat3_any 1 k c 22 (bs_new (w1.alloc (.cells (vals (List.replicate k 0)).toArray 5)) [128] 1 rfl H128.out 5 (w1.heap.size + 1) (by simp)) ((bs_new w1 (List.replicate k 0) k (List.length_replicate ..) (noughts_bytes k) 5 w1.heap.size rfl).alloc (by simp) _) ((S3.alloc (Nat.le_refl _) _).alloc (by simp) _) (by simp <;> omega) (by simp <;> omega) (by simp <;> omega) (by omega) 3 _ (by simp)).mono ?_; intro e w2 hm2; obtain ⟨A5, c5, rfl, ho5, hb5, _, _⟩ := hm2.n HL.out; have hb6 : Below w.heap.size w w2 := (((hw1.alloc (by omega) _).alloc (by simp <;> omega) _).alloc (by simp <;> omega) _).trans (hb5.mono (by simp <;> omega)); have ho6 := own_base (base' := w.heap.size) ho5 (by simp <;> omega))))
  all_goals
    clear hb5 hb1 ho ho5 hm hm2 S3
    go_wp2
    go_ret
    rw [HF.out] at ho6
    exact made_of (n := 1 + k + 8) (by rw [← HF.out]; exact HL.out) ho6 hb6
end Go.Proofs.YtcihbkdpkhhhcaaDoor
