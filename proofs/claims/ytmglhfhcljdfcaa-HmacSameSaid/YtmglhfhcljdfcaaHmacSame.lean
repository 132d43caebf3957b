/- Two tags are the same just if each byte is. -/
import Derived.Test.YtmglhfhcljdfcaaHSame
import Derived.Test.YtmglhfhcljdfcaaRow8
import Derived.Test.YtmglhfhcljdfcaaTagEq
import Derived.Deep.RegionHeld
namespace Go.Proofs.Ytmglhfhcljdfcaa
open Go.ChangeShapes Go.WideShapes Go.ChangeAt Go.RowKit
set_option linter.unusedVariables false
theorem range_new (w : World) (l : List Int) (t : TypeId) (g : Nat) (hg : w.heap.size = g) : (w.alloc (.cells (vals l).toArray t)).rangeAt g 0 (vals l) := by
  subst hg
  exact (Row8.new w l t).range
set_option maxRecDepth 100000 in
set_option maxHeartbeats 2000000 in
theorem hmacSame_any (a b : List Int) (ha : a.length = 32) (hb : b.length = 32) (ba : IsBytes a) (bb : IsBytes b) (w : World) :
    Calls Try.prog 3 #[.agg (vals a).toArray, .agg (vals b).toArray] w fun e w' => e = .returned (.bool true) ∧ Below w.heap.size w w' := by
  obtain ⟨X, hX⟩ : ∃ X, eqB a b = X := ⟨_, rfl⟩
  have hE : ∀ w, (binOp .eql 23 (.agg (vals a).toArray) (.agg (vals b).toArray)).run Try.prog w = .ok (.bool X) w := fun w => by rw [run_tagEq a b ha hb w, hX]
  have r1 : ((w.alloc (.cells (vals a).toArray 23)).alloc (.cells (vals b).toArray 23)).drew.rangeAt w.heap.size 0 (vals a) := rangeAt_same (w' := ((w.alloc (.cells (vals a).toArray 23)).alloc (.cells (vals b).toArray 23)).drew) (range_new w a 23 _ rfl) (Below.heap_alloc _ _ _ (by simp))
  have r2 : ((w.alloc (.cells (vals a).toArray 23)).alloc (.cells (vals b).toArray 23)).drew.rangeAt (w.heap.size + 1) 0 (vals b) := range_new (w.alloc (.cells (vals a).toArray 23)) b 23 _ (by simp)
  have q0 : Below w.heap.size w ((w.alloc (.cells (vals a).toArray 23)).alloc (.cells (vals b).toArray 23)).drew := (((Below.refl _ _).alloc (Nat.le_refl _) _).alloc (by simp) _).drew
  have s0 : ((w.alloc (.cells (vals a).toArray 23)).alloc (.cells (vals b).toArray 23)).drew.heap.size = w.heap.size + 1 + 1 := by show ((w.alloc (.cells (vals a).toArray 23)).alloc (.cells (vals b).toArray 23)).heap.size = _; simp
  have hu := Try.underlying23
  have hia : (Try.prog.info? 23).map (·.size) = some (vals a).length := by rw [vals_len, ha]; kernel_rfl
  have hib : (Try.prog.info? 23).map (·.size) = some (vals b).length := by rw [vals_len, hb]; kernel_rfl
  have R1 := Lib.hid r1
  have R2 := Lib.hid r2
  have Q0 := Lib.hid q0
  have S0 := Lib.hid s0
  have HX := Lib.hid hX
  have CS := Lib.hid (hsame_any a b ha hb ba bb)
  have CA := Lib.hid (hsame_any a a ha ha ba ba)
  have HAA : Hid (eqB a a = true) := Lib.hid (by simp [eqB])
  clear r1 r2 q0 s0 hX
  go_enter Try.func3, Try.ntmps3
  go_wp2
  refine wp_region_noPanic ?_
  refine wp_region_held_drew (S := fun w' => w'.rangeAt w.heap.size 0 (vals a) ∧ w'.rangeAt (w.heap.size + 1) 0 (vals b)) (by kernel_rfl) ⟨R1.out, R2.out⟩ (fun hHeld => ?_)
  refine wpAnyH_take (i := 0) (oi := ⟨some 5, .load 23 (.tmp 2), _, _, _, _⟩) (v := _) rfl (by kernel_rfl) (by kernel_rfl) (by kernel_rfl) (fun _ _ _ h => h) (yieldsIf_load_mid (by rfl) _ _ rfl _ _ rfl (vals a) _ (fun _ h => h.1) hu rfl hia) (by assumption) ?_
  try simp only [Act.put, List.setIfInBounds_toArray, List.set_cons_zero, List.set_cons_succ]
  refine wpAnyH_take (i := 1) (oi := ⟨some 6, .load 23 (.tmp 3), _, _, _, _⟩) (v := _) rfl (by kernel_rfl) (by kernel_rfl) (by kernel_rfl) (fun _ _ _ h => h) (yieldsIf_load_mid (by rfl) _ _ rfl _ _ rfl (vals b) _ (fun _ h => h.2) hu rfl hib) (by assumption) ?_
  try simp only [Act.put, List.setIfInBounds_toArray, List.set_cons_zero, List.set_cons_succ]
  refine wpAnyH_take (i := 3) (oi := ⟨some 8, .load 23 (.tmp 2), _, _, _, _⟩) (v := _) rfl (by kernel_rfl) (by kernel_rfl) (by kernel_rfl) (fun _ _ _ h => h) (yieldsIf_load_mid (by rfl) _ _ rfl _ _ rfl (vals a) _ (fun _ h => h.1) hu rfl hia) (by assumption) ?_
  try simp only [Act.put, List.setIfInBounds_toArray, List.set_cons_zero, List.set_cons_succ]
  refine wpAnyH_take (i := 4) (oi := ⟨some 9, .load 23 (.tmp 3), _, _, _, _⟩) (v := _) rfl (by kernel_rfl) (by kernel_rfl) (by kernel_rfl) (fun _ _ _ h => h) (yieldsIf_load_mid (by rfl) _ _ rfl _ _ rfl (vals b) _ (fun _ h => h.2) hu rfl hib) (by assumption) ?_
  try simp only [Act.put, List.setIfInBounds_toArray, List.set_cons_zero, List.set_cons_succ]
  refine wpAnyH_take (i := 5) (oi := ⟨some 10, .binOp .eql 23 (.tmp 8) (.tmp 9) 23, _, _, _, _⟩) (v := .bool X) rfl (by kernel_rfl) (by kernel_rfl) (by kernel_rfl) (fun _ _ _ h => h) (Or.inl ⟨by rfl, fun w hSw => ?_⟩) (by assumption) ?_
  · go_simp
  try simp only [Act.put, List.setIfInBounds_toArray, List.set_cons_zero, List.set_cons_succ]
  refine wpAnyH_ready (rs := [2]) (by kernel_rfl) (by simp) ?_
  refine AllReadyH.cons (o := ⟨some 7, .call { callee := .value (.func 4), args := #[.tmp 5, .tmp 6], argTypes := #[23, 23] }, _, _, _, _⟩) rfl (fun K hK => ?_) AllReadyH.nil
  go_simp
  refine (CS.out _).mono ?_
  rw [HX.out]
  rintro e w1 ⟨rfl, b1⟩
  have r11 := rangeAt_same R1.out (b1.block w.heap.size (by rw [S0.out]; omega))
  have r12 := rangeAt_same R2.out (b1.block (w.heap.size + 1) (by rw [S0.out]; omega))
  have q1 := Lib.hid (Q0.out.trans (b1.mono (by rw [S0.out]; omega)))
  have s1 := b1.size
  rw [S0.out] at s1
  clear b1
  go_wp2_with fail
  refine hK.out _ _ ⟨r11, r12⟩ (fun hHeld2 => ?_)
  clear hK K hHeld
  have hHeld := hHeld2
  clear hHeld2
  try simp only [Act.put, List.setIfInBounds_toArray, List.set_cons_zero, List.set_cons_succ]
  refine wpAnyH_take (i := 6) (oi := ⟨some 11, .binOp .eql 4 (.tmp 7) (.tmp 10) 4, _, _, _, _⟩) (v := .bool true) rfl (by kernel_rfl) (by kernel_rfl) (by kernel_rfl) (fun _ _ _ h => h) (Or.inl ⟨by rfl, fun w hSw => ?_⟩) (by assumption) ?_
  · go_simp
  try simp only [Act.put, List.setIfInBounds_toArray, List.set_cons_zero, List.set_cons_succ]
  refine wpAnyH_take (i := 7) (oi := ⟨some 12, .move (.tmp 11), _, _, _, _⟩) (v := .bool true) rfl (by kernel_rfl) (by kernel_rfl) (by kernel_rfl) (fun _ _ _ h => h) (Or.inl ⟨by rfl, fun w hSw => ?_⟩) (by assumption) ?_
  · go_simp
  try simp only [Act.put, List.setIfInBounds_toArray, List.set_cons_zero, List.set_cons_succ]
  refine wpAnyH_take (i := 8) (oi := ⟨some 13, .load 23 (.tmp 2), _, _, _, _⟩) (v := _) rfl (by kernel_rfl) (by kernel_rfl) (by kernel_rfl) (fun _ _ _ h => h) (yieldsIf_load_mid (by rfl) _ _ rfl _ _ rfl (vals a) _ (fun _ h => h.1) hu rfl hia) (by assumption) ?_
  try simp only [Act.put, List.setIfInBounds_toArray, List.set_cons_zero, List.set_cons_succ]
  refine wpAnyH_take (i := 9) (oi := ⟨some 14, .load 23 (.tmp 2), _, _, _, _⟩) (v := _) rfl (by kernel_rfl) (by kernel_rfl) (by kernel_rfl) (fun _ _ _ h => h) (yieldsIf_load_mid (by rfl) _ _ rfl _ _ rfl (vals a) _ (fun _ h => h.1) hu rfl hia) (by assumption) ?_
  try simp only [Act.put, List.setIfInBounds_toArray, List.set_cons_zero, List.set_cons_succ]
  refine wpAnyH_ready (rs := [10]) (by kernel_rfl) (by simp) ?_
  refine AllReadyH.cons (o := ⟨some 15, .call { callee := .value (.func 4), args := #[.tmp 13, .tmp 14], argTypes := #[23, 23] }, _, _, _, _⟩) rfl (fun K hK => ?_) AllReadyH.nil
  go_simp
  refine (CA.out _).mono ?_
  rw [HAA.out]
  rintro e w2 ⟨rfl, b2⟩
  have r21 := rangeAt_same r11 (b2.block w.heap.size (by omega))
  have r22 := rangeAt_same r12 (b2.block (w.heap.size + 1) (by omega))
  have q2 := Lib.hid (q1.out.trans (b2.mono q1.out.size))
  clear b2
  go_wp2_with fail
  refine hK.out _ _ ⟨r21, r22⟩ (fun hHeld2 => ?_)
  clear hK K hHeld
  have hHeld := hHeld2
  clear hHeld2
  try simp only [Act.put, List.setIfInBounds_toArray, List.set_cons_zero, List.set_cons_succ]
  refine wpAnyH_take (i := 11) (oi := ⟨some 16, .pick (.tmp 12) (.tmp 15) (.const (.bool false)), _, _, _, _⟩) (v := .bool true) rfl (by kernel_rfl) (by kernel_rfl) (by kernel_rfl) (fun _ _ _ h => h) (Or.inl ⟨by rfl, fun w hSw => ?_⟩) (by assumption) ?_
  · go_simp
  try simp only [Act.put, List.setIfInBounds_toArray, List.set_cons_zero, List.set_cons_succ]
  refine wpAnyH_take (i := 12) (oi := ⟨some 4, .assign (.tmp 16), _, _, _, _⟩) (v := .bool true) rfl (by kernel_rfl) (by kernel_rfl) (by kernel_rfl) (fun _ _ _ h => h) (Or.inl ⟨by rfl, fun w hSw => ?_⟩) (by assumption) ?_
  · go_simp
  try simp only [Act.put, List.setIfInBounds_toArray, List.set_cons_zero, List.set_cons_succ]
  refine wpAnyH_done (by kernel_rfl) ?_ _
  refine NoPanic.normal ?_
  go_wp2
  go_ret
  exact ⟨rfl, q2.out⟩
end Go.Proofs.Ytmglhfhcljdfcaa
