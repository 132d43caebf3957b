/- The statement DiskPlays: the walk. -/
import Derived.Test.YtlbmhkccmclmfaaDOne
namespace Go.Proofs.Ytlbmhkccmclmfaa
open Go.ChangeShapes Go.WideShapes Go.ChangeAt Go.RowKit
set_option linter.unusedVariables false
theorem rf_new {w : World} {r : Nat} (h : w.heap[r]? = some (.cells #[.slice none 0 0, .int .i64 0, .slice none 0 0, .bool false] 30 (0, 0))) (hr : r < w.heap.size) : Rf w r (fun k => k = r) ⟨true, [], []⟩ := by
  refine ⟨.slice none 0 0, .slice none 0 0, rfl, fun k hk => (by omega), ?_, ?_, ?_, ?_, fun i => frozen_of_row _ _ _ _ _ h, World.ownsRow_nil _ _ _ _, fun k hk => (by cases hk), IsBytes.nil, World.ownsRow_nil _ _ _ _, fun k hk => (by cases hk)⟩
  all_goals (rw [cell_of_row _ _ _ _ _ _ h]; rfl)
set_option maxRecDepth 100000 in
set_option maxHeartbeats 4000000 in
theorem diskPlays_in (A : Option Addr) (m c : Nat) (F : Nat → ActZ) (w : World) (h : Acts w w.heap.size A m F) (hm : m ≤ maxLen) :
    Calls Try.prog 3 #[.slice A m c] w fun e w' => e = .returned (.bool true) ∧ Below w.heap.size w w' := by
  have HF := Lib.hid h
  have GR := Lib.hid (great_any c h hm)
  by_cases hg : 4000 < gsum F m
  · rw [decide_eq_true hg] at GR
    clear hg h
    go_enter Try.func3, Try.ntmps3
    go_wp2_with fail
    refine GR.out.mono ?_
    rintro e w' ⟨rfl, rfl⟩
    go_wp2
    go_ret
    exact ⟨rfl, Below.refl _ _⟩
  rw [decide_eq_false hg] at GR
  have HG : Hid (∀ k, k ≤ m → gsum F k ≤ 4000) := Lib.hid (fun k hk => by have := gsum_le F k m hk; omega)
  have hm3 : m ≤ 4000 := by have := gsum_many F m; omega
  clear hg h hm
  go_enter Try.func3, Try.ntmps3
  go_wp2_with fail
  refine GR.out.mono ?_
  rintro e w' ⟨rfl, rfl⟩
  go_wp2_with fail
  refine (atk_new w w (Below.refl _ _)).mono ?_
  rintro e w2 ⟨rfl, K0, h0, _⟩
  obtain ⟨D, hD⟩ : ∃ D, w.heap.size = D := ⟨_, rfl⟩
  have HD := Lib.hid hD
  obtain ⟨w3, hw3⟩ : ∃ w3, w2.alloc (.cells #[.slice none 0 0, .int .i64 0, .slice none 0 0, .bool false] 30) = w3 := ⟨_, rfl⟩
  obtain ⟨r, hr⟩ : ∃ r, w2.heap.size = r := ⟨_, rfl⟩
  have H0 : Hid (∃ K R s, Pair w w3 D r K R s s ∧ SizeB s (gsum F 0)) := Lib.hid (by
    have b3 : Below w2.heap.size w2 w3 := by rw [← hw3]; exact (Below.refl _ _).alloc (Nat.le_refl _) _
    have hh : w3.heap[r]? = some (.cells #[.slice none 0 0, .int .i64 0, .slice none 0 0, .bool false] 30 (0, 0)) := by rw [← hw3, ← hr]; exact heap_alloc_new w2 _
    have s3 : w3.heap.size = w2.heap.size + 1 := by rw [← hw3]; simp
    have h4 := h0.below b3
    have hs2 := h0.bel.size
    rw [hD] at h4
    exact ⟨K0, fun k => k = r, _, ⟨h4.dk, rf_new hh (by omega), fun k hk e => by have := h0.dk.lt k hk; omega, h4.new, fun k hk => by omega, h4.bel⟩, ⟨by simp [allZ], by simp⟩⟩)
  have HW3 := Lib.hid hw3
  have HR := Lib.hid hr
  simp only [hD]
  clear hD h0 hw3 hr GR
  go_upto_region 4 with fail
  simp only [HW3.out, HR.out]
  go_wp2
  go_loopw [5] (fun i wr => ∃ k : Nat, k ≤ m + 1 ∧ i = .int .i64 k ∧ Hid (∃ K R s, Pair w wr D r K R s s ∧ SizeB s (gsum F (min k m)))) (fun i _ => m + 1 - (intOf i).toNat)
  case atStart => exact ⟨0, by omega, rfl, by rw [Nat.zero_min]; exact H0⟩
  case round =>
    obtain ⟨k, hk, rfl, HS⟩ := hrel
    by_cases hlt : k ≤ m
    · have hltI : (k : Int) ≤ m := by omega
      obtain ⟨K, R, s, hP, hsz⟩ := HS.out
      rw [Nat.min_eq_left hlt] at hsz
      have HP := Lib.hid hP
      have HZ := Lib.hid hsz
      have HSm : Hid (Small s) := Lib.hid (hsz.small (by have := HG.out k hlt; omega))
      clear hP hsz HS
      go_wp2_with fail
      refine (told_any HP.out.dk HSm.out).mono ?_
      rintro e w1 ⟨A6, n6, q6, rfl, hl6, hs6, ho6, hc6, hm6, hb6⟩
      have HP1 := Lib.hid (HP.out.below hb6)
      obtain ⟨RV, RE, hRf⟩ := HP1.out.rf
      obtain ⟨A7, n, q7, hl7, rfl, hc7, hm7, hbs7⟩ := hRf.val
      obtain ⟨E, p, d, hp, rfl, _, _, _⟩ := hRf.row
      obtain rfl : n6 = n := by omega
      obtain ⟨z, hz⟩ : ∃ z, s.zs.length = z := ⟨_, rfl⟩
      obtain ⟨up, hup⟩ : ∃ up, s.up = up := ⟨_, rfl⟩
      have HZZ := Lib.hid hz
      have HPP := Lib.hid hp
      have HUP := Lib.hid hup
      have HCELL : Hid (∀ v, (∃ j, v = w1.drewN j) → v.cell? ⟨r, 0, none⟩ = some (.slice A7 n6 q7) ∧ v.cell? ⟨r, 1, none⟩ = some (.int .i64 (z : Int)) ∧ v.cell? ⟨r, 2, none⟩ = some (.slice E p d) ∧ v.cell? ⟨r, 3, none⟩ = some (.bool (!up))) := Lib.hid (fun v hv => by
        obtain ⟨j, rfl⟩ := hv
        have e1 := hRf.syn
        have e3 := hRf.down
        rw [hz] at e1
        rw [hup] at e3
        exact ⟨hRf.b, e1, hRf.ends, e3⟩)
      obtain ⟨h0, h1, h2, h3⟩ := HCELL.out w1 ⟨0, rfl⟩
      have HSM : Hid (Calls Try.prog 11 #[.slice A6 n6 q6, .slice A7 n6 q7] w1.drew (Quiet (.bool true) w1.drew)) := Lib.hid (by
        have := refsame_any q6 q7 (hs6.bs.drew) (hbs7.drew) (Nat.le_trans hc6 hm6) (Nat.le_trans hc7 hm7)
        rwa [eqB_self] at this)
      have HOW : Hid (Own w1 wr.heap.size A6 n6 q6) := Lib.hid (Own.of ho6 hs6.bytes)
      have HAP : Hid (∀ a, A6 = some a → wr.heap.size ≤ a.block ∧ ¬ K a.block ∧ ¬ R a.block) := Lib.hid (fun a ha => by
        have := HOW.out.lt a ha
        exact ⟨this.1, fun e => by have := HP.out.dk.lt _ e; omega, fun e => by have := HP.out.rf.lt _ e; omega⟩)
      have hub : (up == !up) = false := by cases up <;> rfl
      have hn6 : n6 ≤ 9223372036854775807 := by have := Nat.le_trans hc6 hm6; unfold maxLen at this; exact this
      have hsw := HP.out.bel.size
      clear hs6 ho6 hb6 hRf hbs7 hl6 hl7 hz hup hp hc6 hm6 hc7 hm7
      go_wp2
      refine Late.region (fun w' => w'.cell? ⟨r, 0, none⟩ = some (.slice A7 n6 q7) ∧ w'.cell? ⟨r, 1, none⟩ = some (.int .i64 (z : Int)) ∧ w'.cell? ⟨r, 2, none⟩ = some (.slice E p d) ∧ w'.cell? ⟨r, 3, none⟩ = some (.bool (!up))) [] (by kernel_rfl) ⟨h0, h1, h2, h3⟩ (fun hHeld => ?_)
      refine Late.take (i := 0) (oi := ⟨some 21, Op.move (Operand.tmp 6), _, _, _, _⟩) (v := ?_) rfl (by kernel_rfl) (by kernel_rfl) (by kernel_rfl) (by kernel_rfl) (fun _ _ _ h => h) (Or.inl ⟨by rfl, fun w hSw => ?_⟩) (by assumption) ?_
      rotate_left
      · (obtain ⟨s1, s2, s3, s4⟩ := hSw; go_simp; try with_reducible rfl)
      try simp only [Act.put, List.setIfInBounds_toArray, List.set_cons_zero, List.set_cons_succ]
      refine Late.take (i := 1) (oi := ⟨some 22, Op.move (Operand.tmp 4), _, _, _, _⟩) (v := ?_) rfl (by kernel_rfl) (by kernel_rfl) (by kernel_rfl) (by kernel_rfl) (fun _ _ _ h => h) (Or.inl ⟨by rfl, fun w hSw => ?_⟩) (by assumption) ?_
      rotate_left
      · (obtain ⟨s1, s2, s3, s4⟩ := hSw; go_simp; try with_reducible rfl)
      try simp only [Act.put, List.setIfInBounds_toArray, List.set_cons_zero, List.set_cons_succ]
      refine Late.take (i := 2) (oi := ⟨some 23, Op.nilCheck (Operand.tmp 22), _, _, _, _⟩) (v := ?_) rfl (by kernel_rfl) (by kernel_rfl) (by kernel_rfl) (by kernel_rfl) (fun _ _ _ h => h) (Or.inl ⟨by rfl, fun w hSw => ?_⟩) (by assumption) ?_
      rotate_left
      · (obtain ⟨s1, s2, s3, s4⟩ := hSw; go_simp; try with_reducible rfl)
      try simp only [Act.put, List.setIfInBounds_toArray, List.set_cons_zero, List.set_cons_succ]
      refine Late.take (i := 3) (oi := ⟨some 24, Op.fieldAddr 30 (Operand.tmp 23) 0, _, _, _, _⟩) (v := ?_) rfl (by kernel_rfl) (by kernel_rfl) (by kernel_rfl) (by kernel_rfl) (fun _ _ _ h => h) (Or.inl ⟨by rfl, fun w hSw => ?_⟩) (by assumption) ?_
      rotate_left
      · (obtain ⟨s1, s2, s3, s4⟩ := hSw; go_simp; try with_reducible rfl)
      try simp only [Act.put, List.setIfInBounds_toArray, List.set_cons_zero, List.set_cons_succ]
      refine Late.take (i := 4) (oi := ⟨some 25, Op.load 27 (Operand.tmp 24), _, _, _, _⟩) (v := ?_) rfl (by kernel_rfl) (by kernel_rfl) (by kernel_rfl) (by kernel_rfl) (fun _ _ _ h => h) (Or.inl ⟨by rfl, fun w hSw => ?_⟩) (by assumption) ?_
      rotate_left
      · (obtain ⟨s1, s2, s3, s4⟩ := hSw; go_simp; try with_reducible rfl)
      try simp only [Act.put, List.setIfInBounds_toArray, List.set_cons_zero, List.set_cons_succ]
      refine Late.one (i := 5) (o := ⟨some 26, Op.call { callee := Callee.value (Operand.func 11), args := #[Operand.tmp 21, Operand.tmp 25], argTypes := #[27, 27] }, _, _, _, _⟩) (by kernel_rfl) rfl (fun K hK => ?_)
      go_simp
      refine HSM.out.mono ?_
      rintro e v1 ⟨rfl, hq⟩
      have HQ : Hid (∃ j, v1 = w1.drewN j) := Lib.hid (by obtain ⟨j, hj⟩ := hq; exact ⟨1 + j, by rw [hj]; exact World.drewN_drewN w1 1 j⟩)
      clear hq
      have HV := Lib.hid (HP1.out.quiet HQ.out)
      have v0 := (HCELL.out v1 HQ.out).1
      have v1c := (HCELL.out v1 HQ.out).2.1
      have v2 := (HCELL.out v1 HQ.out).2.2.1
      have v3 := (HCELL.out v1 HQ.out).2.2.2
      go_wp2_with fail
      refine hK.out _ _ (⟨v0, v1c, v2, v3⟩) (fun hHeld2 => ?_)
      clear hK K hHeld
      have hHeld := hHeld2
      clear hHeld2
      try simp only [Act.put, List.setIfInBounds_toArray, List.set_cons_zero, List.set_cons_succ]
      refine Late.take (i := 6) (oi := ⟨some 27, Op.unOp UnOp.not 4 (Operand.tmp 26), _, _, _, _⟩) (v := ?_) rfl (by kernel_rfl) (by kernel_rfl) (by kernel_rfl) (by kernel_rfl) (fun _ _ _ h => h) (Or.inl ⟨by rfl, fun w hSw => ?_⟩) (by assumption) ?_
      rotate_left
      · (obtain ⟨s1, s2, s3, s4⟩ := hSw; go_simp; try with_reducible rfl)
      try simp only [Act.put, List.setIfInBounds_toArray, List.set_cons_zero, List.set_cons_succ]
      refine Late.take (i := 7) (oi := ⟨some 28, Op.move (Operand.tmp 27), _, _, _, _⟩) (v := ?_) rfl (by kernel_rfl) (by kernel_rfl) (by kernel_rfl) (by kernel_rfl) (fun _ _ _ h => h) (Or.inl ⟨by rfl, fun w hSw => ?_⟩) (by assumption) ?_
      rotate_left
      · (obtain ⟨s1, s2, s3, s4⟩ := hSw; go_simp; try with_reducible rfl)
      try simp only [Act.put, List.setIfInBounds_toArray, List.set_cons_zero, List.set_cons_succ]
      refine Late.take (i := 8) (oi := ⟨some 29, Op.move (Operand.tmp 3), _, _, _, _⟩) (v := ?_) rfl (by kernel_rfl) (by kernel_rfl) (by kernel_rfl) (by kernel_rfl) (fun _ _ _ h => h) (Or.inl ⟨by rfl, fun w hSw => ?_⟩) (by assumption) ?_
      rotate_left
      · (obtain ⟨s1, s2, s3, s4⟩ := hSw; go_simp; try with_reducible rfl)
      try simp only [Act.put, List.setIfInBounds_toArray, List.set_cons_zero, List.set_cons_succ]
      refine Late.take (i := 10) (oi := ⟨some 31, Op.move (Operand.tmp 4), _, _, _, _⟩) (v := ?_) rfl (by kernel_rfl) (by kernel_rfl) (by kernel_rfl) (by kernel_rfl) (fun _ _ _ h => h) (Or.inl ⟨by rfl, fun w hSw => ?_⟩) (by assumption) ?_
      rotate_left
      · (obtain ⟨s1, s2, s3, s4⟩ := hSw; go_simp; try with_reducible rfl)
      try simp only [Act.put, List.setIfInBounds_toArray, List.set_cons_zero, List.set_cons_succ]
      refine Late.take (i := 11) (oi := ⟨some 32, Op.nilCheck (Operand.tmp 31), _, _, _, _⟩) (v := ?_) rfl (by kernel_rfl) (by kernel_rfl) (by kernel_rfl) (by kernel_rfl) (fun _ _ _ h => h) (Or.inl ⟨by rfl, fun w hSw => ?_⟩) (by assumption) ?_
      rotate_left
      · (obtain ⟨s1, s2, s3, s4⟩ := hSw; go_simp; try with_reducible rfl)
      try simp only [Act.put, List.setIfInBounds_toArray, List.set_cons_zero, List.set_cons_succ]
      refine Late.take (i := 12) (oi := ⟨some 33, Op.fieldAddr 30 (Operand.tmp 32) 1, _, _, _, _⟩) (v := ?_) rfl (by kernel_rfl) (by kernel_rfl) (by kernel_rfl) (by kernel_rfl) (fun _ _ _ h => h) (Or.inl ⟨by rfl, fun w hSw => ?_⟩) (by assumption) ?_
      rotate_left
      · (obtain ⟨s1, s2, s3, s4⟩ := hSw; go_simp; try with_reducible rfl)
      try simp only [Act.put, List.setIfInBounds_toArray, List.set_cons_zero, List.set_cons_succ]
      refine Late.take (i := 13) (oi := ⟨some 34, Op.load 3 (Operand.tmp 33), _, _, _, _⟩) (v := ?_) rfl (by kernel_rfl) (by kernel_rfl) (by kernel_rfl) (by kernel_rfl) (fun _ _ _ h => h) (Or.inl ⟨by rfl, fun w hSw => ?_⟩) (by assumption) ?_
      rotate_left
      · (obtain ⟨s1, s2, s3, s4⟩ := hSw; go_simp; try with_reducible rfl)
      try simp only [Act.put, List.setIfInBounds_toArray, List.set_cons_zero, List.set_cons_succ]
      refine Late.one (i := 9) (o := ⟨some 30, Op.call { callee := Callee.value (Operand.func 12), args := #[Operand.tmp 29], argTypes := #[24] }, _, _, _, _⟩) (by kernel_rfl) rfl (fun K hK => ?_)
      go_simp
      refine (synced_any HV.out.dk).mono ?_
      rintro e w' ⟨rfl, rfl⟩
      simp only [HZZ.out]
      go_wp2_with fail
      refine hK.out _ _ (⟨v0, v1c, v2, v3⟩) (fun hHeld2 => ?_)
      clear hK K hHeld
      have hHeld := hHeld2
      clear hHeld2
      try simp only [Act.put, List.setIfInBounds_toArray, List.set_cons_zero, List.set_cons_succ]
      refine Late.take (i := 14) (oi := ⟨some 35, Op.binOp BinOp.neq 3 (Operand.tmp 30) (Operand.tmp 34) 3, _, _, _, _⟩) (v := ?_) rfl (by kernel_rfl) (by kernel_rfl) (by kernel_rfl) (by kernel_rfl) (fun _ _ _ h => h) (Or.inl ⟨by rfl, fun w hSw => ?_⟩) (by assumption) ?_
      rotate_left
      · (obtain ⟨s1, s2, s3, s4⟩ := hSw; go_simp; try with_reducible rfl)
      try simp only [Act.put, List.setIfInBounds_toArray, List.set_cons_zero, List.set_cons_succ]
      refine Late.take (i := 15) (oi := ⟨some 36, Op.pick (Operand.tmp 28) (Operand.const (Value.bool true)) (Operand.tmp 35), _, _, _, _⟩) (v := ?_) rfl (by kernel_rfl) (by kernel_rfl) (by kernel_rfl) (by kernel_rfl) (fun _ _ _ h => h) (Or.inl ⟨by rfl, fun w hSw => ?_⟩) (by assumption) ?_
      rotate_left
      · (obtain ⟨s1, s2, s3, s4⟩ := hSw; go_simp; try with_reducible rfl)
      try simp only [Act.put, List.setIfInBounds_toArray, List.set_cons_zero, List.set_cons_succ]
      refine Late.take (i := 16) (oi := ⟨some 37, Op.move (Operand.tmp 36), _, _, _, _⟩) (v := ?_) rfl (by kernel_rfl) (by kernel_rfl) (by kernel_rfl) (by kernel_rfl) (fun _ _ _ h => h) (Or.inl ⟨by rfl, fun w hSw => ?_⟩) (by assumption) ?_
      rotate_left
      · (obtain ⟨s1, s2, s3, s4⟩ := hSw; go_simp; try with_reducible rfl)
      try simp only [Act.put, List.setIfInBounds_toArray, List.set_cons_zero, List.set_cons_succ]
      refine Late.take (i := 17) (oi := ⟨some 38, Op.move (Operand.tmp 3), _, _, _, _⟩) (v := ?_) rfl (by kernel_rfl) (by kernel_rfl) (by kernel_rfl) (by kernel_rfl) (fun _ _ _ h => h) (Or.inl ⟨by rfl, fun w hSw => ?_⟩) (by assumption) ?_
      rotate_left
      · (obtain ⟨s1, s2, s3, s4⟩ := hSw; go_simp; try with_reducible rfl)
      try simp only [Act.put, List.setIfInBounds_toArray, List.set_cons_zero, List.set_cons_succ]
      refine Late.take (i := 19) (oi := ⟨some 40, Op.move (Operand.tmp 4), _, _, _, _⟩) (v := ?_) rfl (by kernel_rfl) (by kernel_rfl) (by kernel_rfl) (by kernel_rfl) (fun _ _ _ h => h) (Or.inl ⟨by rfl, fun w hSw => ?_⟩) (by assumption) ?_
      rotate_left
      · (obtain ⟨s1, s2, s3, s4⟩ := hSw; go_simp; try with_reducible rfl)
      try simp only [Act.put, List.setIfInBounds_toArray, List.set_cons_zero, List.set_cons_succ]
      refine Late.take (i := 20) (oi := ⟨some 41, Op.nilCheck (Operand.tmp 40), _, _, _, _⟩) (v := ?_) rfl (by kernel_rfl) (by kernel_rfl) (by kernel_rfl) (by kernel_rfl) (fun _ _ _ h => h) (Or.inl ⟨by rfl, fun w hSw => ?_⟩) (by assumption) ?_
      rotate_left
      · (obtain ⟨s1, s2, s3, s4⟩ := hSw; go_simp; try with_reducible rfl)
      try simp only [Act.put, List.setIfInBounds_toArray, List.set_cons_zero, List.set_cons_succ]
      refine Late.take (i := 21) (oi := ⟨some 42, Op.fieldAddr 30 (Operand.tmp 41) 2, _, _, _, _⟩) (v := ?_) rfl (by kernel_rfl) (by kernel_rfl) (by kernel_rfl) (by kernel_rfl) (fun _ _ _ h => h) (Or.inl ⟨by rfl, fun w hSw => ?_⟩) (by assumption) ?_
      rotate_left
      · (obtain ⟨s1, s2, s3, s4⟩ := hSw; go_simp; try with_reducible rfl)
      try simp only [Act.put, List.setIfInBounds_toArray, List.set_cons_zero, List.set_cons_succ]
      refine Late.take (i := 22) (oi := ⟨some 43, Op.load 28 (Operand.tmp 42), _, _, _, _⟩) (v := ?_) rfl (by kernel_rfl) (by kernel_rfl) (by kernel_rfl) (by kernel_rfl) (fun _ _ _ h => h) (Or.inl ⟨by rfl, fun w hSw => ?_⟩) (by assumption) ?_
      rotate_left
      · (obtain ⟨s1, s2, s3, s4⟩ := hSw; go_simp; try with_reducible rfl)
      try simp only [Act.put, List.setIfInBounds_toArray, List.set_cons_zero, List.set_cons_succ]
      refine Late.take (i := 23) (oi := ⟨some 44, Op.call { callee := Callee.builtin Builtin.len, args := #[Operand.tmp 43], argTypes := #[28] }, _, _, _, _⟩) (v := ?_) rfl (by kernel_rfl) (by kernel_rfl) (by kernel_rfl) (by kernel_rfl) (fun _ _ _ h => h) (Or.inl ⟨by rfl, fun w hSw => ?_⟩) (by assumption) ?_
      rotate_left
      · (obtain ⟨s1, s2, s3, s4⟩ := hSw; go_simp; try with_reducible rfl)
      try simp only [Act.put, List.setIfInBounds_toArray, List.set_cons_zero, List.set_cons_succ]
      refine Late.one (i := 18) (o := ⟨some 39, Op.call { callee := Callee.value (Operand.func 13), args := #[Operand.tmp 38], argTypes := #[24] }, _, _, _, _⟩) (by kernel_rfl) rfl (fun K hK => ?_)
      go_simp
      refine (writes_any HV.out.dk).mono ?_
      rintro e w' ⟨rfl, rfl⟩
      simp only [HPP.out]
      go_wp2_with fail
      refine hK.out _ _ (⟨v0, v1c, v2, v3⟩) (fun hHeld2 => ?_)
      clear hK K hHeld
      have hHeld := hHeld2
      clear hHeld2
      try simp only [Act.put, List.setIfInBounds_toArray, List.set_cons_zero, List.set_cons_succ]
      refine Late.take (i := 24) (oi := ⟨some 45, Op.binOp BinOp.neq 3 (Operand.tmp 39) (Operand.tmp 44) 3, _, _, _, _⟩) (v := ?_) rfl (by kernel_rfl) (by kernel_rfl) (by kernel_rfl) (by kernel_rfl) (fun _ _ _ h => h) (Or.inl ⟨by rfl, fun w hSw => ?_⟩) (by assumption) ?_
      rotate_left
      · (obtain ⟨s1, s2, s3, s4⟩ := hSw; go_simp; try with_reducible rfl)
      try simp only [Act.put, List.setIfInBounds_toArray, List.set_cons_zero, List.set_cons_succ]
      refine Late.take (i := 25) (oi := ⟨some 46, Op.pick (Operand.tmp 37) (Operand.const (Value.bool true)) (Operand.tmp 45), _, _, _, _⟩) (v := ?_) rfl (by kernel_rfl) (by kernel_rfl) (by kernel_rfl) (by kernel_rfl) (fun _ _ _ h => h) (Or.inl ⟨by rfl, fun w hSw => ?_⟩) (by assumption) ?_
      rotate_left
      · (obtain ⟨s1, s2, s3, s4⟩ := hSw; go_simp; try with_reducible rfl)
      try simp only [Act.put, List.setIfInBounds_toArray, List.set_cons_zero, List.set_cons_succ]
      refine Late.take (i := 26) (oi := ⟨some 47, Op.move (Operand.tmp 46), _, _, _, _⟩) (v := ?_) rfl (by kernel_rfl) (by kernel_rfl) (by kernel_rfl) (by kernel_rfl) (fun _ _ _ h => h) (Or.inl ⟨by rfl, fun w hSw => ?_⟩) (by assumption) ?_
      rotate_left
      · (obtain ⟨s1, s2, s3, s4⟩ := hSw; go_simp; try with_reducible rfl)
      try simp only [Act.put, List.setIfInBounds_toArray, List.set_cons_zero, List.set_cons_succ]
      refine Late.take (i := 27) (oi := ⟨some 48, Op.move (Operand.tmp 3), _, _, _, _⟩) (v := ?_) rfl (by kernel_rfl) (by kernel_rfl) (by kernel_rfl) (by kernel_rfl) (fun _ _ _ h => h) (Or.inl ⟨by rfl, fun w hSw => ?_⟩) (by assumption) ?_
      rotate_left
      · (obtain ⟨s1, s2, s3, s4⟩ := hSw; go_simp; try with_reducible rfl)
      try simp only [Act.put, List.setIfInBounds_toArray, List.set_cons_zero, List.set_cons_succ]
      refine Late.take (i := 29) (oi := ⟨some 50, Op.move (Operand.tmp 4), _, _, _, _⟩) (v := ?_) rfl (by kernel_rfl) (by kernel_rfl) (by kernel_rfl) (by kernel_rfl) (fun _ _ _ h => h) (Or.inl ⟨by rfl, fun w hSw => ?_⟩) (by assumption) ?_
      rotate_left
      · (obtain ⟨s1, s2, s3, s4⟩ := hSw; go_simp; try with_reducible rfl)
      try simp only [Act.put, List.setIfInBounds_toArray, List.set_cons_zero, List.set_cons_succ]
      refine Late.take (i := 30) (oi := ⟨some 51, Op.nilCheck (Operand.tmp 50), _, _, _, _⟩) (v := ?_) rfl (by kernel_rfl) (by kernel_rfl) (by kernel_rfl) (by kernel_rfl) (fun _ _ _ h => h) (Or.inl ⟨by rfl, fun w hSw => ?_⟩) (by assumption) ?_
      rotate_left
      · (obtain ⟨s1, s2, s3, s4⟩ := hSw; go_simp; try with_reducible rfl)
      try simp only [Act.put, List.setIfInBounds_toArray, List.set_cons_zero, List.set_cons_succ]
      refine Late.take (i := 31) (oi := ⟨some 52, Op.fieldAddr 30 (Operand.tmp 51) 3, _, _, _, _⟩) (v := ?_) rfl (by kernel_rfl) (by kernel_rfl) (by kernel_rfl) (by kernel_rfl) (fun _ _ _ h => h) (Or.inl ⟨by rfl, fun w hSw => ?_⟩) (by assumption) ?_
      rotate_left
      · (obtain ⟨s1, s2, s3, s4⟩ := hSw; go_simp; try with_reducible rfl)
      try simp only [Act.put, List.setIfInBounds_toArray, List.set_cons_zero, List.set_cons_succ]
      refine Late.take (i := 32) (oi := ⟨some 53, Op.load 4 (Operand.tmp 52), _, _, _, _⟩) (v := ?_) rfl (by kernel_rfl) (by kernel_rfl) (by kernel_rfl) (by kernel_rfl) (fun _ _ _ h => h) (Or.inl ⟨by rfl, fun w hSw => ?_⟩) (by assumption) ?_
      rotate_left
      · (obtain ⟨s1, s2, s3, s4⟩ := hSw; go_simp; try with_reducible rfl)
      try simp only [Act.put, List.setIfInBounds_toArray, List.set_cons_zero, List.set_cons_succ]
      refine Late.one (i := 28) (o := ⟨some 49, Op.call { callee := Callee.value (Operand.func 14), args := #[Operand.tmp 48], argTypes := #[24] }, _, _, _, _⟩) (by kernel_rfl) rfl (fun K hK => ?_)
      go_simp
      refine (up_any HV.out.dk).mono ?_
      rintro e w' ⟨rfl, rfl⟩
      simp only [HUP.out]
      go_wp2_with fail
      refine hK.out _ _ (⟨v0, v1c, v2, v3⟩) (fun hHeld2 => ?_)
      clear hK K hHeld
      have hHeld := hHeld2
      clear hHeld2
      try simp only [Act.put, List.setIfInBounds_toArray, List.set_cons_zero, List.set_cons_succ]
      refine Late.take (i := 33) (oi := ⟨some 54, Op.binOp BinOp.eql 4 (Operand.tmp 49) (Operand.tmp 53) 4, _, _, _, _⟩) (v := ?_) rfl (by kernel_rfl) (by kernel_rfl) (by kernel_rfl) (by kernel_rfl) (fun _ _ _ h => h) (Or.inl ⟨by rfl, fun w hSw => ?_⟩) (by assumption) ?_
      rotate_left
      · (obtain ⟨s1, s2, s3, s4⟩ := hSw; go_simp; try with_reducible rfl)
      try simp only [Act.put, List.setIfInBounds_toArray, List.set_cons_zero, List.set_cons_succ]
      refine Late.take (i := 34) (oi := ⟨some 55, Op.pick (Operand.tmp 47) (Operand.const (Value.bool true)) (Operand.tmp 54), _, _, _, _⟩) (v := ?_) rfl (by kernel_rfl) (by kernel_rfl) (by kernel_rfl) (by kernel_rfl) (fun _ _ _ h => h) (Or.inl ⟨by rfl, fun w hSw => ?_⟩) (by assumption) ?_
      rotate_left
      · (obtain ⟨s1, s2, s3, s4⟩ := hSw; go_simp; try with_reducible rfl)
      try simp only [Act.put, List.setIfInBounds_toArray, List.set_cons_zero, List.set_cons_succ]
      refine Late.done (by kernel_rfl) ?_ _
      refine NoPanic.normal ?_
      have HO2 : Hid (Own v1 wr.heap.size A6 n6 q6) := Lib.hid (by obtain ⟨j, hj⟩ := HQ.out; rw [hj]; exact HOW.out.drewN j)
      obtain ⟨base, hbase⟩ : ∃ base, wr.heap.size = base := ⟨_, rfl⟩
      rw [hbase] at HO2 hsw
      have HAP2 : Hid (∀ a, A6 = some a → base ≤ a.block ∧ ¬ K a.block ∧ ¬ R a.block) := Lib.hid (by rw [← hbase]; exact HAP.out)
      clear h0 h1 h2 h3 v0 v1c v2 v3 hHeld HCELL HSM HOW HAP hbase HP1 hub
      go_wp2
      go_loopw [7] (fun i wx => ∃ j : Nat, j ≤ n6 ∧ i = .int .i64 (j : Int) ∧ Hid (Own wx base A6 n6 q6) ∧ Hid (Pair w wx D r K R s s)) (fun i _ => n6 - (intOf i).toNat)
      case atStart => exact ⟨0, by omega, rfl, HO2, HV⟩
      case round =>
        clear HO2 HV
        obtain ⟨j, hj, rfl, HO4, HP4⟩ := hrel
        by_cases hltj : j < n6
        · obtain ⟨g2, u, rfl, hg1, hg2, hu0, hu1, hcc, hff, HSS⟩ := HO4.out.at_ hltj
          have hjI : (j : Int) < (n6 : Int) := by omega
          have hap := HAP2.out _ rfl
          have HPX : Hid (∀ x : Int, Pair w (wr.setCell ⟨g2, j, none⟩ (.int .u8 x)) D r K R s s) := Lib.hid (fun x => HP4.out.far (p := ⟨g2, j, none⟩) hap.2.1 hap.2.2 (by show w.heap.size ≤ g2; omega) _)
          clear hap
          go_wp2
          go_roundw
          case rel => exact ⟨j + 1, by omega, by go_num, Lib.hid (HSS.out _ (by omega) (by omega)), Lib.hid (HPX.out _)⟩
          case measure => simp [intOf]; omega
        · have hjn : ¬ (j : Int) < (n6 : Int) := by omega
          by_cases hkm : k < m
          · have hkI : (k : Int) < m := by omega
            obtain ⟨b, off, rfl, hb, a0, a1, a2, a3⟩ := (HF.out.below HP4.out.bel).at_ hkm
            have HOK := Lib.hid (HF.out.ok k hkm)
            have hln : (F k).len ≤ 1000000 := by have h1 := HG.out (k + 1) (by omega); simp only [gsum] at h1; omega
            have HON := Lib.hid (one_any (F k) HP4.out HSm.out HOK.out hln)
            have HSZ2 : Hid (SizeB (dDo s (F k)).2 (gsum F (min (k + 1) m))) := Lib.hid (by
              rw [Nat.min_eq_left (by omega)]
              exact (dDo_size HZ.out (F k)).more (by rw [HOK.out.bs.len]; simp only [gsum]; omega))
            clear hln
            go_wp2_with fail
            refine HON.out.mono ?_
            rintro e w9 ⟨rfl, K9, R9, h9⟩
            have HN : Hid (∃ K R s, Pair w w9 D r K R s s ∧ SizeB s (gsum F (min (k + 1) m))) := Lib.hid ⟨K9, R9, _, h9, HSZ2.out⟩
            clear h9 a0 a1 a2 a3
            go_wp2
            go_roundw
            case rel => exact ⟨k + 1, by omega, by go_num, HN⟩
            case measure => simp [intOf]; omega
          · have hkI : ¬ (k : Int) < m := by omega
            have HN : Hid (∃ K R s, Pair w wr D r K R s s ∧ SizeB s (gsum F (min (k + 1) m))) := Lib.hid ⟨K, R, s, HP4.out, HZ.out.more (by rw [Nat.min_eq_right (by omega)]; exact gsum_le F k m hlt)⟩
            go_wp2
            go_roundw
            case rel => exact ⟨k + 1, by omega, by go_num, HN⟩
            case measure => simp [intOf]; omega
    · have hkm : ¬ (k : Int) ≤ m := by omega
      have HB := Lib.hid (show Below w.heap.size w wr by obtain ⟨K, R, s, h1, _⟩ := HS.out; exact h1.bel)
      go_wp2
      go_ret
      exact ⟨rfl, HB.out⟩
end Go.Proofs.Ytlbmhkccmclmfaa
