/- A configuration that is read: the program's. Printed by gen_msn.py. -/
import Derived.Test.YtfihiandifnkpaaMsL
namespace Go.Proofs.Ytfihiandifnkpaa
open Go.ChangeShapes Go.WideShapes Go.ChangeAt Go.RowKit
set_option linter.unusedVariables false
set_option maxRecDepth 100000
set_option linter.unusedSimpArgs false
open Plain Sha Ms
set_option maxHeartbeats 8000000 in
theorem takeconf_any {w : World} {b : Nat} {B : Span} {s : St} (h : RdP b B w s) (t : StM s) : Calls Try.prog 35 #[.pointer (some ⟨b, 0, none⟩)] w (ReadsC (RdP b B) b w (if (confR s).2.1 = 0 then (confR s).1.1 else 0) (if (confR s).2.1 = 0 then (confR s).1.2 else []) (confR s).2) := by
  obtain ⟨a1, s1, e1⟩ : ∃ a s', rInt s = (a, s') := ⟨_, _, rfl⟩
  obtain ⟨a2, s2, e2⟩ : ∃ a s', rCount 5 s1 = (a, s') := ⟨_, _, rfl⟩
  obtain ⟨g1, t1⟩ := int_rm t e1
  have t2 := count_rm t1 e2
  obtain ⟨c20, c21⟩ := count_le (by decide) e2
  obtain ⟨cnt, hcnt⟩ : ∃ c : Nat, a2 = (c : Int) := ⟨a2.toNat, by omega⟩
  subst hcnt
  have c22 : cnt ≤ 5 := by omega
  obtain ⟨M, s3, e3⟩ : ∃ l s', memsR cnt s2 = (l, s') := ⟨_, _, rfl⟩
  have HR : Hid (confR s = ((a1, M), s3)) := Lib.hid (by unfold confR; simp only [e1, e2, Int.toNat_natCast, e3])
  rw [HR.out]
  obtain ⟨EV, hEV⟩ : ∃ v, (if ((a1, M), s3).2.1 = 0 then ((a1, M), s3).1.1 else 0) = v := ⟨_, rfl⟩
  obtain ⟨MV, hMV⟩ : ∃ v, (if ((a1, M), s3).2.1 = 0 then ((a1, M), s3).1.2 else []) = v := ⟨_, rfl⟩
  rw [hEV, hMV]
  have HEV := Lib.hid hEV
  have HMV := Lib.hid hMV
  clear hEV hMV
  have HMR := Lib.hid (mems_rm cnt t2)
  rw [e3] at HMR
  have HMK := Lib.hid (fun k => mems_rm k t2)
  have E1 := Lib.hid e1
  have E2 := Lib.hid e2
  have E3 := Lib.hid e3
  have G1 := Lib.hid g1
  clear e1 e2 e3 c20 c21
  have RK := Lib.hid (rdk_P (B := B) (Rd.lt h))
  obtain ⟨W1, hW1⟩ : ∃ W, W = w.alloc (.cells #[.int .i64 0, .slice none 0 0] 26) := ⟨_, rfl⟩
  obtain ⟨g, hg⟩ : ∃ g, w.heap.size = g := ⟨_, rfl⟩
  have Hg := Lib.hid hg
  have V1 := Lib.hid (show VBox W1 g 2 (gc 0 none 0 0) by rw [hW1]; exact vbox_new _ (gc 0 none 0 0) _ _ _ hg rfl (by omega))
  have G0 := Lib.hid (show w.grownBy W1 (some b) by rw [hW1]; exact grown_alloc w _ _)
  have R0 := Lib.hid (show RdP b B W1 s from RK.out.keep w W1 s none h (by rw [hW1]; exact grown_alloc w _ _) (fun j hj => by cases hj))
  have GW0 := Lib.hid (grown_refl W1 (some b))
  have HW1 := Lib.hid hW1
  clear hW1 hg h
  go_enter Try.func35, Try.ntmps35
  go_upto_region 1 with fail
  rw [← HW1.out, Hg.out]
  go_upto_region 2 with (go_at_call 68; refine (int_st R0.out E1.out).mono ?_; rintro e v1 ⟨rfl, hr, hg⟩; have R1 := Lib.hid hr; have GW1 := Lib.hid (grown_trans GW0.out hg); clear hr hg; clear E1)
  obtain ⟨W2, hW2⟩ : ∃ W, W = v1.alloc (.cells #[.int .i64 a1, .slice none 0 0] 26) := ⟨_, rfl⟩
  obtain ⟨g3, hg3⟩ : ∃ g, v1.heap.size = g := ⟨_, rfl⟩
  have hg13 : g < g3 := by rw [← hg3]; exact Nat.lt_of_lt_of_le V1.out.lt GW1.out.size
  have Q2 : Hid (QS (RdP b B) b w W2 g3 2 g 2 s1 (gc a1 none 0 0) (gc 0 none 0 0) (g3 + 1) 91 3 (.slice none 0 0) 0 [] []) := Lib.hid (by
    have g2 : v1.grownBy W2 none := by rw [hW2]; exact grown_alloc v1 _ _
    have v3 : VBox W2 g3 2 (gc a1 none 0 0) := by rw [hW2]; exact vbox_new v1 (gc a1 none 0 0) _ _ _ hg3 rfl (by omega)
    have v2 : VBox W2 g 2 (gc 0 none 0 0) := V1.out.same ((g2.block g (by omega) (by simp)).trans (GW1.out.block g V1.out.lt (fun e => by injection e with e; have := RK.out.lt; have := Hg.out; omega)))
    exact ⟨RK.out.keep v1 W2 _ none R1.out g2 (fun j hj => by cases hj), grown_new (grown_trans G0.out GW1.out) g2 (fun j hj => by cases hj), RK.out, v3, v2, by have := Hg.out; omega, by have := Hg.out; omega, by omega, by omega, by omega, by rw [hW2]; simp [hg3], World.ownsRow_nil _ _ _ _, fun x hx => (by cases hx), by decide⟩)
  rw [← hW2, hg3]
  clear hW2 hg3 V1 G0 R0 GW0 R1 GW1
  go_wp2_with (go_at_call 70; refine (count_st 5 Q2.out.rd E2.out).mono ?_; rintro e v2 ⟨rfl, hr, hg⟩; have Q3 := Lib.hid (Q2.out.read hr hg); clear hr hg)
  go_loopw [9] (fun i wr => ∃ (k : Nat) (A : Option Addr) (c : Nat), k ≤ cnt ∧ i = .int .i64 k ∧ Hid (QS (RdP b B) b w wr g3 2 g 2 (memsR k s2).2 (gc a1 A k c) (gc 0 none 0 0) (g3 + 1) 91 3 (.slice A k c) k ((memsR k s2).1.flatMap bc) [])) (fun i _ => cnt - (intOf i).toNat)
  case atStart => exact ⟨0, none, 0, by omega, rfl, Q3⟩
  case round =>
    obtain ⟨k, A, c, hk, rfl, PR⟩ := hrel
    obtain ⟨x1, y1⟩ := PR.out.cell 1 rfl
    by_cases hlt : k < cnt
    · have hki : (k : Int) < (cnt : Int) := by omega
      obtain ⟨L, hL⟩ : ∃ L, (memsR k s2).1 = L := ⟨_, rfl⟩
      obtain ⟨z, hz⟩ : ∃ z, (memsR k s2).2 = z := ⟨_, rfl⟩
      obtain ⟨b1, u1, f1⟩ : ∃ a s', rInt z = (a, s') := ⟨_, _, rfl⟩
      obtain ⟨b2, u2, f2⟩ : ∃ a s', rInt u1 = (a, s') := ⟨_, _, rfl⟩
      obtain ⟨b3, u3, f3⟩ : ∃ a s', rFlag u2 = (a, s') := ⟨_, _, rfl⟩
      have HS : Hid (memsR (k + 1) s2 = (L ++ [⟨b1, b2, b3⟩], u3)) := Lib.hid (by
        show ((memsR k s2).1 ++ [(memR (memsR k s2).2).1], (memR (memsR k s2).2).2) = _
        rw [hL, hz]
        have : memR z = (⟨b1, b2, b3⟩, u3) := by unfold memR; simp only [f1, f2, f3]
        rw [this])
      rw [hL, hz] at PR
      have F1 := Lib.hid f1
      have F2 := Lib.hid f2
      have F3 := Lib.hid f3
      clear hL hz f1 f2 f3
      go_upto_region 4 with fail
      have PD := Lib.hid PR.out.drew1
      refine Late.region (fun w' => w'.cell? ⟨g3, 1, none⟩ = some (.slice A k c)) [12] (by kernel_rfl) (PD.out.cell 1 rfl).1 (fun hHeld => ?_)
      refine Late.take (i := 0) (oi := ⟨some 11, Op.fieldAddr 26 (Operand.tmp 3) 1, _, _, _, _⟩) (v := ?_) rfl (by kernel_rfl) (by kernel_rfl) (by kernel_rfl) (by kernel_rfl) (fun _ _ _ h => h) (Or.inl ⟨by rfl, fun w hSw => ?_⟩) (by assumption) ?_
      rotate_left
      · (have s1 := hSw; go_simp; try with_reducible rfl)
      try simp only [Act.put, List.setIfInBounds_toArray, List.set_cons_zero, List.set_cons_succ]
      refine Late.take (i := 1) (oi := ⟨some 12, Op.load 24 (Operand.tmp 11), _, _, _, _⟩) (v := ?_) rfl (by kernel_rfl) (by kernel_rfl) (by kernel_rfl) (by kernel_rfl) (fun _ _ _ h => h) (Or.inl ⟨by rfl, fun w hSw => ?_⟩) (by assumption) ?_
      rotate_left
      · (have s1 := hSw; go_simp; try with_reducible rfl)
      try simp only [Act.put, List.setIfInBounds_toArray, List.set_cons_zero, List.set_cons_succ]
      refine Late.take (i := 2) (oi := ⟨some 13, Op.move (Operand.tmp 0), _, _, _, _⟩) (v := ?_) rfl (by kernel_rfl) (by kernel_rfl) (by kernel_rfl) (by kernel_rfl) (fun _ _ _ h => h) (Or.inl ⟨by rfl, fun w hSw => ?_⟩) (by assumption) ?_
      rotate_left
      · (have s1 := hSw; go_simp; try with_reducible rfl)
      try simp only [Act.put, List.setIfInBounds_toArray, List.set_cons_zero, List.set_cons_succ]
      refine Late.take (i := 4) (oi := ⟨some 15, Op.move (Operand.tmp 0), _, _, _, _⟩) (v := ?_) rfl (by kernel_rfl) (by kernel_rfl) (by kernel_rfl) (by kernel_rfl) (fun _ _ _ h => h) (Or.inl ⟨by rfl, fun w hSw => ?_⟩) (by assumption) ?_
      rotate_left
      · (have s1 := hSw; go_simp; try with_reducible rfl)
      try simp only [Act.put, List.setIfInBounds_toArray, List.set_cons_zero, List.set_cons_succ]
      refine Late.take (i := 6) (oi := ⟨some 17, Op.move (Operand.tmp 0), _, _, _, _⟩) (v := ?_) rfl (by kernel_rfl) (by kernel_rfl) (by kernel_rfl) (by kernel_rfl) (fun _ _ _ h => h) (Or.inl ⟨by rfl, fun w hSw => ?_⟩) (by assumption) ?_
      rotate_left
      · (have s1 := hSw; go_simp; try with_reducible rfl)
      try simp only [Act.put, List.setIfInBounds_toArray, List.set_cons_zero, List.set_cons_succ]
      refine Late.one (i := 3) (o := ⟨some 14, Op.call { callee := Callee.value (Operand.func 68), args := #[Operand.tmp 13], argTypes := #[59] }, _, _, _, _⟩) (by kernel_rfl) rfl (fun K hK => ?_)
      go_simp
      refine (int_st PD.out.rd F1.out).mono ?_
      rintro e v3 ⟨rfl, hr, hg⟩
      have P3 := Lib.hid (PD.out.read hr hg)
      clear hr hg
      refine hK.out _ _ ((P3.out.cell 1 rfl).1) (fun hHeld2 => ?_)
      clear hK K hHeld
      have hHeld := hHeld2
      clear hHeld2
      try simp only [Act.put, List.setIfInBounds_toArray, List.set_cons_zero, List.set_cons_succ]
      refine Late.one (i := 5) (o := ⟨some 16, Op.call { callee := Callee.value (Operand.func 68), args := #[Operand.tmp 15], argTypes := #[59] }, _, _, _, _⟩) (by kernel_rfl) rfl (fun K hK => ?_)
      go_simp
      refine (int_st P3.out.rd F2.out).mono ?_
      rintro e v4 ⟨rfl, hr, hg⟩
      have P4 := Lib.hid (P3.out.read hr hg)
      clear hr hg
      refine hK.out _ _ ((P4.out.cell 1 rfl).1) (fun hHeld2 => ?_)
      clear hK K hHeld
      have hHeld := hHeld2
      clear hHeld2
      try simp only [Act.put, List.setIfInBounds_toArray, List.set_cons_zero, List.set_cons_succ]
      refine Late.one (i := 7) (o := ⟨some 18, Op.call { callee := Callee.value (Operand.func 71), args := #[Operand.tmp 17], argTypes := #[59] }, _, _, _, _⟩) (by kernel_rfl) rfl (fun K hK => ?_)
      go_simp
      refine (flag_st P4.out.rd F3.out).mono ?_
      rintro e v5 ⟨rfl, hr, hg⟩
      have P5 := Lib.hid (P4.out.read hr hg)
      clear hr hg
      have PA := Lib.hid (P5.out.grow (grown_alloc v5 (.cells #[.int .i64 b1, .int .i64 b2, .bool b3] 91) none))
      refine hK.out _ _ ((P5.out.cell 1 rfl).1) (fun hHeld2 => ?_)
      clear hK K hHeld
      have hHeld := hHeld2
      clear hHeld2
      try simp only [Act.put, List.setIfInBounds_toArray, List.set_cons_zero, List.set_cons_succ]
      refine Late.one (i := 8) (o := ⟨some 19, Op.build 91 #[(0, Operand.tmp 14), (1, Operand.tmp 16), (2, Operand.tmp 18)], _, _, _, _⟩) (by kernel_rfl) rfl (fun K hK => ?_)
      go_simp
      refine hK.out _ _ ((P5.out.cell 1 rfl).1) (fun hHeld2 => ?_)
      clear hK K hHeld
      have hHeld := hHeld2
      clear hHeld2
      try simp only [Act.put, List.setIfInBounds_toArray, List.set_cons_zero, List.set_cons_succ]
      refine Late.one (i := 9) (o := ⟨some 20, Op.buildSlice 24 1 #[(0, Operand.tmp 19)], _, _, _, _⟩) (by kernel_rfl) rfl (fun K hK => ?_)
      go_simp
      refine hK.out _ _ ((PA.out.cell 1 rfl).1) (fun hHeld2 => ?_)
      clear hK K hHeld
      have hHeld := hHeld2
      clear hHeld2
      try simp only [Act.put, List.setIfInBounds_toArray, List.set_cons_zero, List.set_cons_succ]
      refine Late.one (i := 10) (o := ⟨some 21, Op.call { callee := Callee.builtin Builtin.append, args := #[Operand.tmp 12, Operand.tmp 20], argTypes := #[24, 24] }, _, _, _, _⟩) (by kernel_rfl) rfl (fun K hK => ?_)
      refine step_app (v5.alloc (.cells #[.int .i64 b1, .int .i64 b2, .bool b3] 91)) rfl (.tmp 12) (.tmp 20) 24 rfl (g3 + 1) 91 3 24 Try.underlying24 b_info (by omega) (.slice A k c) k (L.flatMap bc) (by rfl) PA.out.ow (some ⟨v5.heap.size, 0, none⟩) 1 1 ([(⟨b1, b2, b3⟩ : MemZ)].flatMap bc) (by rfl) ((rws_new (f := bc) v5 ⟨b1, b2, b3⟩ 91).lies bc_len (by omega)).1 ((rws_new (f := bc) v5 ⟨b1, b2, b3⟩ 91).lies bc_len (by omega)).2 (flat_one bc_one _) (by unfold maxLen; omega) (by omega) PA.out.ms ?_
      intro v1 w9 ho1 hg1 _
      obtain ⟨A9, c9, rfl, _, _⟩ := own_shapeM ho1
      rw [← List.flatMap_append] at ho1
      have P9 := Lib.hid (PA.out.app ho1 hg1)
      clear ho1 hg1
      refine hK.out _ _ ((P9.out.cell 1 rfl).1) (fun hHeld2 => ?_)
      clear hK K hHeld
      have hHeld := hHeld2
      clear hHeld2
      try simp only [Act.put, List.setIfInBounds_toArray, List.set_cons_zero, List.set_cons_succ]
      refine Late.take (i := 11) (oi := ⟨some 22, Op.fieldAddr 26 (Operand.tmp 3) 1, _, _, _, _⟩) (v := ?_) rfl (by kernel_rfl) (by kernel_rfl) (by kernel_rfl) (by kernel_rfl) (fun _ _ _ h => h) (Or.inl ⟨by rfl, fun w hSw => ?_⟩) (by assumption) ?_
      rotate_left
      · (have s1 := hSw; go_simp; try with_reducible rfl)
      try simp only [Act.put, List.setIfInBounds_toArray, List.set_cons_zero, List.set_cons_succ]
      refine Late.end_ (i := 12) (o := ⟨none, Op.store 24 (Operand.tmp 22) (Operand.tmp 21), _, _, _, _⟩) (by kernel_rfl) rfl rfl (fun K hK => ?_)
      obtain ⟨x1', y1'⟩ := P9.out.cell 1 rfl
      go_simp
      refine hK.out _ _ ?_
      clear hK K
      try simp only [Act.put]
      refine Late.done (by kernel_rfl) ?_ _
      refine NoPanic.normal ?_
      clear hHeld
      go_wp2
      have P10 := Lib.hid (P9.out.set (i := 1) (by omega) (.slice A9 ((k + 1 : Nat)) c9))
      go_roundw
      case rel => exact ⟨k + 1, A9, c9, by omega, by go_num, Lib.hid (by rw [HS.out]; exact P10.out)⟩
      case measure => simp [intOf]; omega
    · have hki : ¬ (k : Int) < (cnt : Int) := by omega
      obtain rfl : k = cnt := by omega
      rw [E3.out] at PR
      have hlM : M.length = k := HMR.out.2.1
      have ER := Lib.hid (err_any PR.out.rd)
      obtain ⟨x0, y0⟩ := PR.out.cell 0 rfl
      by_cases hb : s3.1 = 0
      · have hbb : (s3.1 != 0) = false := by simp [hb]
        have hE : a1 = EV := by rw [← HEV.out]; exact (if_pos hb).symm
        have hM2 : M = MV := by rw [← HMV.out]; exact (if_pos hb).symm
        subst hE hM2
        have u0 := PR.out.box2.at1 (i := 0) rfl
        have v0 := PR.out.box2.fr1 (i := 0) (by omega)
        have U0 := Lib.hid (PR.out.box2.set1 (i := 0) (by omega) (.int .i64 a1))
        have u1 := U0.out.at1 (i := 1) rfl
        have v1 := U0.out.fr1 (i := 1) (by omega)
        have U1 := Lib.hid (U0.out.set1 (i := 1) (by omega) (.slice A k c))
        clear hb
        go_wp2_with (go_at_call 69; refine ER.out.mono ?_; rintro e v8 ⟨rfl, rfl⟩)
        obtain ⟨w9, hw9⟩ : ∃ W, W = (wr.setCell ⟨g, 0, none⟩ (.int .i64 a1)).setCell ⟨g, 1, none⟩ (.slice A k c) := ⟨_, rfl⟩
        rw [← hw9]
        have g9 : wr.grownBy w9 (some g) := by rw [hw9]; exact grown_trans (grown_cell wr ⟨g, 0, none⟩ _) (grown_cell _ ⟨g, 1, none⟩ _)
        have V9 : VBox w9 g 2 (gc a1 A k c) := by rw [hw9]; exact U1.out
        have R9 := RK.out.keep wr w9 _ (some g) PR.out.rd g9 (fun j hj => by injection hj with hj; have := Hg.out; omega)
        have G9 := grown_new PR.out.gb g9 (fun j hj => by injection hj with hj; have := Hg.out; omega)
        have O9 : w9.ownsRow w.heap.size 91 3 (.slice A k c) k (M.flatMap bc) := own_base (own_keepB PR.out.ow (fun j h1 h2 => g9.block j h2 (fun e => by injection e with e; omega))) (by have := Hg.out; omega)
        have hcap : k ≤ c ∧ c ≤ maxLen := by
          obtain ⟨A', c', e, h1, h2⟩ := own_shapeM PR.out.ow
          injection e with _ _ e
          subst e
          exact ⟨h1, h2⟩
        exact bodyPost_ret (v := .agg (gc a1 A k c).toArray) (results_mid (p := 2) (ty := 26) rfl _ _ g 0 _ _ rfl V9.range Try.underlying26 rfl (g_size _ _ _ _)) rfl ⟨A, c, by rw [hlM], R9, G9, by rw [hlM]; exact O9, HMR.out.1, G1.out, by rw [hlM]; exact hcap.1, hcap.2⟩
      · have hbb : (s3.1 != 0) = true := by simp [hb]
        have hE : 0 = EV := by rw [← HEV.out]; exact (if_neg hb).symm
        have hM2 : [] = MV := by rw [← HMV.out]; exact (if_neg hb).symm
        subst hE hM2
        have u0 := PR.out.box2.at1 (i := 0) rfl
        have v0 := PR.out.box2.fr1 (i := 0) (by omega)
        have U0 := Lib.hid (PR.out.box2.set1 (i := 0) (by omega) (.int .i64 0))
        have u1 := U0.out.at1 (i := 1) rfl
        have v1 := U0.out.fr1 (i := 1) (by omega)
        have U1 := Lib.hid (U0.out.set1 (i := 1) (by omega) (.slice none 0 0))
        clear hb
        go_wp2_with (go_at_call 69; refine ER.out.mono ?_; rintro e v8 ⟨rfl, rfl⟩)
        obtain ⟨w9, hw9⟩ : ∃ W, W = (wr.setCell ⟨g, 0, none⟩ (.int .i64 0)).setCell ⟨g, 1, none⟩ (.slice none 0 0) := ⟨_, rfl⟩
        rw [← hw9]
        have g9 : wr.grownBy w9 (some g) := by rw [hw9]; exact grown_trans (grown_cell wr ⟨g, 0, none⟩ _) (grown_cell _ ⟨g, 1, none⟩ _)
        have V9 : VBox w9 g 2 (gc 0 none 0 0) := by rw [hw9]; exact U1.out
        have R9 := RK.out.keep wr w9 _ (some g) PR.out.rd g9 (fun j hj => by injection hj with hj; have := Hg.out; omega)
        have G9 := grown_new PR.out.gb g9 (fun j hj => by injection hj with hj; have := Hg.out; omega)
        have O9 : w9.ownsRow w.heap.size 91 3 (.slice A k c) k (M.flatMap bc) := own_base (own_keepB PR.out.ow (fun j h1 h2 => g9.block j h2 (fun e => by injection e with e; omega))) (by have := Hg.out; omega)
        have hcap : k ≤ c ∧ c ≤ maxLen := by
          obtain ⟨A', c', e, h1, h2⟩ := own_shapeM PR.out.ow
          injection e with _ _ e
          subst e
          exact ⟨h1, h2⟩
        exact bodyPost_ret (v := .agg (gc 0 none 0 0).toArray) (results_mid (p := 2) (ty := 26) rfl _ _ g 0 _ _ rfl V9.range Try.underlying26 rfl (g_size _ _ _ _)) rfl ⟨none, 0, rfl, R9, G9, World.ownsRow_nil _ _ _ _, fun x hx => (by cases hx), inM0, Nat.zero_le _, Nat.zero_le _⟩
end Go.Proofs.Ytfihiandifnkpaa
