/- Batches, Kinds that are read: the program's. Printed by gen_mso.py. -/
import Derived.Test.YtfihiandifnkpaaMsN
namespace Go.Proofs.Ytfihiandifnkpaa
open Go.ChangeShapes Go.WideShapes Go.ChangeAt Go.RowKit
set_option linter.unusedVariables false
set_option maxRecDepth 100000
set_option linter.unusedSimpArgs false
open Plain Sha Ms
theorem eok_of_own {w : World} {m : Nat} {x : EX} (ho : w.ownsRow m 5 1 (.slice x.A x.n x.c) x.n (vals x.body)) (hz : EntOk x.z) : EOk w w.heap.size x := by
  obtain ⟨A', c', e, h1, h2⟩ := own_shapeM ho
  injection e with e1 e2 e3
  subst e3
  exact ⟨hz.pos, hz.stamp, hz.client, hz.id, h1, h2, bs_of_own ho hz.body⟩
theorem ents_of_own {w : World} {m n c : Nat} {A : Option Addr} {l : List EX} (h : w.ownsRow m 42 5 (.slice A n c) n (l.flatMap ec)) (hb : Bodies w m l) (hz : ∀ z, z ∈ l.map EX.z → EntOk z) : Ents w w.heap.size A n l :=
  ⟨rws_of_own ec_len (by omega) h, fun x hx => eok_of_own (hb x hx) (hz _ (List.mem_map_of_mem hx))⟩
theorem build_m45 (a c : Int) (W : World) : (Instr.build 28 #[(4, .int .i64 a), (5, .int .i64 c)]).run Try.prog W = .ok (.agg (mc { mx0 with upto := a, frm := c }).toArray) W := run_build W 28 _ _ (by kernel_rfl)
theorem build_m123 (a c : Int) (A : Option Addr) (n k : Nat) (W : World) : (Instr.build 28 #[(1, .int .i64 a), (2, .int .i64 c), (3, .slice A n k)]).run Try.prog W = .ok (.agg (mc { mx0 with client := a, id := c, A := A, n := n, c := k }).toArray) W := run_build W 28 _ _ (by kernel_rfl)
theorem build_m78 (a c : Int) (W : World) : (Instr.build 28 #[(7, .int .i64 a), (8, .int .i64 c)]).run Try.prog W = .ok (.agg (mc { mx0 with hav := a, don := c }).toArray) W := run_build W 28 _ _ (by kernel_rfl)
theorem build_m9 (a : Int) (A : Option Addr) (n k : Nat) (W : World) : (Instr.build 28 #[(9, .agg (gc a A n k).toArray)]).run Try.prog W = .ok (.agg (mc { mx0 with ep := a, MA := A, mn := n, mcp := k }).toArray) W := run_build W 28 _ _ (by kernel_rfl)
theorem build_m10 (a : Int) (W : World) : (Instr.build 28 #[(10, .int .i64 a)]).run Try.prog W = .ok (.agg (mc { mx0 with since := a }).toArray) W := run_build W 28 _ _ (by kernel_rfl)
theorem build_m0 (W : World) : (Instr.build 28 #[]).run Try.prog W = .ok (.agg (mc mx0).toArray) W := run_build W 28 _ _ (by kernel_rfl)
theorem exec_bm0 {P : Program} {a : Act} {op : Oper} {t : TypeId} {v : Value} {w : World} (ho : op.op = .build t #[]) (h : (Instr.build t #[]).run P w = .ok v w) : (execOp a.eval op).run P w = .ok (.value v) w := by
  unfold execOp
  simp only [ho]
  simp [h]
theorem exec_bm1 {P : Program} {a : Act} {op : Oper} {t : TypeId} {i : Nat} {x : Operand} {u v : Value} {w : World} (ho : op.op = .build t #[(i, x)]) (h1 : a.eval x = u) (h : (Instr.build t #[(i, u)]).run P w = .ok v w) : (execOp a.eval op).run P w = .ok (.value v) w := by
  unfold execOp
  simp only [ho]
  simp only [List.map_toArray, List.map_cons, List.map_nil, h1]
  simp [h]
theorem exec_bm2 {P : Program} {a : Act} {op : Oper} {t : TypeId} {i j : Nat} {x y : Operand} {u1 u2 v : Value} {w : World} (ho : op.op = .build t #[(i, x), (j, y)]) (h1 : a.eval x = u1) (h2 : a.eval y = u2) (h : (Instr.build t #[(i, u1), (j, u2)]).run P w = .ok v w) : (execOp a.eval op).run P w = .ok (.value v) w := by
  unfold execOp
  simp only [ho]
  simp only [List.map_toArray, List.map_cons, List.map_nil, h1, h2]
  simp [h]
theorem exec_bm3 {P : Program} {a : Act} {op : Oper} {t : TypeId} {i j k : Nat} {x y z : Operand} {u1 u2 u3 v : Value} {w : World} (ho : op.op = .build t #[(i, x), (j, y), (k, z)]) (h1 : a.eval x = u1) (h2 : a.eval y = u2) (h3 : a.eval z = u3) (h : (Instr.build t #[(i, u1), (j, u2), (k, u3)]).run P w = .ok v w) : (execOp a.eval op).run P w = .ok (.value v) w := by
  unfold execOp
  simp only [ho]
  simp only [List.map_toArray, List.map_cons, List.map_nil, h1, h2, h3]
  simp [h]
namespace Ms
def mxA (a c : Int) (A : Option Addr) (n k : Nat) (l : List EX) : MX := { mx0 with upto := a, frm := c, EA := A, en := n, ecp := k, es := l }
def mcA (a c : Int) (A : Option Addr) (n k : Nat) : List Value := mc (mxA a c A n k [])
end Ms
set_option maxHeartbeats 8000000 in
theorem takeapp_any {w : World} {b : Nat} {B : Span} {s : St} (h : RdP b B w s) (t : StM s) : Calls Try.prog 97 #[.pointer (some ⟨b, 0, none⟩)] w (ReadsM (RdP b B) b w (fun z => z = { (ownR 2 s).1 with kind := 0 }) (ownR 2 s).2) := by
  obtain ⟨a1, s1, e1⟩ : ∃ a s', rInt s = (a, s') := ⟨_, _, rfl⟩
  obtain ⟨a2, s2, e2⟩ : ∃ a s', rInt s1 = (a, s') := ⟨_, _, rfl⟩
  obtain ⟨a3, s3, e3⟩ : ∃ a s', rCount 4 s2 = (a, s') := ⟨_, _, rfl⟩
  obtain ⟨g1, t1⟩ := int_rm t e1
  obtain ⟨g2, t2⟩ := int_rm t1 e2
  have t3 := count_rm t2 e3
  obtain ⟨c20, c21⟩ := count_le (by decide) e3
  obtain ⟨cnt, hcnt⟩ : ∃ c : Nat, a3 = (c : Int) := ⟨a3.toNat, by omega⟩
  subst hcnt
  have c22 : cnt ≤ 4 := by omega
  obtain ⟨M, s4, e4⟩ : ∃ l s', entsR a2 cnt s3 = (l, s') := ⟨_, _, rfl⟩
  have HR : Hid (ownR 2 s = ({ mz0 with kind := 2, upto := a1, frm := a2, es := M }, s4)) := Lib.hid (by unfold ownR; simp [e1, e2, e3, e4])
  rw [HR.out]
  have HMK := Lib.hid (fun k => ents_rm (frm := a2) k t3)
  have E1 := Lib.hid e1
  have E2 := Lib.hid e2
  have E3 := Lib.hid e3
  have E4 := Lib.hid e4
  have G1 := Lib.hid g1
  have G2 := Lib.hid g2
  clear e1 e2 e3 e4 c20 c21
  have RK := Lib.hid (rdk_P (B := B) (Rd.lt h))
  obtain ⟨W1, hW1⟩ : ∃ W, W = w.alloc (.cells #[.int .u8 0, .int .i64 0, .int .i64 0, .slice none 0 0, .int .i64 0, .int .i64 0, .slice none 0 0, .int .i64 0, .int .i64 0, .int .i64 0, .slice none 0 0, .int .i64 0] 28) := ⟨_, rfl⟩
  obtain ⟨g, hg⟩ : ∃ g, w.heap.size = g := ⟨_, rfl⟩
  have Hg := Lib.hid hg
  have V1 := Lib.hid (show VBox W1 g 12 (mc mx0) by rw [hW1]; exact vbox_new _ (mc mx0) _ _ _ hg rfl (by omega))
  have G0 := Lib.hid (show w.grownBy W1 (some b) by rw [hW1]; exact grown_alloc w _ _)
  have R0 := Lib.hid (show RdP b B W1 s from RK.out.keep w W1 s none h (by rw [hW1]; exact grown_alloc w _ _) (fun j hj => by cases hj))
  have GW0 := Lib.hid (grown_refl W1 (some b))
  have HW1 := Lib.hid hW1
  clear hW1 hg h
  go_enter Try.func97, Try.ntmps97
  go_upto_region 1 with fail
  rw [← HW1.out, Hg.out]
  go_upto_region 2 with (first
        | (go_at_call 68; refine (int_st R0.out E1.out).mono ?_; rintro e v1 ⟨rfl, hr, hg⟩; have R1 := Lib.hid hr; have GW1 := Lib.hid (grown_trans GW0.out hg); clear hr hg; clear E1)
        | (go_at_call 68; refine (int_st R1.out E2.out).mono ?_; rintro e v2 ⟨rfl, hr, hg⟩; have R2 := Lib.hid hr; have GW2 := Lib.hid (grown_trans GW1.out hg); clear hr hg; clear E2))
  obtain ⟨W2, hW2⟩ : ∃ W, W = v2.alloc (.cells #[.int .u8 0, .int .i64 0, .int .i64 0, .slice none 0 0, .int .i64 a1, .int .i64 a2, .slice none 0 0, .int .i64 0, .int .i64 0, .int .i64 0, .slice none 0 0, .int .i64 0] 28) := ⟨_, rfl⟩
  obtain ⟨g3, hg3⟩ : ∃ g, v2.heap.size = g := ⟨_, rfl⟩
  have hg13 : g < g3 := by rw [← hg3]; exact Nat.lt_of_lt_of_le V1.out.lt GW2.out.size
  have Q2 : Hid (QS (RdP b B) b w W2 g3 12 g 12 s2 (mcA a1 a2 none 0 0) (mc mx0) (g3 + 1) 42 5 (.slice none 0 0) 0 [] []) := Lib.hid (by
    have g2 : v2.grownBy W2 none := by rw [hW2]; exact grown_alloc v2 _ _
    have v3 : VBox W2 g3 12 (mcA a1 a2 none 0 0) := by rw [hW2]; exact vbox_new v2 (mcA a1 a2 none 0 0) _ _ _ hg3 rfl (by omega)
    have v2' : VBox W2 g 12 (mc mx0) := V1.out.same ((g2.block g (by omega) (by simp)).trans (GW2.out.block g V1.out.lt (fun e => by injection e with e; have := RK.out.lt; have := Hg.out; omega)))
    exact ⟨RK.out.keep v2 W2 _ none R2.out g2 (fun j hj => by cases hj), grown_new (grown_trans G0.out GW2.out) g2 (fun j hj => by cases hj), RK.out, v3, v2', by have := Hg.out; omega, by have := Hg.out; omega, by omega, by omega, by omega, by rw [hW2]; simp [hg3], World.ownsRow_nil _ _ _ _, fun x hx => (by cases hx), by decide⟩)
  rw [← hW2, hg3]
  clear hW2 hg3 V1 G0 R0 GW0 R1 GW1 R2 GW2
  go_wp2_with (go_at_call 70; refine (count_st 4 Q2.out.rd E3.out).mono ?_; rintro e v2 ⟨rfl, hr, hg⟩; have Q3 := Lib.hid (Q2.out.read hr hg); clear hr hg)
  go_loopw [12] (fun i wr => ∃ (k : Nat) (A : Option Addr) (c : Nat) (l : List EX), k ≤ cnt ∧ i = .int .i64 k ∧ Hid (l.map EX.z = (entsR a2 k s3).1) ∧ Hid (QS (RdP b B) b w wr g3 12 g 12 (entsR a2 k s3).2 (mcA a1 a2 A k c) (mc mx0) (g3 + 1) 42 5 (.slice A k c) k (l.flatMap ec) l)) (fun i _ => cnt - (intOf i).toNat)
  case atStart => exact ⟨0, none, 0, [], by omega, rfl, Lib.hid rfl, Q3⟩
  case round =>
    obtain ⟨k, A, c, l, hk, rfl, HL, PR⟩ := hrel
    obtain ⟨x6, y6⟩ := PR.out.cell 6 rfl
    by_cases hlt : k < cnt
    · have hki : (k : Int) < (cnt : Int) := by omega
      obtain ⟨L, hL⟩ : ∃ L, (entsR a2 k s3).1 = L := ⟨_, rfl⟩
      obtain ⟨z, hz⟩ : ∃ z, (entsR a2 k s3).2 = z := ⟨_, rfl⟩
      obtain ⟨pv, hpv⟩ : ∃ p, wrap64 (a2 + k) = p := ⟨_, rfl⟩
      have hw : IntKind.i64.wrap (a2 + k) = pv := by rw [← hpv, IntKind.wrap_i64]; unfold wrap64; omega
      obtain ⟨y, u, f1⟩ : ∃ a s', restR pv z = (a, s') := ⟨_, _, rfl⟩
      have HS : Hid (entsR a2 (k + 1) s3 = (L ++ [y], u)) := Lib.hid (by
        show ((entsR a2 k s3).1 ++ [(restR (wrap64 (a2 + k)) (entsR a2 k s3).2).1], (restR (wrap64 (a2 + k)) (entsR a2 k s3).2).2) = _
        rw [hL, hz, hpv, f1])
      have HT := Lib.hid (show StM z ∧ InM pv from ⟨by rw [← hz]; exact (HMK.out k).2.2, by rw [← hpv]; exact wrap_in _⟩)
      rw [hz] at PR
      rw [hL] at HL
      have F1 := Lib.hid f1
      clear hL hz f1 hpv
      go_upto_region 5 with fail
      have PD := Lib.hid PR.out.drew1
      refine Late.region (fun w' => w'.cell? ⟨g3, 6, none⟩ = some (.slice A k c) ∧ w'.cell? ⟨g3, 5, none⟩ = some (.int .i64 a2)) [11] (by kernel_rfl) ⟨(PD.out.cell 6 rfl).1, (PD.out.cell 5 rfl).1⟩ (fun hHeld => ?_)
      refine Late.take (i := 0) (oi := ⟨some 15, Op.fieldAddr 28 (Operand.tmp 3) 6, _, _, _, _⟩) (v := ?_) rfl (by kernel_rfl) (by kernel_rfl) (by kernel_rfl) (by kernel_rfl) (fun _ _ _ h => h) (Or.inl ⟨by rfl, fun w hSw => ?_⟩) (by assumption) ?_
      rotate_left
      · (have s1 := hSw; go_simp; try with_reducible rfl)
      try simp only [Act.put, List.setIfInBounds_toArray, List.set_cons_zero, List.set_cons_succ]
      refine Late.take (i := 1) (oi := ⟨some 16, Op.load 23 (Operand.tmp 15), _, _, _, _⟩) (v := ?_) rfl (by kernel_rfl) (by kernel_rfl) (by kernel_rfl) (by kernel_rfl) (fun _ _ _ h => h) (Or.inl ⟨by rfl, fun w hSw => ?_⟩) (by assumption) ?_
      rotate_left
      · (obtain ⟨d6, d5⟩ := hSw; go_simp; try with_reducible rfl)
      try simp only [Act.put, List.setIfInBounds_toArray, List.set_cons_zero, List.set_cons_succ]
      refine Late.take (i := 2) (oi := ⟨some 17, Op.move (Operand.tmp 0), _, _, _, _⟩) (v := ?_) rfl (by kernel_rfl) (by kernel_rfl) (by kernel_rfl) (by kernel_rfl) (fun _ _ _ h => h) (Or.inl ⟨by rfl, fun w hSw => ?_⟩) (by assumption) ?_
      rotate_left
      · (have s1 := hSw; go_simp; try with_reducible rfl)
      try simp only [Act.put, List.setIfInBounds_toArray, List.set_cons_zero, List.set_cons_succ]
      refine Late.take (i := 3) (oi := ⟨some 18, Op.fieldAddr 28 (Operand.tmp 3) 5, _, _, _, _⟩) (v := ?_) rfl (by kernel_rfl) (by kernel_rfl) (by kernel_rfl) (by kernel_rfl) (fun _ _ _ h => h) (Or.inl ⟨by rfl, fun w hSw => ?_⟩) (by assumption) ?_
      rotate_left
      · (have s1 := hSw; go_simp; try with_reducible rfl)
      try simp only [Act.put, List.setIfInBounds_toArray, List.set_cons_zero, List.set_cons_succ]
      refine Late.take (i := 4) (oi := ⟨some 19, Op.load 3 (Operand.tmp 18), _, _, _, _⟩) (v := ?_) rfl (by kernel_rfl) (by kernel_rfl) (by kernel_rfl) (by kernel_rfl) (fun _ _ _ h => h) (Or.inl ⟨by rfl, fun w hSw => ?_⟩) (by assumption) ?_
      rotate_left
      · (obtain ⟨d6, d5⟩ := hSw; go_simp; try with_reducible rfl)
      try simp only [Act.put, List.setIfInBounds_toArray, List.set_cons_zero, List.set_cons_succ]
      refine Late.take (i := 5) (oi := ⟨some 20, Op.move (Operand.tmp 4), _, _, _, _⟩) (v := ?_) rfl (by kernel_rfl) (by kernel_rfl) (by kernel_rfl) (by kernel_rfl) (fun _ _ _ h => h) (Or.inl ⟨by rfl, fun w hSw => ?_⟩) (by assumption) ?_
      rotate_left
      · (have s1 := hSw; go_simp; try with_reducible rfl)
      try simp only [Act.put, List.setIfInBounds_toArray, List.set_cons_zero, List.set_cons_succ]
      refine Late.take (i := 6) (oi := ⟨some 21, Op.binOp BinOp.add 3 (Operand.tmp 19) (Operand.tmp 20) 3, _, _, _, _⟩) (v := ?_) rfl (by kernel_rfl) (by kernel_rfl) (by kernel_rfl) (by kernel_rfl) (fun _ _ _ h => h) (Or.inl ⟨by rfl, fun w hSw => ?_⟩) (by assumption) ?_
      rotate_left
      · (have s1 := hSw; go_simp; try with_reducible rfl)
      try simp only [Act.put, List.setIfInBounds_toArray, List.set_cons_zero, List.set_cons_succ]
      refine Late.one (i := 7) (o := ⟨some 22, Op.call { callee := Callee.value (Operand.func 67), args := #[Operand.tmp 17, Operand.tmp 21], argTypes := #[59, 3] }, _, _, _, _⟩) (by kernel_rfl) rfl (fun K hK => ?_)
      go_simp
      refine (takerest_any PD.out.rd pv HT.out.2 HT.out.1).mono ?_
      rintro e v3 ⟨x, he, hzx, hr, hg, ho, hx, hn⟩
      have he : e = .returned (.agg #[.int .i64 x.pos, .int .i64 x.stamp, .int .i64 x.client, .int .i64 x.id, .slice x.A x.n x.c]) := he
      subst he
      have P3 := Lib.hid ((PD.out.read hr hg).body (own_base ho PD.out.ms))
      have PA := Lib.hid (P3.out.grow (grown_alloc v3 (.cells #[.int .i64 x.pos, .int .i64 x.stamp, .int .i64 x.client, .int .i64 x.id, .slice x.A x.n x.c] 42) none))
      have HZX : Hid (x.z = y ∧ (restR pv z).2 = u) := Lib.hid (by rw [hzx, F1.out]; exact ⟨rfl, rfl⟩)
      clear hr hg ho hx hzx
      refine hK.out _ _ (⟨(P3.out.cell 6 rfl).1, (P3.out.cell 5 rfl).1⟩) (fun hHeld2 => ?_)
      clear hK K hHeld
      have hHeld := hHeld2
      clear hHeld2
      try simp only [Act.put, List.setIfInBounds_toArray, List.set_cons_zero, List.set_cons_succ]
      refine Late.one (i := 8) (o := ⟨some 23, Op.buildSlice 23 1 #[(0, Operand.tmp 22)], _, _, _, _⟩) (by kernel_rfl) rfl (fun K hK => ?_)
      go_simp
      refine hK.out _ _ (⟨(PA.out.cell 6 rfl).1, (PA.out.cell 5 rfl).1⟩) (fun hHeld2 => ?_)
      clear hK K hHeld
      have hHeld := hHeld2
      clear hHeld2
      try simp only [Act.put, List.setIfInBounds_toArray, List.set_cons_zero, List.set_cons_succ]
      refine Late.one (i := 9) (o := ⟨some 24, Op.call { callee := Callee.builtin Builtin.append, args := #[Operand.tmp 16, Operand.tmp 23], argTypes := #[23, 23] }, _, _, _, _⟩) (by kernel_rfl) rfl (fun K hK => ?_)
      refine step_app (v3.alloc (.cells #[.int .i64 x.pos, .int .i64 x.stamp, .int .i64 x.client, .int .i64 x.id, .slice x.A x.n x.c] 42)) rfl (.tmp 16) (.tmp 23) 23 rfl (g3 + 1) 42 5 56 Try.underlying23 e_info (by omega) (.slice A k c) k (l.flatMap ec) (by rfl) PA.out.ow (some ⟨v3.heap.size, 0, none⟩) 1 1 ([x].flatMap ec) (by rfl) ((rws_new (f := ec) v3 x 42).lies ec_len (by omega)).1 ((rws_new (f := ec) v3 x 42).lies ec_len (by omega)).2 (flat_one ec_one _) (by unfold maxLen; omega) (by omega) PA.out.ms ?_
      intro v1 w9 ho1 hg1 _
      obtain ⟨A9, c9, rfl, _, _⟩ := own_shapeM ho1
      rw [← List.flatMap_append] at ho1
      have P9 := Lib.hid (PA.out.app ho1 hg1)
      clear ho1 hg1
      refine hK.out _ _ (⟨(P9.out.cell 6 rfl).1, (P9.out.cell 5 rfl).1⟩) (fun hHeld2 => ?_)
      clear hK K hHeld
      have hHeld := hHeld2
      clear hHeld2
      try simp only [Act.put, List.setIfInBounds_toArray, List.set_cons_zero, List.set_cons_succ]
      refine Late.take (i := 10) (oi := ⟨some 25, Op.fieldAddr 28 (Operand.tmp 3) 6, _, _, _, _⟩) (v := ?_) rfl (by kernel_rfl) (by kernel_rfl) (by kernel_rfl) (by kernel_rfl) (fun _ _ _ h => h) (Or.inl ⟨by rfl, fun w hSw => ?_⟩) (by assumption) ?_
      rotate_left
      · (have s1 := hSw; go_simp; try with_reducible rfl)
      try simp only [Act.put, List.setIfInBounds_toArray, List.set_cons_zero, List.set_cons_succ]
      refine Late.end_ (i := 11) (o := ⟨none, Op.store 23 (Operand.tmp 25) (Operand.tmp 24), _, _, _, _⟩) (by kernel_rfl) rfl rfl (fun K hK => ?_)
      obtain ⟨x6', y6'⟩ := P9.out.cell 6 rfl
      go_simp
      refine hK.out _ _ ?_
      clear hK K
      try simp only [Act.put]
      refine Late.done (by kernel_rfl) ?_ _
      refine NoPanic.normal ?_
      clear hHeld
      go_wp2
      have P10 := Lib.hid (P9.out.set (i := 6) (by omega) (.slice A9 ((k + 1 : Nat)) c9))
      go_roundw
      case rel => exact ⟨k + 1, A9, c9, l ++ [x], by omega, by go_num, Lib.hid (by rw [HS.out, List.map_append, HL.out]; show L ++ [x.z] = _; rw [HZX.out.1]), Lib.hid (by rw [HS.out]; have := P10.out; rw [HZX.out.2] at this; exact this)⟩
      case measure => simp [intOf]; omega
    · have hki : ¬ (k : Int) < (cnt : Int) := by omega
      obtain rfl : k = cnt := by omega
      rw [E4.out] at PR HL
      have VT := Lib.hid (vthere PR.out.box2 (us := mcA a1 a2 A k c) rfl)
      have HRG := PR.out.box.range
      have hms : (Try.prog.info? 28).map (·.size) = some (mcA a1 a2 A k c).length := m_size (mxA a1 a2 A k c [])
      have hmsA : (Try.prog.info? 28).map (·.size) = some (mcA a1 a2 A k c).toArray.size := m_sizeA (mxA a1 a2 A k c [])
      have hmoA : (mcA a1 a2 A k c).toArray.all (·.oneCell') = true := m_oneA (mxA a1 a2 A k c [])
      have vto := VT.out
      clear x6 y6
      go_upto_region 7 with fail
      go_wp2_with (first
        | (with_reducible show wpList _ _ _ (⟨some 27, .load 28 (.tmp 3), _, _, _, _⟩ :: _) _ _; refine wpList_load_mid (op := ⟨some 27, .load 28 (.tmp 3), _, _, _, _⟩) rfl 28 (.tmp 3) rfl (g3) (0) rfl (mcA a1 a2 A k c) _ (HRG) Try.underlying28 rfl (hms) ?_)
        | (with_reducible show wpList _ _ _ (⟨none, .store 28 (.tmp 2) (.tmp 27), _, _, _, _⟩ :: _) _ _; refine wpList_store_as (op := ⟨none, .store 28 (.tmp 2) (.tmp 27), _, _, _, _⟩) rfl 28 (.tmp 2) (.tmp 27) rfl (g) 0 (mcA a1 a2 A k c).toArray rfl rfl (vto) hmsA hmoA ?_; intro w9 hw9))
      have e9 := hw9.out
      have g9 : wr.grownBy w9 (some g) := by rw [e9]; exact grown_cells g _ _ _
      have V9 := PR.out.box2.store (us := mcA a1 a2 A k c) rfl hw9
      have hsz := Hg.out
      have kb : ∀ j, g3 + 1 ≤ j → j < wr.heap.size → w9.heap[j]? = wr.heap[j]? := fun j h1 h2 => by rw [e9]; exact heap_setCells g j (by omega) _ _ _
      have O9 := own_keepB PR.out.ow kb
      have B9 := PR.out.bo.keep kb
      have hm : g3 + 1 ≤ w9.heap.size := Nat.le_trans PR.out.ms g9.size
      obtain ⟨A', c', e', h1, h2⟩ := own_shapeM O9
      injection e' with _ _ e'
      subst e'
      have EN : Ents w9 w9.heap.size A k l := ents_of_own O9 B9 (fun z hz => by rw [HL.out] at hz; have := (HMK.out k).1 z; rw [E4.out] at this; exact this hz)
      exact bodyPost_ret (v := .agg (mcA a1 a2 A k c).toArray) (results_mid (p := 2) (ty := 28) rfl _ _ g 0 _ _ rfl V9.range Try.underlying28 rfl (m_size (mxA a1 a2 A k c []))) rfl
        ⟨mxA a1 a2 A k c l, rfl, by unfold mxA MX.z; rw [HL.out]; rfl, RK.out.keep wr w9 _ (some g) PR.out.rd g9 (fun j hj => by injection hj with hj; omega), grown_new PR.out.gb g9 (fun j hj => by injection hj with hj; omega),
          ⟨World.ownsRow_nil _ _ _ _, own_base O9 (by omega), fun x hx => own_base (B9 x hx) (by omega), World.ownsRow_nil _ _ _ _⟩,
          ⟨by show (0 : Int) ≤ 0 ∧ (0 : Int) < 256; omega, inM0, inM0, Nat.le_refl _, Nat.zero_le _, Bs.nil, G1.out, G2.out, h1, h2, EN, inM0, inM0, inM0, Nat.le_refl _, Nat.zero_le _, mems0 _ _, inM0⟩⟩
end Go.Proofs.Ytfihiandifnkpaa
