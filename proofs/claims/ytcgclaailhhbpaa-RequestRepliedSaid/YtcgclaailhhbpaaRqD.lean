/- Whether a request may be: the program's. -/
import Derived.Test.YtcgclaailhhbpaaRqC
namespace Go.Proofs.Ytcgclaailhhbpaa
open Go.ChangeShapes Go.WideShapes Go.ChangeAt Go.RowKit
set_option linter.unusedVariables false
set_option maxRecDepth 100000
set_option linter.unusedSimpArgs false
open Plain Sha Au Rp Rq
theorem size_asks (w : World) : (sizeOf 76).run Try.prog w = .ok 8 w := by
  obtain ⟨i, hi, hz, hs, hb⟩ := info_parts (show (Try.prog.info? 76).map (fun i => (i.zero, i.size, i.bytes)) = some (some (.agg n8.toArray), 8, 64) by kernel_rfl)
  have e : Try.prog.cellsOf 76 = 8 := by kernel_rfl
  simp [run_sizeOf w hi, hs, e]
theorem part_asks {w : World} {cs : Array Value} {o : Nat} : (part 76 cs o).run Try.prog w = .ok (.agg (cs.extract o (o + 8))) w := by
  simp [part, isAgg, run_underlying Try.underlying76, size_asks, go_sem]
theorem cut_0 (h : Nat) : ((askC h).drop (0 * 8)).take 8 = askRow h 0 := by kernel_rfl
theorem cut_1 (h : Nat) : ((askC h).drop (1 * 8)).take 8 = askRow h 1 := by kernel_rfl
theorem cut_2 (h : Nat) : ((askC h).drop (2 * 8)).take 8 = askRow h 2 := by kernel_rfl
theorem cut_3 (h : Nat) : ((askC h).drop (3 * 8)).take 8 = askRow h 3 := by kernel_rfl
theorem cut_4 (h : Nat) : ((askC h).drop (4 * 8)).take 8 = askRow h 4 := by kernel_rfl
theorem cut_5 (h : Nat) : ((askC h).drop (5 * 8)).take 8 = askRow h 5 := by kernel_rfl
theorem cut_6 (h : Nat) : ((askC h).drop (6 * 8)).take 8 = askRow h 6 := by kernel_rfl
theorem cut_7 (h : Nat) : ((askC h).drop (7 * 8)).take 8 = askRow h 7 := by kernel_rfl
theorem cut_8 (h : Nat) : ((askC h).drop (8 * 8)).take 8 = askRow h 8 := by kernel_rfl
theorem cut_9 (h : Nat) : ((askC h).drop (9 * 8)).take 8 = askRow h 9 := by kernel_rfl
theorem cut_10 (h : Nat) : ((askC h).drop (10 * 8)).take 8 = askRow h 10 := by kernel_rfl
theorem cut_asks (h k : Nat) (hk : k ≤ 10) : ((askC h).drop (k * 8)).take 8 = askRow h k := by
  have this : k = 0 ∨ k = 1 ∨ k = 2 ∨ k = 3 ∨ k = 4 ∨ k = 5 ∨ k = 6 ∨ k = 7 ∨ k = 8 ∨ k = 9 ∨ k = 10 := by omega
  rcases this with rfl | rfl | rfl | rfl | rfl | rfl | rfl | rfl | rfl | rfl | rfl
  · exact cut_0 h
  · exact cut_1 h
  · exact cut_2 h
  · exact cut_3 h
  · exact cut_4 h
  · exact cut_5 h
  · exact cut_6 h
  · exact cut_7 h
  · exact cut_8 h
  · exact cut_9 h
  · exact cut_10 h
theorem idx_asks (h k : Nat) (hk : k ≤ 10) (w : World) : (Instr.index 77 (.agg (askC h).toArray) (.int .u8 (k : Int))).run Try.prog w = .ok (.agg (askRow h k).toArray) w := by
  have h0 : (0 : Int) ≤ (k : Int) ∧ (k : Int) < 11 := by omega
  simp only [Instr.index, asIntOf, Sem.run_bind, Sem.run_pure, Result.andThen_ok, run_underlying Try.underlying77]
  simp [h0, size_asks, part_asks, cut_asks h k hk]
/-- What an Op's functions ask. -/
theorem ask_fn {w : World} {h : Nat} (a : AskAt w h) (k : Nat) (h1 : 1 ≤ k) (h2 : k ≤ 10) : ∃ v0 v1 v2 v3 v4 v5 v6 v7, askRow h k = [v0, v1, v2, v3, v4, v5, v6, v7] ∧
    FnS w v0 (keyB k) ∧ FnS w v1 (valB k) ∧ FnS w v2 (oldB k) ∧ FnI w v3 (nB k) ∧ FnI w v4 (tnB k) ∧ FnI w v5 (spB k) ∧ FnI w v6 (spB k) ∧ FnG v7 (grB k) := by
  have this : k = 1 ∨ k = 2 ∨ k = 3 ∨ k = 4 ∨ k = 5 ∨ k = 6 ∨ k = 7 ∨ k = 8 ∨ k = 9 ∨ k = 10 := by omega
  rcases this with rfl | rfl | rfl | rfl | rfl | rfl | rfl | rfl | rfl | rfl
  · exact ⟨_, _, _, _, _, _, _, _, rfl, (a.k1.s), (.inl ⟨rfl, rfl⟩), (.inl ⟨rfl, rfl⟩), (.inl ⟨rfl, rfl⟩), (.inl ⟨rfl, rfl⟩), (.inl ⟨rfl, rfl⟩), (.inl ⟨rfl, rfl⟩), (.inl ⟨rfl, rfl⟩)⟩
  · exact ⟨_, _, _, _, _, _, _, _, rfl, (a.k1.s), (a.k2.s), (.inl ⟨rfl, rfl⟩), (.inl ⟨rfl, rfl⟩), (.inl ⟨rfl, rfl⟩), (.inl ⟨rfl, rfl⟩), (.inl ⟨rfl, rfl⟩), (.inl ⟨rfl, rfl⟩)⟩
  · exact ⟨_, _, _, _, _, _, _, _, rfl, (a.k1.s), (a.k2.s), (a.k2.s), (.inl ⟨rfl, rfl⟩), (.inl ⟨rfl, rfl⟩), (.inl ⟨rfl, rfl⟩), (.inl ⟨rfl, rfl⟩), (.inl ⟨rfl, rfl⟩)⟩
  · exact ⟨_, _, _, _, _, _, _, _, rfl, (a.k1.s), (.inl ⟨rfl, rfl⟩), (.inl ⟨rfl, rfl⟩), (.inl ⟨rfl, rfl⟩), (.inl ⟨rfl, rfl⟩), (.inl ⟨rfl, rfl⟩), (.inl ⟨rfl, rfl⟩), (.inl ⟨rfl, rfl⟩)⟩
  · exact ⟨_, _, _, _, _, _, _, _, rfl, (a.k6.s), (.inl ⟨rfl, rfl⟩), (.inl ⟨rfl, rfl⟩), (a.k7.i), (.inl ⟨rfl, rfl⟩), (.inl ⟨rfl, rfl⟩), (.inl ⟨rfl, rfl⟩), (.inl ⟨rfl, rfl⟩)⟩
  · exact ⟨_, _, _, _, _, _, _, _, rfl, (.inl ⟨rfl, rfl⟩), (.inl ⟨rfl, rfl⟩), (.inl ⟨rfl, rfl⟩), (.inl ⟨rfl, rfl⟩), (a.k3.i), (a.k5.i), (a.k5.i), (.inl ⟨rfl, rfl⟩)⟩
  · exact ⟨_, _, _, _, _, _, _, _, rfl, (.inl ⟨rfl, rfl⟩), (.inl ⟨rfl, rfl⟩), (.inl ⟨rfl, rfl⟩), (.inl ⟨rfl, rfl⟩), (a.k3.i), (a.k5.i), (a.k5.i), (.inl ⟨rfl, rfl⟩)⟩
  · exact ⟨_, _, _, _, _, _, _, _, rfl, (.inl ⟨rfl, rfl⟩), (.inl ⟨rfl, rfl⟩), (.inl ⟨rfl, rfl⟩), (.inl ⟨rfl, rfl⟩), (a.k4.i), (.inl ⟨rfl, rfl⟩), (.inl ⟨rfl, rfl⟩), (.inr ⟨rfl, rfl⟩)⟩
  · exact ⟨_, _, _, _, _, _, _, _, rfl, (.inl ⟨rfl, rfl⟩), (.inl ⟨rfl, rfl⟩), (.inl ⟨rfl, rfl⟩), (a.k5.i), (a.k4.i), (.inl ⟨rfl, rfl⟩), (.inl ⟨rfl, rfl⟩), (.inl ⟨rfl, rfl⟩)⟩
  · exact ⟨_, _, _, _, _, _, _, _, rfl, (.inl ⟨rfl, rfl⟩), (.inl ⟨rfl, rfl⟩), (.inl ⟨rfl, rfl⟩), (a.k5.i), (.inl ⟨rfl, rfl⟩), (.inl ⟨rfl, rfl⟩), (.inl ⟨rfl, rfl⟩), (.inl ⟨rfl, rfl⟩)⟩
theorem wp_exec {P : Program} {op : Oper} {a : Act} {w : World} {K : Act → World → Prop} {Q : Exit → Act → World → Prop} (v : Value)
    (hrun : (execOp a.eval op).run P w = .ok (.value v) w) (h : K (a.put op.dst v) w) : op.wp P a w K Q := by
  unfold Oper.wp
  simp only [hrun]
  exact h
theorem FnS.apart {w w' : World} {v : Value} {p : ByteArray → Bool} {b : Nat} (h : FnS w v p) (hf : ∀ q : Addr, q.block ≠ b → w'.cell? q = w.cell? q) (hv : VBox w b 8 n8) : FnS w' v p := by
  rcases h with h | ⟨a, c, lo, hi, h0, h1, h2, h3⟩
  · exact .inl h
  · have ne : ∀ (g : Nat) (z : Int), w.cell? ⟨g, 0, none⟩ = some (.int .i64 z) → g ≠ b := fun g z hz e => by
      subst e
      have := hv.range 0 .nilFunc rfl
      rw [hz] at this
      cases this
    exact .inr ⟨a, c, lo, hi, h0, (hf ⟨a, 0, none⟩ (ne a _ h1)).trans h1, (hf ⟨c, 0, none⟩ (ne c _ h2)).trans h2, h3⟩
theorem FnI.apart {w w' : World} {v : Value} {p : Int → Bool} {b : Nat} (h : FnI w v p) (hf : ∀ q : Addr, q.block ≠ b → w'.cell? q = w.cell? q) (hv : VBox w b 8 n8) : FnI w' v p := by
  rcases h with h | ⟨a, c, lo, hi, h0, h1, h2, h3⟩
  · exact .inl h
  · have ne : ∀ (g : Nat) (z : Int), w.cell? ⟨g, 0, none⟩ = some (.int .i64 z) → g ≠ b := fun g z hz e => by
      subst e
      have := hv.range 0 .nilFunc rfl
      rw [hz] at this
      cases this
    exact .inr ⟨a, c, lo, hi, h0, (hf ⟨a, 0, none⟩ (ne a _ h1)).trans h1, (hf ⟨c, 0, none⟩ (ne c _ h2)).trans h2, h3⟩
def sfAsk : SF := ⟨fun v w => ∃ h, v = .agg (askC h).toArray ∧ AskAt w h, fun v w w' ⟨h, e, a⟩ hb => ⟨h, e, a.grow hb⟩⟩
def sfVar8 (base : Nat) : SF := ⟨fun v w => ∃ b, v = .pointer (some ⟨b, 0, none⟩) ∧ VBox w b 8 n8 ∧ base ≤ b, fun v w w' ⟨b, e, a, hl⟩ hb => ⟨b, e, a.grow hb, hl⟩⟩
def sfRow (k : Nat) : SF := ⟨fun v w => ∃ v0 v1 v2 v3 v4 v5 v6 v7, v = .agg #[v0, v1, v2, v3, v4, v5, v6, v7] ∧ (#[v0, v1, v2, v3, v4, v5, v6, v7].all (·.oneCell') = true) ∧ FnS w v0 (keyB k) ∧ FnS w v1 (valB k) ∧ FnS w v2 (oldB k) ∧ FnI w v3 (nB k) ∧ FnI w v4 (tnB k) ∧ FnI w v5 (spB k) ∧ FnI w v6 (spB k) ∧ FnG v7 (grB k),
  fun v w w' ⟨v0, v1, v2, v3, v4, v5, v6, v7, e, o, f0, f1, f2, f3, f4, f5, f6, f7⟩ hb => ⟨v0, v1, v2, v3, v4, v5, v6, v7, e, o, f0.grow hb, f1.grow hb, f2.grow hb, f3.grow hb, f4.grow hb, f5.grow hb, f6.grow hb, f7⟩⟩
theorem ev_tmpR {a : Act} {n : Nat} {v : Value} (h : a.tmps[n]?.getD undef = v) : a.eval (.tmp n) = v := by
  show a.tmps.getD n undef = v
  rw [Array.getD_eq_getD_getElem?]; exact h
theorem exec_index {P : Program} {a : Act} {op : Oper} {t : TypeId} {x y : Operand} {u v r : Value} {w : World} (ho : op.op = .index t x y) (hx : a.eval x = u) (hy : a.eval y = v) (h : (Instr.index t u v).run P w = .ok r w) : (execOp a.eval op).run P w = .ok (.value r) w := by
  subst hx hy
  unfold execOp
  simp only [ho]
  simp [h]
theorem below_two {w w1 w2 : World} (h : Below w.heap.size w w1) (k : Below w1.heap.size w1 w2) : Below w.heap.size w w2 := h.trans (k.mono h.size)
set_option maxHeartbeats 4000000 in
theorem may_any {w : World} {x : QX} (q : Bool) (htl : x.tok.length = x.tl) (hq : mayB x.z = q) : Calls Try.prog 15 #[.agg (qc x).toArray] w (fun e w' => e = .returned (.bool q) ∧ Below w.heap.size w w') := by
  obtain ⟨W1, hW1⟩ : ∃ W, W = w.alloc (.cells (qc x).toArray 26) := ⟨_, rfl⟩
  have b1 := Lib.hid (show Below w.heap.size w W1 by rw [hW1]; exact below_one _ _)
  have V1 := Lib.hid (show VBox W1 w.heap.size 12 (qc x) by rw [hW1]; exact vbox_new _ _ _ _ _ rfl (qc_len x) (by omega))
  have z1 := Lib.hid (show W1.heap.size = w.heap.size + 1 by rw [hW1]; simp)
  obtain ⟨c0, c1, c2, c3, c4, c5, c6, c7, c8, c9, c10, c11⟩ := rng_q V1.out.range
  simp only [Nat.zero_add] at c0 c1 c2 c3 c4 c5 c6 c7 c8 c9 c10 c11
  have HW1 := Lib.hid hW1
  clear hW1
  obtain ⟨g, hg⟩ : ∃ g, w.heap.size = g := ⟨_, rfl⟩
  have HG := Lib.hid hg
  have HQ : Hid ((decide (1 ≤ x.op) && decide (x.op ≤ 10) && decide (x.tl ≤ 256) && (keyB x.op x.key && valB x.op x.val && oldB x.op x.old && nB x.op x.n && tnB x.op x.tn && spB x.op x.ks && spB x.op x.sp && grB x.op x.rt x.ex x.sr)) = q) := Lib.hid (by rw [← hq, ← htl]; rfl)
  clear hq htl
  clear hg
  rw [HG.out] at c0 c1 c2 c3 c4 c5 c6 c7 c8 c9 c10 c11 V1 z1
  obtain ⟨A, tl, tc, hA⟩ : ∃ A tl tc, x.A = A ∧ x.tl = tl ∧ x.tc = tc := ⟨_, _, _, rfl, rfl, rfl⟩
  obtain ⟨rfl, rfl, rfl⟩ := hA
  by_cases o1 : 1 ≤ x.op
  · by_cases o2 : x.op ≤ 10
    · by_cases o3 : x.tl ≤ 256
      · obtain ⟨k, hk⟩ := Int.eq_ofNat_of_zero_le (show 0 ≤ x.op by omega)
        have HQ2 : Hid ((keyB k x.key && (valB k x.val && (oldB k x.old && (nB k x.n && (tnB k x.tn && (spB k x.ks && (spB k x.sp && grB k x.rt x.ex x.sr))))))) = q) := Lib.hid (by
          rw [← HQ.out, hk]
          have e1 : decide (1 ≤ (k : Int)) = true := decide_eq_true (by omega)
          have e2 : decide ((k : Int) ≤ 10) = true := decide_eq_true (by omega)
          have e3 : decide (x.tl ≤ 256) = true := decide_eq_true o3
          rw [e1, e2, e3]
          simp only [Bool.true_and, Bool.and_assoc])
        have k1 : 1 ≤ k := by omega
        have k2 : k ≤ 10 := by omega
        rw [hk] at c0
        clear HQ o1 o2 hk
        have o3i : ¬ (256 : Int) < (x.tl : Int) := by omega
        have g1 : ¬ ((k : Int) < 1) := by omega
        have g2 : ¬ ((10 : Int) < (k : Int)) := by omega
        have C0 := Lib.hid (Below.refl W1.heap.size W1)
        have HC0 := Lib.hid (show ∀ W, Below W1.heap.size W1 W → W.cell? ⟨g, 0, none⟩ = some (.int .u8 (k : Int)) from fun W hW => (hW.cell (p := ⟨g, 0, none⟩) (by rw [z1.out]; show g < g + 1; omega)).trans c0)
        go_enter Try.func15, Try.ntmps15
        go_upto_region 1 with fail
        rw [← HW1.out, HG.out]
        go_upto_region 3 with fail
        clear c0 g1 g2 o3i
        refine Late.region (fun w' => Below W1.heap.size W1 w') [] (by kernel_rfl) (Below.refl _ _).drew (fun hHeld => ?_)
        refine Late.take (i := 1) (oi := ⟨some 19, Op.fieldAddr 26 (Operand.tmp 1) 0, _, _, _, _⟩) (v := ?_) rfl (by kernel_rfl) (by kernel_rfl) (by kernel_rfl) (by kernel_rfl) (fun _ _ _ h => h) (Or.inl ⟨by rfl, fun w hSw => ?_⟩) (by assumption) ?_
        rotate_left
        · (have s1 := hSw; go_simp; try with_reducible rfl)
        try simp only [Act.put, List.setIfInBounds_toArray, List.set_cons_zero, List.set_cons_succ]
        refine Late.take (i := 2) (oi := ⟨some 20, Op.load 5 (Operand.tmp 19), _, _, _, _⟩) (v := ?_) rfl (by kernel_rfl) (by kernel_rfl) (by kernel_rfl) (by kernel_rfl) (fun _ _ _ h => h) (Or.inl ⟨by rfl, fun w hSw => ?_⟩) (by assumption) ?_
        rotate_left
        · (have s1 := hSw; have d0 := HC0.out _ hSw; go_simp; try with_reducible rfl)
        try simp only [Act.put, List.setIfInBounds_toArray, List.set_cons_zero, List.set_cons_succ]
        refine Late.orders (fun i => match i with | 0 => sfAsk | 3 => (sfRow k) | 4 => (sfVar8 W1.heap.size) | _ => sfTrue) [0, 3, 4] [18, 21, 3] (f0 := 1) (by kernel_rfl) rfl (by kernel_rfl) (by kernel_rfl) (by kernel_rfl) hHeld (fun w w' h hb => h.trans (hb.mono h.size)) ?_ ?_
        · refine ⟨?_, ?_, ?_, trivial⟩
          · refine Step.of (o := ⟨some 18, Op.call { callee := Callee.value (Operand.func 39), args := #[], argTypes := #[] }, _, _, _, _⟩) rfl (fun a w K hS hA hD hK => ?_)
            rw [if_pos (by rfl)]
            go_simp
            refine (asked_any w).mono ?_
            rintro e w2 ⟨rfl, ha, hb⟩
            exact hK.out _ _ hb ⟨_, rfl, ha⟩
          · refine Step.of (o := ⟨some 21, Op.index 77 (Operand.tmp 18) (Operand.tmp 20), _, _, _, _⟩) rfl (fun a w K hS hA hD hK => ?_)
            obtain ⟨h, e18, ha⟩ : sfAsk.F (a.tmps[18]?.getD undef) w := hD 0 18 rfl (by kernel_rfl) (by kernel_rfl)
            have e20 : a.tmps[20]?.getD undef = .int .u8 (k : Int) := hA.get 20 rfl
            rw [if_pos (by rfl)]
            obtain ⟨v0, v1, v2, v3, v4, v5, v6, v7, hr, f0, f1, f2, f3, f4, f5, f6, f7⟩ := ask_fn ha k k1 k2
            have ho := askRow_one h k
            refine wp_exec (.agg (askRow h k).toArray) (exec_index rfl (ev_tmpR e18) (ev_tmpR e20) (idx_asks h k k2 w)) ?_
            rw [hr] at ho ⊢
            exact hK.out _ _ (Below.refl _ _) ⟨v0, v1, v2, v3, v4, v5, v6, v7, rfl, by rw [List.all_toArray]; exact ho, f0, f1, f2, f3, f4, f5, f6, f7⟩
          · refine Step.of (o := ⟨some 3, Op.alloc 76, _, _, _, _⟩) rfl (fun a w K hS hA hD hK => ?_)
            rw [if_pos (by rfl)]
            go_simp
            exact hK.out _ _ ((Below.refl _ _).alloc (Nat.le_refl _) _) ⟨_, rfl, vbox_new w n8 76 w.heap.size 8 rfl rfl (by omega), hS.size⟩
        intro a wq hS hA hV
        obtain ⟨h, e18, ha⟩ : (sfAsk).F (a.tmps[18]?.getD undef) wq := hV 0 18 rfl (by kernel_rfl)
        obtain ⟨v0, v1, v2, v3, v4, v5, v6, v7, e21, hone, f0, f1, f2, f3, f4, f5, f6, f7⟩ : ((sfRow k)).F (a.tmps[21]?.getD undef) wq := hV 3 21 rfl (by kernel_rfl)
        obtain ⟨b3, e3, VA, hb3⟩ : ((sfVar8 W1.heap.size)).F (a.tmps[3]?.getD undef) wq := hV 4 3 rfl (by kernel_rfl)
        have eA := hA.eq
        simp only [List.foldl_cons, List.foldl_nil] at eA
        rw [e18, e21, e3] at eA
        clear hHeld hA hV e18 e21 e3
        subst eA
        have hHeld := hS
        try simp only [Act.put, List.setIfInBounds_toArray, List.set_cons_zero, List.set_cons_succ]
        refine Late.one (i := 5) (o := ⟨none, Op.store 76 (Operand.tmp 3) (Operand.tmp 21), _, _, _, _⟩) (by kernel_rfl) rfl (fun K hK => ?_)
        rw [if_pos (by rfl)]
        refine wp_store_mid 76 (.tmp 3) (.tmp 21) rfl b3 0 #[v0, v1, v2, v3, v4, v5, v6, v7] rfl rfl VA.there (by kernel_rfl) hone ?_
        refine hK.out _ _ (below_setCells hb3 _ _ _ hHeld) (fun hHeld2 => ?_)
        clear hK K hHeld
        have hHeld := hHeld2
        clear hHeld2
        try simp only [Act.put]
        refine Late.done (by kernel_rfl) ?_ _
        refine NoPanic.normal ?_
        obtain ⟨w3, hw3⟩ : ∃ W, W = wq.setCells b3 0 [v0, v1, v2, v3, v4, v5, v6, v7] := ⟨_, rfl⟩
        have V3 := VA.store (us := [v0, v1, v2, v3, v4, v5, v6, v7]) rfl (Lib.hid hw3)
        have B3 := Lib.hid (show Below W1.heap.size W1 w3 by rw [hw3]; exact hHeld)
        show Exit.then _ _ _ _ (wq.setCells b3 0 [v0, v1, v2, v3, v4, v5, v6, v7])
        rw [← hw3]
        have f39 : ∀ p : Addr, p.block ≠ b3 → w3.cell? p = wq.cell? p := fun p hp => by rw [hw3]; exact World.cell?_setCells_out b3 _ _ _ p (fun hb _ => absurd hb hp)
        have F0 := Lib.hid (f0.apart f39 VA)
        have F1 := Lib.hid (f1.apart f39 VA)
        have F2 := Lib.hid (f2.apart f39 VA)
        have F3 := Lib.hid (f3.apart f39 VA)
        have F4 := Lib.hid (f4.apart f39 VA)
        have F5 := Lib.hid (f5.apart f39 VA)
        have F6 := Lib.hid (f6.apart f39 VA)
        have F7 := Lib.hid f7
        have e0 : w3.cell? ⟨b3, 0, none⟩ = some v0 := V3.range 0 _ rfl
        have e1 : w3.cell? ⟨b3, 1, none⟩ = some v1 := V3.range 1 _ rfl
        have e2 : w3.cell? ⟨b3, 2, none⟩ = some v2 := V3.range 2 _ rfl
        have e3 : w3.cell? ⟨b3, 3, none⟩ = some v3 := V3.range 3 _ rfl
        have e4 : w3.cell? ⟨b3, 4, none⟩ = some v4 := V3.range 4 _ rfl
        have e5 : w3.cell? ⟨b3, 5, none⟩ = some v5 := V3.range 5 _ rfl
        have e6 : w3.cell? ⟨b3, 6, none⟩ = some v6 := V3.range 6 _ rfl
        have e7 : w3.cell? ⟨b3, 7, none⟩ = some v7 := V3.range 7 _ rfl
        have V9 := V1.out.below B3.out (by rw [z1.out]; omega)
        obtain ⟨_, _, d2, d3, d4, d5, d6, d7, d8, d9, d10, d11⟩ := rng_q V9.range
        simp only [Nat.zero_add] at d2 d3 d4 d5 d6 d7 d8 d9 d10 d11
        have BB := Lib.hid (b1.out.trans (B3.out.mono b1.out.size))
        clear f0 f1 f2 f3 f4 f5 f6 f7 V3 V9 hone ha c1 c2 c3 c4 c5 c6 c7 c8 c9 c10 c11 V1 hw3 f39 VA hHeld hb3
        obtain ⟨u0, hq0⟩ : ∃ u, keyB (k : Int) x.key = u := ⟨_, rfl⟩
        cases u0 with
        | false =>
          have HJ0 := Lib.hid hq0
          clear hq0
          have e : false = q := by rw [← HQ2.out, HJ0.out]; simp only [Bool.true_and, Bool.false_and]
          subst e
          have G0 := BB
          go_wp2_with (first
                | (have g := G0; clear g; go_at_call 40; refine (fitS_any F0.out x.key false HJ0.out).mono ?_; rintro e w9 ⟨rfl, rfl⟩; clear G0))
          go_ret
          exact ⟨rfl, BB.out⟩
        | true =>
          have HJ0 := Lib.hid hq0
          clear hq0
          obtain ⟨u1, hq1⟩ : ∃ u, valB (k : Int) x.val = u := ⟨_, rfl⟩
          cases u1 with
          | false =>
            have HJ1 := Lib.hid hq1
            clear hq1
            have e : false = q := by rw [← HQ2.out, HJ0.out, HJ1.out]; simp only [Bool.true_and, Bool.false_and]
            subst e
            have G0 := BB
            have G1 := BB
            go_wp2_with (first
                  | (have g := G0; clear g; go_at_call 40; refine (fitS_any F0.out x.key true HJ0.out).mono ?_; rintro e w9 ⟨rfl, rfl⟩; clear G0)
                  | (have g := G1; clear g; go_at_call 40; refine (fitS_any F1.out x.val false HJ1.out).mono ?_; rintro e w9 ⟨rfl, rfl⟩; clear G1))
            go_ret
            exact ⟨rfl, BB.out⟩
          | true =>
            have HJ1 := Lib.hid hq1
            clear hq1
            obtain ⟨u2, hq2⟩ : ∃ u, oldB (k : Int) x.old = u := ⟨_, rfl⟩
            cases u2 with
            | false =>
              have HJ2 := Lib.hid hq2
              clear hq2
              have e : false = q := by rw [← HQ2.out, HJ0.out, HJ1.out, HJ2.out]; simp only [Bool.true_and, Bool.false_and]
              subst e
              have G0 := BB
              have G1 := BB
              have G2 := BB
              go_wp2_with (first
                    | (have g := G0; clear g; go_at_call 40; refine (fitS_any F0.out x.key true HJ0.out).mono ?_; rintro e w9 ⟨rfl, rfl⟩; clear G0)
                    | (have g := G1; clear g; go_at_call 40; refine (fitS_any F1.out x.val true HJ1.out).mono ?_; rintro e w9 ⟨rfl, rfl⟩; clear G1)
                    | (have g := G2; clear g; go_at_call 40; refine (fitS_any F2.out x.old false HJ2.out).mono ?_; rintro e w9 ⟨rfl, rfl⟩; clear G2))
              go_ret
              exact ⟨rfl, BB.out⟩
            | true =>
              have HJ2 := Lib.hid hq2
              clear hq2
              obtain ⟨u3, hq3⟩ : ∃ u, nB (k : Int) x.n = u := ⟨_, rfl⟩
              cases u3 with
              | false =>
                have HJ3 := Lib.hid hq3
                clear hq3
                have e : false = q := by rw [← HQ2.out, HJ0.out, HJ1.out, HJ2.out, HJ3.out]; simp only [Bool.true_and, Bool.false_and]
                subst e
                have G0 := BB
                have G1 := BB
                have G2 := BB
                have G3 := BB
                go_wp2_with (first
                      | (have g := G0; clear g; go_at_call 40; refine (fitS_any F0.out x.key true HJ0.out).mono ?_; rintro e w9 ⟨rfl, rfl⟩; clear G0)
                      | (have g := G1; clear g; go_at_call 40; refine (fitS_any F1.out x.val true HJ1.out).mono ?_; rintro e w9 ⟨rfl, rfl⟩; clear G1)
                      | (have g := G2; clear g; go_at_call 40; refine (fitS_any F2.out x.old true HJ2.out).mono ?_; rintro e w9 ⟨rfl, rfl⟩; clear G2)
                      | (have g := G3; clear g; go_at_call 41; refine (fitI_any F3.out x.n false HJ3.out).mono ?_; rintro e w9 ⟨rfl, rfl⟩; clear G3))
                go_ret
                exact ⟨rfl, BB.out⟩
              | true =>
                have HJ3 := Lib.hid hq3
                clear hq3
                obtain ⟨u4, hq4⟩ : ∃ u, tnB (k : Int) x.tn = u := ⟨_, rfl⟩
                cases u4 with
                | false =>
                  have HJ4 := Lib.hid hq4
                  clear hq4
                  have e : false = q := by rw [← HQ2.out, HJ0.out, HJ1.out, HJ2.out, HJ3.out, HJ4.out]; simp only [Bool.true_and, Bool.false_and]
                  subst e
                  have G0 := BB
                  have G1 := BB
                  have G2 := BB
                  have G3 := BB
                  have G4 := BB
                  go_wp2_with (first
                        | (have g := G0; clear g; go_at_call 40; refine (fitS_any F0.out x.key true HJ0.out).mono ?_; rintro e w9 ⟨rfl, rfl⟩; clear G0)
                        | (have g := G1; clear g; go_at_call 40; refine (fitS_any F1.out x.val true HJ1.out).mono ?_; rintro e w9 ⟨rfl, rfl⟩; clear G1)
                        | (have g := G2; clear g; go_at_call 40; refine (fitS_any F2.out x.old true HJ2.out).mono ?_; rintro e w9 ⟨rfl, rfl⟩; clear G2)
                        | (have g := G3; clear g; go_at_call 41; refine (fitI_any F3.out x.n true HJ3.out).mono ?_; rintro e w9 ⟨rfl, rfl⟩; clear G3)
                        | (have g := G4; clear g; go_at_call 41; refine (fitI_any F4.out x.tn false HJ4.out).mono ?_; rintro e w9 ⟨rfl, rfl⟩; clear G4))
                  go_ret
                  exact ⟨rfl, BB.out⟩
                | true =>
                  have HJ4 := Lib.hid hq4
                  clear hq4
                  obtain ⟨u5, hq5⟩ : ∃ u, spB (k : Int) x.ks = u := ⟨_, rfl⟩
                  cases u5 with
                  | false =>
                    have HJ5 := Lib.hid hq5
                    clear hq5
                    have e : false = q := by rw [← HQ2.out, HJ0.out, HJ1.out, HJ2.out, HJ3.out, HJ4.out, HJ5.out]; simp only [Bool.true_and, Bool.false_and]
                    subst e
                    have G0 := BB
                    have G1 := BB
                    have G2 := BB
                    have G3 := BB
                    have G4 := BB
                    have G5 := BB
                    go_wp2_with (first
                          | (have g := G0; clear g; go_at_call 40; refine (fitS_any F0.out x.key true HJ0.out).mono ?_; rintro e w9 ⟨rfl, rfl⟩; clear G0)
                          | (have g := G1; clear g; go_at_call 40; refine (fitS_any F1.out x.val true HJ1.out).mono ?_; rintro e w9 ⟨rfl, rfl⟩; clear G1)
                          | (have g := G2; clear g; go_at_call 40; refine (fitS_any F2.out x.old true HJ2.out).mono ?_; rintro e w9 ⟨rfl, rfl⟩; clear G2)
                          | (have g := G3; clear g; go_at_call 41; refine (fitI_any F3.out x.n true HJ3.out).mono ?_; rintro e w9 ⟨rfl, rfl⟩; clear G3)
                          | (have g := G4; clear g; go_at_call 41; refine (fitI_any F4.out x.tn true HJ4.out).mono ?_; rintro e w9 ⟨rfl, rfl⟩; clear G4)
                          | (have g := G5; clear g; go_at_call 41; refine (fitI_any F5.out x.ks false HJ5.out).mono ?_; rintro e w9 ⟨rfl, rfl⟩; clear G5))
                    go_ret
                    exact ⟨rfl, BB.out⟩
                  | true =>
                    have HJ5 := Lib.hid hq5
                    clear hq5
                    obtain ⟨u6, hq6⟩ : ∃ u, spB (k : Int) x.sp = u := ⟨_, rfl⟩
                    cases u6 with
                    | false =>
                      have HJ6 := Lib.hid hq6
                      clear hq6
                      have e : false = q := by rw [← HQ2.out, HJ0.out, HJ1.out, HJ2.out, HJ3.out, HJ4.out, HJ5.out, HJ6.out]; simp only [Bool.true_and, Bool.false_and]
                      subst e
                      have G0 := BB
                      have G1 := BB
                      have G2 := BB
                      have G3 := BB
                      have G4 := BB
                      have G5 := BB
                      have G6 := BB
                      go_wp2_with (first
                            | (have g := G0; clear g; go_at_call 40; refine (fitS_any F0.out x.key true HJ0.out).mono ?_; rintro e w9 ⟨rfl, rfl⟩; clear G0)
                            | (have g := G1; clear g; go_at_call 40; refine (fitS_any F1.out x.val true HJ1.out).mono ?_; rintro e w9 ⟨rfl, rfl⟩; clear G1)
                            | (have g := G2; clear g; go_at_call 40; refine (fitS_any F2.out x.old true HJ2.out).mono ?_; rintro e w9 ⟨rfl, rfl⟩; clear G2)
                            | (have g := G3; clear g; go_at_call 41; refine (fitI_any F3.out x.n true HJ3.out).mono ?_; rintro e w9 ⟨rfl, rfl⟩; clear G3)
                            | (have g := G4; clear g; go_at_call 41; refine (fitI_any F4.out x.tn true HJ4.out).mono ?_; rintro e w9 ⟨rfl, rfl⟩; clear G4)
                            | (have g := G5; clear g; go_at_call 41; refine (fitI_any F5.out x.ks true HJ5.out).mono ?_; rintro e w9 ⟨rfl, rfl⟩; clear G5)
                            | (have g := G6; clear g; go_at_call 41; refine (fitI_any F6.out x.sp false HJ6.out).mono ?_; rintro e w9 ⟨rfl, rfl⟩; clear G6))
                      go_ret
                      exact ⟨rfl, BB.out⟩
                    | true =>
                      have HJ6 := Lib.hid hq6
                      clear hq6
                      have HG7 : Hid (grB k x.rt x.ex x.sr = q) := Lib.hid (by rw [← HQ2.out, HJ0.out, HJ1.out, HJ2.out, HJ3.out, HJ4.out, HJ5.out, HJ6.out]; simp only [Bool.true_and])
                      have G0 := BB
                      have G1 := BB
                      have G2 := BB
                      have G3 := BB
                      have G4 := BB
                      have G5 := BB
                      have G6 := BB
                      go_wp2_with (first
                            | (have g := G0; clear g; go_at_call 40; refine (fitS_any F0.out x.key true HJ0.out).mono ?_; rintro e w9 ⟨rfl, rfl⟩; clear G0)
                            | (have g := G1; clear g; go_at_call 40; refine (fitS_any F1.out x.val true HJ1.out).mono ?_; rintro e w9 ⟨rfl, rfl⟩; clear G1)
                            | (have g := G2; clear g; go_at_call 40; refine (fitS_any F2.out x.old true HJ2.out).mono ?_; rintro e w9 ⟨rfl, rfl⟩; clear G2)
                            | (have g := G3; clear g; go_at_call 41; refine (fitI_any F3.out x.n true HJ3.out).mono ?_; rintro e w9 ⟨rfl, rfl⟩; clear G3)
                            | (have g := G4; clear g; go_at_call 41; refine (fitI_any F4.out x.tn true HJ4.out).mono ?_; rintro e w9 ⟨rfl, rfl⟩; clear G4)
                            | (have g := G5; clear g; go_at_call 41; refine (fitI_any F5.out x.ks true HJ5.out).mono ?_; rintro e w9 ⟨rfl, rfl⟩; clear G5)
                            | (have g := G6; clear g; go_at_call 41; refine (fitI_any F6.out x.sp true HJ6.out).mono ?_; rintro e w9 ⟨rfl, rfl⟩; clear G6)
                            | (go_at_call 42; refine (fitG_any w3 F7.out x.rt x.ex x.sr q HG7.out).mono ?_; rintro e w9 ⟨rfl, hb⟩; have HB9 := Lib.hid hb; clear hb))
                      go_ret
                      exact ⟨rfl, BB.out.trans (HB9.out.mono BB.out.size)⟩
      · have e : false = q := by rw [← HQ.out, decide_eq_false o3]; simp
        subst e
        have o3i : (256 : Int) < (x.tl : Int) := by omega
        have g1 : ¬ (x.op < 1) := by omega
        have g2 : ¬ (10 < x.op) := by omega
        clear HQ o1 o2 o3
        go_enter Try.func15, Try.ntmps15
        go_upto_region 1 with fail
        rw [← HW1.out, HG.out]
        go_wp2
        go_ret
        exact ⟨rfl, b1.out⟩
    · have e : false = q := by rw [← HQ.out, decide_eq_false o2]; simp
      subst e
      have g1 : ¬ (x.op < 1) := by omega
      have g2 : 10 < x.op := by omega
      clear HQ o1 o2
      go_enter Try.func15, Try.ntmps15
      go_upto_region 1 with fail
      rw [← HW1.out, HG.out]
      go_wp2
      go_ret
      exact ⟨rfl, b1.out⟩
  · have e : false = q := by rw [← HQ.out, decide_eq_false o1]; simp
    subst e
    have g1 : x.op < 1 := by omega
    clear HQ o1
    go_enter Try.func15, Try.ntmps15
    go_upto_region 1 with fail
    rw [← HW1.out, HG.out]
    go_wp2
    go_ret
    exact ⟨rfl, b1.out⟩
end Go.Proofs.Ytcgclaailhhbpaa
