/- Two replies held against each other: the program's. -/
import Derived.Test.YtlapdocikhjkcaaRpD
namespace Go.Proofs.Ytlapdocikhjkcaa
open Go.ChangeShapes Go.WideShapes Go.ChangeAt Go.RowKit
set_option linter.unusedVariables false
set_option linter.unusedSimpArgs false
open Plain Sha Au Rp
theorem wpList_execG {P : Program} {ops : Array Oper} {rest : List Oper} {op : Oper} {a : Act} {w : World} {Q : Exit → Act → World → Prop} (hw : Region.wanted op (yielded ops a.tmps) = true) (v : Value)
    (hrun : (execOp a.eval op).run P w = .ok (.value v) w) (h : wpList P ops Q rest (a.put op.dst v) w) : wpList P ops Q (op :: rest) a w := by
  simp only [wpList, hw, if_true]
  exact .inl (by unfold Oper.wp; simp only [hrun]; exact h)
theorem exec_cmp {P : Program} {a : Act} {op : Oper} {w : World} {v : Value} (o : BinOp) (t : TypeId) (x y : Operand) (xs ys : Array Value) (ho : op.op = .binOp o t x y t) (hx : a.eval x = .agg xs) (hy : a.eval y = .agg ys) (hm : P.eqGuardType P.depth t = false)
    (h : (binOp o t (.agg xs) (.agg ys)).run P w = .ok v w) : (execOp a.eval op).run P w = .ok (.value v) w := by
  unfold execOp
  simp only [ho]
  rw [hx, hy]
  simp [run_eqGuard_agg (hm := hm), h]
set_option maxRecDepth 100000 in
set_option maxHeartbeats 4000000 in
theorem srep_any {w : World} {B1 B2 : Nat} {x y : RX} (q : Bool) (h1 : ROk w B1 x) (h2 : ROk w B2 y) (hB1 : B1 ≤ w.heap.size) (hB2 : B2 ≤ w.heap.size) (hq : repB x.z y.z = q) :
    Calls Try.prog 23 #[.agg (rc x).toArray, .agg (rc y).toArray] w (fun e w' => e = .returned (.bool q) ∧ Below w.heap.size w w') := by
  obtain ⟨W1, hW1⟩ : ∃ W, W = (w.alloc (.cells (rc x).toArray 33)).alloc (.cells (rc y).toArray 33) := ⟨_, rfl⟩
  have b1 := Lib.hid (show Below w.heap.size w W1 by rw [hW1]; exact ((Below.refl _ _).alloc (Nat.le_refl _) _).alloc (by simp) _)
  have V1 : Hid (VBox W1 w.heap.size 75 (rc x)) := Lib.hid (by rw [hW1]; exact (vbox_new w (rc x) _ _ 75 rfl (rc_len _) (by omega)).grow (below_one _ _))
  have V2 : Hid (VBox W1 (w.heap.size + 1) 75 (rc y)) := Lib.hid (by rw [hW1]; exact vbox_new _ _ _ _ _ (by simp) (rc_len _) (by omega))
  obtain ⟨c0, c1, c2, c3, c4⟩ := rng_r V1.out.range
  obtain ⟨d0, d1, d2, d3, d4⟩ := rng_r V2.out.range
  simp only [Nat.zero_add] at c0 c1 c2 c3 c4 d0 d1 d2 d3 d4
  have S1 := Lib.hid (h1.below b1.out hB1).ks
  have S2 := Lib.hid (h2.below b1.out hB2).ks
  have C4 := Lib.hid c4
  have D4 := Lib.hid d4
  have HW1 := Lib.hid hW1
  have HQ : Hid ((decide (x.err = y.err) && decide (x.val = y.val) && decide (x.ks = y.ks) && decide (x.n = y.n) && lkB x.g y.g) = q) := Lib.hid hq
  have hkn := h1.kc
  have hkm : x.kc ≤ 9223372036854775807 := by have := h1.km; unfold maxLen at this; exact this
  have hkn2 := h2.kc
  have hkm2 : y.kc ≤ 9223372036854775807 := by have := h2.km; unfold maxLen at this; exact this
  have BW := Lib.hid (below_drewN b1.out)
  clear hW1 h1 h2 hq c4 d4
  obtain ⟨kq, hkq⟩ : ∃ z, decide (x.ks = y.ks) = z := ⟨_, rfl⟩
  have EM := Lib.hid (sleq_any x.kc y.kc kq (w := W1) S1.out S2.out (by omega) hkq)
  have BW0 := BW.out 0
  by_cases e1 : x.err = y.err
  · have r1 : (x.err == y.err) = true := by simpa using e1
    by_cases e2 : x.val = y.val
    · have r2 : (x.val.toList == y.val.toList) = true := by rw [seq_of]; exact decide_eq_true e2
      cases kq
      · have e : q = false := by rw [← HQ.out, hkq]; simp
        subst e
        clear e1 e2 hkq
        go_enter Try.func23, Try.ntmps23
        go_upto_region 1 with fail
        rw [← HW1.out]
        go_wp2_with (go_at_call 35; refine EM.out.mono ?_; rintro e5 w5 ⟨rfl, m5, rfl⟩)
        go_ret
        exact ⟨rfl, BW.out _⟩
      · by_cases e4 : x.n = y.n
        · have r4 : (x.n == y.n) = true := by simpa using e4
          have e : lkB x.g y.g = q := by rw [← HQ.out, hkq]; simp [e1, e2, e4]
          have HE := Lib.hid e
          have G1 := V1
          have G2 := V1
          have G3 := V1
          clear e1 e2 hkq e4 e
          go_enter Try.func23, Try.ntmps23
          go_upto_region 1 with fail
          rw [← HW1.out]
          go_wp2_with (first
                | (go_at_call 35; refine EM.out.mono ?_; rintro e5 w5 ⟨rfl, m5, rfl⟩)
                | (have g := G1; clear g; refine wpList_load_guard (op := ⟨some 33, .load 31 (.tmp 32), _, _, _, some (26, true)⟩) (by rfl) 31 (.tmp 32) rfl (w.heap.size) (4) rfl (lc x.g) _ ((fun j v hv => C4.out j v hv)) Try.underlying31 rfl (lk_size x.g) ?_; clear G1)
                | (have g := G2; clear g; refine wpList_load_guard (op := ⟨some 35, .load 31 (.tmp 34), _, _, _, some (26, true)⟩) (by rfl) 31 (.tmp 34) rfl (w.heap.size + 1) (4) rfl (lc y.g) _ ((fun j v hv => D4.out j v hv)) Try.underlying31 rfl (lk_size y.g) ?_; clear G2)
                | (have g := G3; clear g; refine wpList_execG (op := ⟨some 36, .binOp .eql 31 (.tmp 33) (.tmp 35) 31, _, _, _, some (26, true)⟩) (by rfl) (.bool (lkB x.g y.g)) (exec_cmp .eql 31 (.tmp 33) (.tmp 35) _ _ rfl rfl rfl Try.eqGuardType31 (run_lkEq _ _ _)) ?_; clear G3))
          go_ret
          exact ⟨congrArg (fun z => Ending.returned (.bool z)) HE.out, BW.out _⟩
        · have r4 : (x.n == y.n) = false := by simpa using e4
          have e : q = false := by rw [← HQ.out]; simp [e4]
          subst e
          clear e1 e2 hkq e4
          go_enter Try.func23, Try.ntmps23
          go_upto_region 1 with fail
          rw [← HW1.out]
          go_wp2_with (go_at_call 35; refine EM.out.mono ?_; rintro e5 w5 ⟨rfl, m5, rfl⟩)
          go_ret
          exact ⟨rfl, BW.out _⟩
    · have r2 : (x.val.toList == y.val.toList) = false := by rw [seq_of]; exact decide_eq_false e2
      have e : q = false := by rw [← HQ.out]; simp [e2]
      subst e
      clear e1 e2 hkq
      go_enter Try.func23, Try.ntmps23
      go_upto_region 1 with fail
      rw [← HW1.out]
      go_wp2
      go_ret
      exact ⟨rfl, BW0⟩
  · have r1 : (x.err == y.err) = false := by simpa using e1
    have e : q = false := by rw [← HQ.out]; simp [e1]
    subst e
    clear e1 hkq
    go_enter Try.func23, Try.ntmps23
    go_upto_region 1 with fail
    rw [← HW1.out]
    go_wp2
    go_ret
    exact ⟨rfl, BW0⟩
end Go.Proofs.Ytlapdocikhjkcaa
