/- The statement RequestFields: the walk. -/
import Derived.Test.YtcgclaailhhbpaaRqN
import Derived.Great.BuildSlice
namespace Go.Proofs.Ytcgclaailhhbpaa
open Go.ChangeShapes Go.WideShapes Go.ChangeAt Go.RowKit
set_option linter.unusedVariables false
set_option maxRecDepth 100000
set_option linter.unusedSimpArgs false
open Plain Sha Au Rp Rq
theorem slice_6 (x : QX) (W : World) : (Instr.buildSlice 60 6 #[(0, .agg (qc x).toArray), (1, .agg (qc x).toArray), (2, .agg (qc x).toArray), (3, .agg (qc x).toArray), (4, .agg (qc x).toArray), (5, .agg (qc x).toArray)]).run Try.prog W = .ok (.slice (some ⟨W.heap.size, 0, none⟩) 6 6) (W.alloc (.cells (qc x ++ (qc x ++ (qc x ++ (qc x ++ (qc x ++ qc x))))).toArray 26)) := by
  obtain ⟨i, hi, hz, hs, hb⟩ := info_parts (show (Try.prog.info? 26).map (fun i => (i.zero, i.size, i.bytes)) = some (some (.agg (qc q0).toArray), 12, 136) by kernel_rfl)
  refine run_buildSlice W 60 26 6 _ _ i _ Try.underlying60 hi hz (by rw [hs]; omega) (by rw [hs]; omega) ?_
  rw [hs]
  obtain ⟨u, hu⟩ : ∃ u : Value, u = .agg (qc x).toArray := ⟨_, rfl⟩
  have hc : u.cells = (qc x).toArray := by rw [hu]; rfl
  have hsz : u.cells.size = 12 := by rw [hc, List.size_toArray, qc_len]
  rw [← hu]
  obtain ⟨zz, hzz, hzs⟩ : ∃ z : Array Value, z = (Array.range (6 * 12)).map ((Value.agg (qc q0).toArray).cells[· % (Value.agg (qc q0).toArray).cells.size]!) ∧ z.size = 72 := ⟨_, rfl, by simp⟩
  rw [← hzz]
  have h2 := Great.fill_whole (s := 12) (by omega) [u, u, u, u, u, u] zz (fun v hv => by
    simp only [List.mem_cons, List.not_mem_nil, or_false, or_self] at hv
    rw [hv]; exact hsz) (by rw [hzs]; rfl)
  have e : ([u, u, u, u, u, u].flatMap fun v => v.cells.toList).toArray = (qc x ++ (qc x ++ (qc x ++ (qc x ++ (qc x ++ qc x))))).toArray := by
    simp only [List.flatMap_cons, List.flatMap_nil, hc, List.append_nil]
  rw [e] at h2
  exact h2
theorem exec_slice6 {P : Program} {a : Act} {op : Oper} {x0 x1 x2 x3 x4 x5 : Operand} {x : QX} {w : World} (hP : P = Try.prog) (ho : op.op = .buildSlice 60 6 #[(0, x0), (1, x1), (2, x2), (3, x3), (4, x4), (5, x5)]) (h0 : a.eval x0 = .agg (qc x).toArray) (h1 : a.eval x1 = .agg (qc x).toArray) (h2 : a.eval x2 = .agg (qc x).toArray) (h3 : a.eval x3 = .agg (qc x).toArray) (h4 : a.eval x4 = .agg (qc x).toArray) (h5 : a.eval x5 = .agg (qc x).toArray) : (execOp a.eval op).run P w = .ok (.value (.slice (some ⟨w.heap.size, 0, none⟩) 6 6)) (w.alloc (.cells (qc x ++ (qc x ++ (qc x ++ (qc x ++ (qc x ++ qc x))))).toArray 26)) := by
  subst hP
  have hb := slice_6 x w
  unfold execOp
  simp only [ho]
  simp only [List.map_toArray, List.map_cons, List.map_nil, h0, h1, h2, h3, h4, h5]
  simp [hb]
theorem may_nums {z : ReqZ} (h : mayB z = true) : 1 ≤ z.op ∧ z.op ≤ 10 ∧ (0 ≤ z.tn ∧ z.tn ≤ 8) ∧ (0 ≤ z.ks ∧ z.ks ≤ 65536) := by
  unfold mayB at h
  simp only [Bool.and_eq_true] at h
  obtain ⟨⟨⟨h1, h2⟩, h3⟩, ⟨⟨⟨⟨⟨⟨⟨h4, h5⟩, h6⟩, h7⟩, h8⟩, h9⟩, h10⟩, h11⟩⟩ := h
  refine ⟨of_decide_eq_true h1, of_decide_eq_true h2, ?_, ?_⟩
  · unfold tnB at h8
    split at h8
    · have := inB_le h8; omega
    · split at h8
      · have := inB_le h8; omega
      · have := of_decide_eq_true h8; omega
  · unfold spB at h9
    split at h9
    · have := inB_le h9; omega
    · have := of_decide_eq_true h9; omega
theorem no_op {z : ReqZ} (h : mayB z = true) : mayB { z with op := z.op + 10 } = false := by
  have := may_nums h
  unfold mayB
  rw [decide_eq_false (p := z.op + 10 ≤ 10) (by omega)]
  simp
theorem no_tok {z : ReqZ} (t : List Int) (ht : t.length = 257) : mayB { z with tok := t } = false := by
  unfold mayB
  rw [decide_eq_false (p := t.length ≤ 256) (by omega)]
  simp
theorem no_sr {z : ReqZ} : mayB { z with sr := 1 } = false := by
  unfold mayB
  have : grB z.op z.rt z.ex 1 = false := by
    unfold grB
    split <;> simp
  simp [this]
theorem no_ks {z : ReqZ} (h : mayB z = true) : mayB { z with ks := z.ks + 70000 } = false := by
  have := may_nums h
  unfold mayB
  have : spB z.op (z.ks + 70000) = false := by
    unfold spB
    split
    · unfold inB; rw [decide_eq_false (p := z.ks + 70000 ≤ 65536) (by omega), Bool.and_false]
    · exact decide_eq_false (by omega)
  simp [this]
theorem no_tn {z : ReqZ} (h : mayB z = true) : mayB { z with tn := z.tn + 9 } = false := by
  have := may_nums h
  unfold mayB
  have : tnB z.op (z.tn + 9) = false := by
    unfold tnB
    split
    · unfold inB; rw [decide_eq_false (p := z.tn + 9 ≤ 8) (by omega), Bool.and_false]
    · split
      · unfold inB; rw [decide_eq_false (p := z.tn + 9 ≤ 8) (by omega), Bool.and_false]
      · exact decide_eq_false (by omega)
  simp [this]
theorem no_old {z : ReqZ} (s : ByteArray) (h : 65 ≤ s.size ∨ (64 ≤ s.size ∧ z.op ≠ 3)) : mayB { z with old := s } = false := by
  unfold mayB
  have : oldB z.op s = false := by
    unfold oldB
    split
    · next h3 => unfold inB; rw [decide_eq_false (p := ((s.size : Nat) : Int) ≤ 64) (by omega), Bool.and_false]
    · refine decide_eq_false (fun e => ?_)
      subst e
      have : ByteArray.empty.size = 0 := rfl
      omega
  simp [this]
theorem rng_left {w : World} {b o : Nat} {l1 l2 : List Value} (h : w.rangeAt b o (l1 ++ l2)) : w.rangeAt b o l1 := fun j v hv => h j v (by rw [List.getElem?_append_left (List.getElem?_eq_some_iff.1 hv).1]; exact hv)
theorem rng_right {w : World} {b o m : Nat} {l1 l2 : List Value} (h : w.rangeAt b o (l1 ++ l2)) (hm : l1.length = m) : w.rangeAt b (o + m) l2 := fun j v hv => by
  have := h (m + j) v (by rw [List.getElem?_append_right (by omega), show m + j - l1.length = j by omega]; exact hv)
  rwa [← Nat.add_assoc] at this
/-- A row of six requests. -/
def six (a b c d e f : QX) : List Value := qc a ++ (qc b ++ (qc c ++ (qc d ++ (qc e ++ qc f))))
theorem six_at {w : World} {g : Nat} {a b c d e f : QX} (h : VBox w g 72 (six a b c d e f)) : w.rangeAt g 0 (qc a) ∧ w.rangeAt g 12 (qc b) ∧ w.rangeAt g 24 (qc c) ∧ w.rangeAt g 36 (qc d) ∧ w.rangeAt g 48 (qc e) ∧ w.rangeAt g 60 (qc f) := by
  have h0 := h.range
  have h1 := rng_right h0 rfl
  have h2 := rng_right h1 rfl
  have h3 := rng_right h2 rfl
  have h4 := rng_right h3 rfl
  have h5 := rng_right h4 rfl
  exact ⟨rng_left h0, rng_left h1, rng_left h2, rng_left h3, rng_left h4, h5⟩
theorem VBox.cellA {w : World} {b k : Nat} {cs : List Value} (h : VBox w b k cs) (i : Nat) {v : Value} (hv : cs[i]? = some v) : w.cell? ⟨b, i, none⟩ = some v ∧ w.frozen? ⟨b, i, none⟩ = false := by
  have h1 := h.range i v hv
  have hi : i < k := by rw [← h.len]; exact (List.getElem?_eq_some_iff.1 hv).1
  have h2 := (h.there i hi).2
  rw [Nat.zero_add] at h1 h2
  exact ⟨h1, h2⟩
theorem wpList_execM {P : Program} {ops : Array Oper} {rest : List Oper} {op : Oper} {a : Act} {w w' : World} {Q : Exit → Act → World → Prop} (hgd : op.guard = none) (v : Value)
    (hrun : (execOp a.eval op).run P w = .ok (.value v) w') (h : wpList P ops Q rest (a.put op.dst v) w') : wpList P ops Q (op :: rest) a w :=
  wpList_plain hgd fun K hK => by
    unfold Oper.wp
    simp only [hrun]
    exact hK _ _ h
theorem wpList_slice6 {ops : Array Oper} {rest : List Oper} {o : Oper} {a : Act} {w : World} {Q : Exit → Act → World → Prop} (hgd : o.guard = none) (x0 x1 x2 x3 x4 x5 : Operand) (ho : o.op = .buildSlice 60 6 #[(0, x0), (1, x1), (2, x2), (3, x3), (4, x4), (5, x5)]) (x : QX)
    (h0 : a.eval x0 = .agg (qc x).toArray) (h1 : a.eval x1 = .agg (qc x).toArray) (h2 : a.eval x2 = .agg (qc x).toArray) (h3 : a.eval x3 = .agg (qc x).toArray) (h4 : a.eval x4 = .agg (qc x).toArray) (h5 : a.eval x5 = .agg (qc x).toArray)
    (h : ∀ w', Hid (w' = w.alloc (.cells (six x x x x x x).toArray 26)) → wpList Try.prog ops Q rest (a.put o.dst (.slice (some ⟨w.heap.size, 0, none⟩) 6 6)) w') : wpList Try.prog ops Q (o :: rest) a w :=
  wpList_execM hgd _ (exec_slice6 rfl ho h0 h1 h2 h3 h4 h5) (h _ (Lib.hid rfl))
theorem rq_idx (a : Int) (m : Nat) (h0 : 0 < m) (hm : m ≤ 100) : ∃ k : Nat, k < m ∧ wrap64 ((IntKind.u64.wrap a).tmod (m : Int)) = (k : Int) := by
  have e : IntKind.u64.wrap a = a % 18446744073709551616 := IntKind.wrap_u64 a
  have h1 : 0 ≤ a % 18446744073709551616 := Int.emod_nonneg _ (by omega)
  refine ⟨((a % 18446744073709551616) % (m : Int)).toNat, ?_, ?_⟩
  · have h2 := Int.emod_lt_of_pos (a % 18446744073709551616) (show (0 : Int) < m by omega)
    have h3 := Int.emod_nonneg (a % 18446744073709551616) (show (m : Int) ≠ 0 by omega)
    omega
  · rw [e, Int.tmod_eq_emod_of_nonneg h1]
    have h2 := Int.emod_lt_of_pos (a % 18446744073709551616) (show (0 : Int) < m by omega)
    have h3 := Int.emod_nonneg (a % 18446744073709551616) (show (m : Int) ≠ 0 by omega)
    unfold wrap64
    omega
set_option maxHeartbeats 16000000 in
theorem rqfields_in (x : QX) (which : Int) (w : World) (h : QOk w w.heap.size x) (hM : x.tl ≤ 140737488355328) (hwh : -9223372036854775808 ≤ which ∧ which ≤ 9223372036854775807) :
    Calls Try.prog 10 #[.agg (qc x).toArray, .int .i64 which] w (fun e w' => e = .returned (.bool true) ∧ Below w.heap.size w w') := by
  obtain ⟨W1, hW1⟩ : ∃ W, W = w.alloc (.cells (qc x).toArray 26) := ⟨_, rfl⟩
  have b1 := Lib.hid (show Below w.heap.size w W1 by rw [hW1]; exact below_one _ _)
  obtain ⟨g, hg⟩ : ∃ g, w.heap.size = g := ⟨_, rfl⟩
  have HG := Lib.hid hg
  have V1 := Lib.hid (show VBox W1 g 12 (qc x) by rw [hW1]; exact vbox_new _ _ _ _ _ hg (qc_len x) (by omega))
  have HW1 := Lib.hid hW1
  have HH := Lib.hid h
  have UP : Hid (∀ W, Below W1.heap.size W1 W → Below w.heap.size w W) := Lib.hid (fun W hW => b1.out.trans (hW.mono b1.out.size))
  have VX : Hid (∀ W, Below W1.heap.size W1 W → VBox W g 12 (qc x)) := Lib.hid (fun W hW => V1.out.grow hW)
  have XQ : Hid (∀ W, Below W1.heap.size W1 W → QOk W w.heap.size x) := Lib.hid (fun W hW => HH.out.below (UP.out W hW) (Nat.le_refl _))
  have SZ : Hid (∀ W, Below W1.heap.size W1 W → w.heap.size ≤ W.heap.size) := Lib.hid (fun W hW => (UP.out W hW).size)
  have P1 := Lib.hid (Below.refl W1.heap.size W1)
  have HTL := Lib.hid h.tok.len
  clear hW1 hg
  obtain ⟨gq, hgq⟩ : ∃ q, greatQ x.z = q := ⟨_, rfl⟩
  have GM := Lib.hid (fun w => greatq_any (w := w) gq HTL.out hgq)
  obtain ⟨q, hq⟩ : ∃ q, mayB x.z = q := ⟨_, rfl⟩
  have MM := Lib.hid (fun w => may_any (w := w) q HTL.out hq)
  have HQ := Lib.hid hq
  cases gq with
  | true =>
    clear hgq h hq
    go_enter Try.func10, Try.ntmps10
    go_upto_region 1 with fail
    rw [← HW1.out, HG.out]
    go_wp2_with (first
          | (go_at_call 28; refine (rqawake_any W1).mono ?_; rintro e w2 ⟨rfl, hb⟩; have P2 := Lib.hid (P1.out.trans (hb.mono P1.out.size)); clear hb)
          | (show wpList _ _ _ (⟨some 9, .load 26 (.tmp 2), _, _, _, _⟩ :: _) _ _; refine wpList_load_mid (op := ⟨some 9, .load 26 (.tmp 2), _, _, _, _⟩) rfl 26 (.tmp 2) rfl (g) 0 rfl (qc x) _ ((VX.out _ P2.out).range) Try.underlying26 rfl (q_size x) ?_)
          | (go_at_call 11; refine (GM.out _).mono ?_; rintro e w3 ⟨rfl, hb⟩; have P3 := Lib.hid (P2.out.trans (hb.mono P2.out.size)); clear hb))
    go_ret
    exact ⟨rfl, UP.out _ P3.out⟩
  | false =>
    cases q with
    | false =>
      clear hgq h hq
      go_enter Try.func10, Try.ntmps10
      go_upto_region 1 with fail
      rw [← HW1.out, HG.out]
      go_wp2_with (first
            | (go_at_call 28; refine (rqawake_any W1).mono ?_; rintro e w2 ⟨rfl, hb⟩; have P2 := Lib.hid (P1.out.trans (hb.mono P1.out.size)); clear hb)
            | (show wpList _ _ _ (⟨some 9, .load 26 (.tmp 2), _, _, _, _⟩ :: _) _ _; refine wpList_load_mid (op := ⟨some 9, .load 26 (.tmp 2), _, _, _, _⟩) rfl 26 (.tmp 2) rfl (g) 0 rfl (qc x) _ ((VX.out _ P2.out).range) Try.underlying26 rfl (q_size x) ?_)
            | (go_at_call 11; refine (GM.out _).mono ?_; rintro e w3 ⟨rfl, hb⟩; have P3 := Lib.hid (P2.out.trans (hb.mono P2.out.size)); clear hb)
            | (show wpList _ _ _ (⟨some 12, .load 26 (.tmp 2), _, _, _, some (2, false)⟩ :: _) _ _; refine wpList_load_guard (op := ⟨some 12, .load 26 (.tmp 2), _, _, _, some (2, false)⟩) (by rfl) 26 (.tmp 2) rfl (g) 0 rfl (qc x) _ ((VX.out _ P3.out).range) Try.underlying26 rfl (q_size x) ?_)
            | (go_at_call 15; refine (MM.out _).mono ?_; rintro e w4 ⟨rfl, hb⟩; have P4 := Lib.hid (P3.out.trans (hb.mono P3.out.size)); clear hb))
      go_ret
      exact ⟨rfl, UP.out _ P4.out⟩
    | true =>
      clear hgq h hq
      go_enter Try.func10, Try.ntmps10
      go_upto_region 1 with fail
      rw [← HW1.out, HG.out]
      go_upto_region 5 with (first
            | (go_at_call 28; refine (rqawake_any W1).mono ?_; rintro e w2 ⟨rfl, hb⟩; have P2 := Lib.hid (P1.out.trans (hb.mono P1.out.size)); clear hb)
            | (show wpList _ _ _ (⟨some 9, .load 26 (.tmp 2), _, _, _, _⟩ :: _) _ _; refine wpList_load_mid (op := ⟨some 9, .load 26 (.tmp 2), _, _, _, _⟩) rfl 26 (.tmp 2) rfl (g) 0 rfl (qc x) _ ((VX.out _ P2.out).range) Try.underlying26 rfl (q_size x) ?_)
            | (go_at_call 11; refine (GM.out _).mono ?_; rintro e w3 ⟨rfl, hb⟩; have P3 := Lib.hid (P2.out.trans (hb.mono P2.out.size)); clear hb)
            | (show wpList _ _ _ (⟨some 12, .load 26 (.tmp 2), _, _, _, some (2, false)⟩ :: _) _ _; refine wpList_load_guard (op := ⟨some 12, .load 26 (.tmp 2), _, _, _, some (2, false)⟩) (by rfl) 26 (.tmp 2) rfl (g) 0 rfl (qc x) _ ((VX.out _ P3.out).range) Try.underlying26 rfl (q_size x) ?_)
            | (go_at_call 15; refine (MM.out _).mono ?_; rintro e w4 ⟨rfl, hb⟩; have P4 := Lib.hid (P3.out.trans (hb.mono P3.out.size)); clear hb))
      go_upto_region 6 with (first
            | (show wpList _ _ _ (⟨some 16, .load 26 (.tmp 2), _, _, _, _⟩ :: _) _ _; refine wpList_load_mid (op := ⟨some 16, .load 26 (.tmp 2), _, _, _, _⟩) rfl 26 (.tmp 2) rfl (g) 0 rfl (qc x) _ ((VX.out _ P4.out).range) Try.underlying26 rfl (q_size x) ?_)
            | (show wpList _ _ _ (⟨some 17, .load 26 (.tmp 2), _, _, _, _⟩ :: _) _ _; refine wpList_load_mid (op := ⟨some 17, .load 26 (.tmp 2), _, _, _, _⟩) rfl 26 (.tmp 2) rfl (g) 0 rfl (qc x) _ ((VX.out _ P4.out).range) Try.underlying26 rfl (q_size x) ?_)
            | (show wpList _ _ _ (⟨some 18, .load 26 (.tmp 2), _, _, _, _⟩ :: _) _ _; refine wpList_load_mid (op := ⟨some 18, .load 26 (.tmp 2), _, _, _, _⟩) rfl 26 (.tmp 2) rfl (g) 0 rfl (qc x) _ ((VX.out _ P4.out).range) Try.underlying26 rfl (q_size x) ?_)
            | (show wpList _ _ _ (⟨some 19, .load 26 (.tmp 2), _, _, _, _⟩ :: _) _ _; refine wpList_load_mid (op := ⟨some 19, .load 26 (.tmp 2), _, _, _, _⟩) rfl 26 (.tmp 2) rfl (g) 0 rfl (qc x) _ ((VX.out _ P4.out).range) Try.underlying26 rfl (q_size x) ?_)
            | (show wpList _ _ _ (⟨some 20, .load 26 (.tmp 2), _, _, _, _⟩ :: _) _ _; refine wpList_load_mid (op := ⟨some 20, .load 26 (.tmp 2), _, _, _, _⟩) rfl 26 (.tmp 2) rfl (g) 0 rfl (qc x) _ ((VX.out _ P4.out).range) Try.underlying26 rfl (q_size x) ?_)
            | (show wpList _ _ _ (⟨some 21, .load 26 (.tmp 2), _, _, _, _⟩ :: _) _ _; refine wpList_load_mid (op := ⟨some 21, .load 26 (.tmp 2), _, _, _, _⟩) rfl 26 (.tmp 2) rfl (g) 0 rfl (qc x) _ ((VX.out _ P4.out).range) Try.underlying26 rfl (q_size x) ?_)
            | (show wpList _ _ _ (⟨some 22, .buildSlice 60 6 #[(0, .tmp 16), (1, .tmp 17), (2, .tmp 18), (3, .tmp 19), (4, .tmp 20), (5, .tmp 21)], _, _, _, _⟩ :: _) _ _; refine wpList_slice6 rfl (.tmp 16) (.tmp 17) (.tmp 18) (.tmp 19) (.tmp 20) (.tmp 21) rfl x rfl rfl rfl rfl rfl rfl ?_; intro w5 hw5))
      obtain ⟨gl, hgl⟩ : ∃ g, w4.heap.size = g := ⟨_, rfl⟩
      rw [hgl]
      have HGL := Lib.hid hgl
      have VR5 := Lib.hid (show VBox w5 gl 72 (six x x x x x x) by rw [hw5.out]; exact vbox_new w4 _ _ _ _ hgl rfl (by omega))
      have P5 := Lib.hid (show Below W1.heap.size W1 w5 by rw [hw5.out]; exact P4.out.trans ((below_one _ _).mono P4.out.size))
      clear hw5 hgl
      have VR := Lib.hid (show VBox w5 gl 72 (six x x x x x x) from VR5.out)
      have NM := Lib.hid (may_nums HQ.out)
      have nm := NM.out
      have nm1 : 1 ≤ x.op ∧ x.op ≤ 10 := ⟨nm.1, nm.2.1⟩
      have nm2 : 0 ≤ x.tn ∧ x.tn ≤ 8 := nm.2.2.1
      have nm3 : 0 ≤ x.ks ∧ x.ks ≤ 65536 := nm.2.2.2
      have hw7 : IntKind.i64.wrap (x.ks + 70000) = x.ks + 70000 := by rw [IntKind.wrap_i64]; omega
      have hw10 : IntKind.u8.wrap (x.op + 10) = x.op + 10 := by rw [IntKind.wrap_u8]; omega
      have hw11 : IntKind.i64.wrap (x.tn + 9) = x.tn + 9 := by rw [IntKind.wrap_i64]; omega
      have hol : x.old.size ≤ 64 := (may_short HQ.out).2.2.2
      clear VR5 nm nm1 nm2 nm3
      obtain ⟨x0, y0⟩ := VR.out.cellA 4 (v := .string x.old) rfl
      have d0 := ((VX.out _ P5.out).cellA 4 (v := .string x.old) rfl).1
      go_upto_region 7 with fail
      obtain ⟨so, hso⟩ : ∃ s : ByteArray, x.old ++ ⟨#[49, 50, 51, 52, 53, 54, 55, 56, 57, 48, 49, 50, 51, 52, 53, 54, 55, 56, 57, 48, 49, 50, 51, 52, 53, 54, 55, 56, 57, 48, 49, 50, 51, 52, 53, 54, 55, 56, 57, 48, 49, 50, 51, 52, 53, 54, 55, 56, 57, 48, 49, 50, 51, 52, 53, 54, 55, 56, 57, 48, 49, 50, 51, 52]⟩ = s := ⟨_, rfl⟩
      rw [hso]
      have HSO := Lib.hid (show so.size = x.old.size + 64 by rw [← hso, ByteArray.size_append]; rfl)
      clear hso
      obtain ⟨s0, hs0⟩ : ∃ W, W = w5.setCell ⟨gl, 4, none⟩ (.string so) := ⟨_, rfl⟩
      rw [← hs0]
      obtain ⟨u0, hq0⟩ : ∃ q : QX, q = { x with old := so } := ⟨_, rfl⟩
      have VS := Lib.hid (show VBox s0 gl 72 (six u0 x x x x x) by rw [hs0, hq0]; exact VR.out.set (by omega) _)
      have PS0 := Lib.hid (show Below W1.heap.size W1 s0 by rw [hs0]; exact P5.out.setCell (p := ⟨gl, 4, none⟩) (by rw [← HGL.out]; exact P4.out.size) _)
      have HE0 := Lib.hid hq0
      clear VR hs0 hq0 x0 y0
      have VR := VS
      clear VS
      obtain ⟨x1, y1⟩ := VR.out.cellA 19 (v := .int .i64 x.ks) rfl
      have d1 := ((VX.out _ PS0.out).cellA 7 (v := .int .i64 x.ks) rfl).1
      go_upto_region 8 with fail
      obtain ⟨s1, hs1⟩ : ∃ W, W = s0.setCell ⟨gl, 19, none⟩ (.int .i64 (x.ks + 70000)) := ⟨_, rfl⟩
      rw [← hs1]
      obtain ⟨u1, hq1⟩ : ∃ q : QX, q = { x with ks := x.ks + 70000 } := ⟨_, rfl⟩
      have VS := Lib.hid (show VBox s1 gl 72 (six u0 u1 x x x x) by rw [hs1, hq1]; exact VR.out.set (by omega) _)
      have PS1 := Lib.hid (show Below W1.heap.size W1 s1 by rw [hs1]; exact PS0.out.setCell (p := ⟨gl, 19, none⟩) (by rw [← HGL.out]; exact P4.out.size) _)
      have HE1 := Lib.hid hq1
      clear VR hs1 hq1 x1 y1
      have VR := VS
      clear VS
      obtain ⟨x2, y2⟩ := VR.out.cellA 35 (v := .int .i64 x.sr) rfl
      go_upto_region 9 with fail
      obtain ⟨s2, hs2⟩ : ∃ W, W = s1.setCell ⟨gl, 35, none⟩ (.int .i64 1) := ⟨_, rfl⟩
      rw [← hs2]
      obtain ⟨u2, hq2⟩ : ∃ q : QX, q = { x with sr := 1 } := ⟨_, rfl⟩
      have VS := Lib.hid (show VBox s2 gl 72 (six u0 u1 u2 x x x) by rw [hs2, hq2]; exact VR.out.set (by omega) _)
      have PS2 := Lib.hid (show Below W1.heap.size W1 s2 by rw [hs2]; exact PS1.out.setCell (p := ⟨gl, 35, none⟩) (by rw [← HGL.out]; exact P4.out.size) _)
      have HE2 := Lib.hid hq2
      clear VR hs2 hq2 x2 y2
      have VR := VS
      clear VS
      have hmk : ∀ W, (Instr.makeSlice 22 (.int .i64 257) (.int .i64 257)).run Try.prog W = .ok (.slice (some ⟨W.heap.size, 0, none⟩) 257 257) (W.alloc (.cells (madeCells #[.int .u8 0] 257) 5)) := fun W => make_u8 257 (by omega) W
      obtain ⟨x3, y3⟩ := VR.out.cellA 37 (v := .slice x.A x.tl x.tc) rfl
      have lg := VR.out.lt
      go_upto_region 10 with fail
      obtain ⟨gz, hgz⟩ : ∃ g, s2.heap.size = g := ⟨_, rfl⟩
      rw [hgz]
      clear hmk lg hgz
      obtain ⟨s3, hs3⟩ : ∃ W, W = s2.setCell ⟨gl, 37, none⟩ (.slice (some ⟨gz, 0, none⟩) 257 257) := ⟨_, rfl⟩
      rw [← hs3]
      obtain ⟨u3, hq3⟩ : ∃ q : QX, q = { x with A := some ⟨gz, 0, none⟩, tl := 257, tc := 257, tok := List.replicate 257 0 } := ⟨_, rfl⟩
      have VS := Lib.hid (show VBox s3 gl 72 (six u0 u1 u2 u3 x x) by rw [hs3, hq3]; exact VR.out.set (by omega) _)
      have PS3 := Lib.hid (show Below W1.heap.size W1 s3 by rw [hs3]; exact PS2.out.setCell (p := ⟨gl, 37, none⟩) (by rw [← HGL.out]; exact P4.out.size) _)
      have HE3 := Lib.hid hq3
      clear VR hs3 hq3 x3 y3
      have VR := VS
      clear VS
      obtain ⟨sz, hsz⟩ : ∃ W, W = s3.alloc (.cells (madeCells #[.int .u8 0] 257) 5) := ⟨_, rfl⟩
      rw [← hsz]
      have VZ := Lib.hid (show VBox sz gl 72 (six u0 u1 u2 u3 x x) by rw [hsz]; exact VR.out.grow (below_one _ _))
      have PZ := Lib.hid (show Below W1.heap.size W1 sz by rw [hsz]; exact PS3.out.trans ((below_one _ _).mono PS3.out.size))
      clear VR hsz
      have VR := VZ
      clear VZ
      obtain ⟨x4, y4⟩ := VR.out.cellA 48 (v := .int .u8 x.op) rfl
      have d4 := ((VX.out _ PZ.out).cellA 0 (v := .int .u8 x.op) rfl).1
      go_upto_region 11 with fail
      obtain ⟨s4, hs4⟩ : ∃ W, W = sz.setCell ⟨gl, 48, none⟩ (.int .u8 (x.op + 10)) := ⟨_, rfl⟩
      rw [← hs4]
      obtain ⟨u4, hq4⟩ : ∃ q : QX, q = { x with op := x.op + 10 } := ⟨_, rfl⟩
      have VS := Lib.hid (show VBox s4 gl 72 (six u0 u1 u2 u3 u4 x) by rw [hs4, hq4]; exact VR.out.set (by omega) _)
      have PS4 := Lib.hid (show Below W1.heap.size W1 s4 by rw [hs4]; exact PZ.out.setCell (p := ⟨gl, 48, none⟩) (by rw [← HGL.out]; exact P4.out.size) _)
      have HE4 := Lib.hid hq4
      clear VR hs4 hq4 x4 y4
      have VR := VS
      clear VS
      obtain ⟨x5, y5⟩ := VR.out.cellA 66 (v := .int .i64 x.tn) rfl
      have d5 := ((VX.out _ PS4.out).cellA 6 (v := .int .i64 x.tn) rfl).1
      go_upto_region 12 with fail
      obtain ⟨s5, hs5⟩ : ∃ W, W = s4.setCell ⟨gl, 66, none⟩ (.int .i64 (x.tn + 9)) := ⟨_, rfl⟩
      rw [← hs5]
      obtain ⟨u5, hq5⟩ : ∃ q : QX, q = { x with tn := x.tn + 9 } := ⟨_, rfl⟩
      have VS := Lib.hid (show VBox s5 gl 72 (six u0 u1 u2 u3 u4 u5) by rw [hs5, hq5]; exact VR.out.set (by omega) _)
      have PS5 := Lib.hid (show Below W1.heap.size W1 s5 by rw [hs5]; exact PS4.out.setCell (p := ⟨gl, 66, none⟩) (by rw [← HGL.out]; exact P4.out.size) _)
      have HE5 := Lib.hid hq5
      clear VR hs5 hq5 x5 y5
      have VR := VS
      clear VS
      obtain ⟨k, hk, hke0⟩ := rq_idx which 6 (by omega) (by omega)
      have hk6 : k = 0 ∨ k = 1 ∨ k = 2 ∨ k = 3 ∨ k = 4 ∨ k = 5 := by omega
      rcases hk6 with rfl | rfl | rfl | rfl | rfl | rfl
      · have hke0 := Lib.hid (show wrap64 ((IntKind.u64.wrap which).tmod 6) = 0 from hke0)
        have hke := hke0.out
        clear hk
        have VK := Lib.hid (six_at VR.out)
        have vn := Lib.hid (vbox_new s5 (qc q0) 26 s5.heap.size 12 rfl (qc_len _) (by omega))
        have TH := Lib.hid (vthere vn.out (us := qc u0) rfl)
        go_upto_region 13 with (first
              | (show wpList _ _ _ (⟨some 61, .load 26 (.tmp 60), _, _, _, _⟩ :: _) _ _; refine wpList_load_mid (op := ⟨some 61, .load 26 (.tmp 60), _, _, _, _⟩) rfl 26 (.tmp 60) rfl (gl) 0 rfl (qc u0) _ (VK.out.1) Try.underlying26 rfl (q_size u0) ?_)
              | (show wpList _ _ _ (⟨none, .store 26 (.tmp 6) (.tmp 61), _, _, _, _⟩ :: _) _ _; refine wpList_store_as (op := ⟨none, .store 26 (.tmp 6) (.tmp 61), _, _, _, _⟩) rfl 26 (.tmp 6) (.tmp 61) rfl (s5.heap.size) 0 (qc u0).toArray rfl rfl (TH.out) (q_sizeA u0) (q_oneA u0) ?_; intro w12 hw12))
        obtain ⟨Vm, bm⟩ := vstored vn.out (qc_len u0) hw12 (Nat.le_refl _) (below_one s5 _)
        have V12 := Lib.hid Vm
        have B12 := Lib.hid bm
        have P12 := Lib.hid (PS5.out.trans (bm.mono PS5.out.size))
        have VR2 := Lib.hid (VR.out.grow bm)
        obtain ⟨gv, hgv⟩ : ∃ g, s5.heap.size = g := ⟨_, rfl⟩
        rw [hgv] at V12
        rw [hgv]
        have NGV : Hid (gv ≠ gl) := Lib.hid (by rw [← hgv]; have := VR.out.lt; omega)
        have LGV : Hid (W1.heap.size ≤ gv) := Lib.hid (by rw [← hgv]; exact PS5.out.size)
        clear VK vn TH hw12 Vm bm VR hgv B12 hke
        obtain ⟨e0, _⟩ := (VX.out _ P12.out).cellA 0 (v := .int .u8 x.op) rfl
        obtain ⟨e4, _⟩ := (VX.out _ P12.out).cellA 4 (v := .string x.old) rfl
        by_cases h3 : x.op = 3
        · have hb3 : (x.op == 3) = true := by simpa using h3
          have H3 := Lib.hid h3
          by_cases hs : x.old = ByteArray.empty
          · have hes : x.old.toList.isEmpty = true := by rw [empty_of]; exact decide_eq_true hs
            have HS0 : Hid (x.old.size = 0) := Lib.hid (by rw [hs]; rfl)
            have hss : so.size ≤ 128 := by have := HSO.out; omega
            clear h3 hs
            obtain ⟨f4, ff4⟩ := VR2.out.cellA 4 (v := .string so) (by rw [show six u0 u1 u2 u3 u4 u5 = qc u0 ++ (qc u1 ++ (qc u2 ++ (qc u3 ++ (qc u4 ++ qc u5)))) from rfl, HE0.out]; rfl)
            go_upto_region 15 with fail
            obtain ⟨so2, hso2⟩ : ∃ s : ByteArray, so ++ ⟨#[53]⟩ = s := ⟨_, rfl⟩
            rw [hso2]
            have HSO2 : Hid (so2.size = 65) := Lib.hid (by rw [← hso2, ByteArray.size_append, HSO.out, HS0.out]; rfl)
            obtain ⟨w14, hw14⟩ : ∃ W, W = w12.setCell ⟨gl, 4, none⟩ (.string so2) := ⟨_, rfl⟩
            rw [← hw14]
            obtain ⟨v0, hv0⟩ : ∃ q : QX, q = { x with old := so2 } := ⟨_, rfl⟩
            have HV0 := Lib.hid hv0
            have VR3 := Lib.hid (show VBox w14 gl 72 (six v0 u1 u2 u3 u4 u5) by
              rw [hw14, hv0]
              have := VR2.out.set (i := 4) (by omega) (.string so2)
              rw [show six u0 u1 u2 u3 u4 u5 = qc u0 ++ (qc u1 ++ (qc u2 ++ (qc u3 ++ (qc u4 ++ qc u5)))) from rfl, HE0.out] at this
              exact this)
            have V14 := Lib.hid (show VBox w14 gv 12 (qc u0) by rw [hw14]; exact V12.out.same (heap_setCell _ _ _ _ _ NGV.out))
            have P14 := Lib.hid (show Below W1.heap.size W1 w14 by rw [hw14]; exact P12.out.setCell (p := ⟨gl, 4, none⟩) (by rw [← HGL.out]; exact P4.out.size) _)
            have VK := Lib.hid (six_at VR3.out)
            have TH := Lib.hid (vthere V14.out (us := qc v0) rfl)
            clear hso2 hw14 hv0 f4 ff4 e0 e4 hb3 hes
            have hke := hke0.out
            go_upto_region 16 with (first
              | (show wpList _ _ _ (⟨some 84, .load 26 (.tmp 83), _, _, _, _⟩ :: _) _ _; refine wpList_load_mid (op := ⟨some 84, .load 26 (.tmp 83), _, _, _, _⟩) rfl 26 (.tmp 83) rfl (gl) 0 rfl (qc v0) _ (VK.out.1) Try.underlying26 rfl (q_size v0) ?_)
              | (show wpList _ _ _ (⟨none, .store 26 (.tmp 6) (.tmp 84), _, _, _, _⟩ :: _) _ _; refine wpList_store_as (op := ⟨none, .store 26 (.tmp 6) (.tmp 84), _, _, _, _⟩) rfl 26 (.tmp 6) (.tmp 84) rfl (gv) 0 (qc v0).toArray rfl rfl (TH.out) (q_sizeA v0) (q_oneA v0) ?_; intro w15 hw15))
            obtain ⟨Vm, bm⟩ := vstored V14.out (qc_len v0) hw15 LGV.out P14.out
            have V15 := Lib.hid Vm
            have P15 := Lib.hid bm
            clear Vm bm hw15 hke
            have MF := Lib.hid (fun w => may_any (w := w) (x := v0) false (by rw [HV0.out]; exact HTL.out) (by rw [HV0.out]; exact no_old (z := x.z) so2 (.inl (by rw [HSO2.out]; exact Nat.le_refl _))))
            go_wp2_with (first
                  | (show wpList _ _ _ (⟨some 85, .load 26 (.tmp 6), _, _, _, _⟩ :: _) _ _; refine wpList_load_mid (op := ⟨some 85, .load 26 (.tmp 6), _, _, _, _⟩) rfl 26 (.tmp 6) rfl (gv) 0 rfl (qc v0) _ (V15.out.range) Try.underlying26 rfl (q_size v0) ?_)
                  | (go_at_call 15; refine (MF.out _).mono ?_; rintro e wz ⟨rfl, hb⟩; have PF := Lib.hid (P15.out.trans (hb.mono P15.out.size)); clear hb))
            go_ret
            exact ⟨rfl, UP.out _ PF.out⟩
          · have hes : x.old.toList.isEmpty = false := by rw [empty_of]; exact decide_eq_false hs
            have HS1 : Hid (1 ≤ x.old.size) := Lib.hid (by
              rcases Nat.eq_zero_or_pos x.old.size with h0 | h0
              · exact absurd (ByteArray.ext (Array.eq_empty_of_size_eq_zero h0)) hs
              · exact h0)
            clear h3 hs
            have MF := Lib.hid (fun w => may_any (w := w) (x := u0) false (by rw [HE0.out]; exact HTL.out) (by rw [HE0.out]; exact no_old (z := x.z) so (.inl (by have := HSO.out; have := HS1.out; omega))))
            go_wp2_with (first
                  | (show wpList _ _ _ (⟨some 85, .load 26 (.tmp 6), _, _, _, _⟩ :: _) _ _; refine wpList_load_mid (op := ⟨some 85, .load 26 (.tmp 6), _, _, _, _⟩) rfl 26 (.tmp 6) rfl (gv) 0 rfl (qc u0) _ (V12.out.range) Try.underlying26 rfl (q_size u0) ?_)
                  | (go_at_call 15; refine (MF.out _).mono ?_; rintro e wz ⟨rfl, hb⟩; have PF := Lib.hid (P12.out.trans (hb.mono P12.out.size)); clear hb))
            go_ret
            exact ⟨rfl, UP.out _ PF.out⟩
        · have hb3 : (x.op == 3) = false := by simpa using h3
          have H3 := Lib.hid h3
          clear h3
          have MF := Lib.hid (fun w => may_any (w := w) (x := u0) false (by rw [HE0.out]; exact HTL.out) (by rw [HE0.out]; exact no_old (z := x.z) so (.inr ⟨by have := HSO.out; omega, H3.out⟩)))
          go_wp2_with (first
                | (show wpList _ _ _ (⟨some 85, .load 26 (.tmp 6), _, _, _, _⟩ :: _) _ _; refine wpList_load_mid (op := ⟨some 85, .load 26 (.tmp 6), _, _, _, _⟩) rfl 26 (.tmp 6) rfl (gv) 0 rfl (qc u0) _ (V12.out.range) Try.underlying26 rfl (q_size u0) ?_)
                | (go_at_call 15; refine (MF.out _).mono ?_; rintro e wz ⟨rfl, hb⟩; have PF := Lib.hid (P12.out.trans (hb.mono P12.out.size)); clear hb))
          go_ret
          exact ⟨rfl, UP.out _ PF.out⟩
      · have hke0 := Lib.hid (show wrap64 ((IntKind.u64.wrap which).tmod 6) = 1 from hke0)
        have hke := hke0.out
        clear hk
        have VK := Lib.hid (six_at VR.out)
        have vn := Lib.hid (vbox_new s5 (qc q0) 26 s5.heap.size 12 rfl (qc_len _) (by omega))
        have TH := Lib.hid (vthere vn.out (us := qc u1) rfl)
        go_upto_region 13 with (first
              | (show wpList _ _ _ (⟨some 61, .load 26 (.tmp 60), _, _, _, _⟩ :: _) _ _; refine wpList_load_mid (op := ⟨some 61, .load 26 (.tmp 60), _, _, _, _⟩) rfl 26 (.tmp 60) rfl (gl) 12 rfl (qc u1) _ (VK.out.2.1) Try.underlying26 rfl (q_size u1) ?_)
              | (show wpList _ _ _ (⟨none, .store 26 (.tmp 6) (.tmp 61), _, _, _, _⟩ :: _) _ _; refine wpList_store_as (op := ⟨none, .store 26 (.tmp 6) (.tmp 61), _, _, _, _⟩) rfl 26 (.tmp 6) (.tmp 61) rfl (s5.heap.size) 0 (qc u1).toArray rfl rfl (TH.out) (q_sizeA u1) (q_oneA u1) ?_; intro w12 hw12))
        obtain ⟨Vm, bm⟩ := vstored vn.out (qc_len u1) hw12 (Nat.le_refl _) (below_one s5 _)
        have V12 := Lib.hid Vm
        have B12 := Lib.hid bm
        have P12 := Lib.hid (PS5.out.trans (bm.mono PS5.out.size))
        have VR2 := Lib.hid (VR.out.grow bm)
        obtain ⟨gv, hgv⟩ : ∃ g, s5.heap.size = g := ⟨_, rfl⟩
        rw [hgv] at V12
        rw [hgv]
        have NGV : Hid (gv ≠ gl) := Lib.hid (by rw [← hgv]; have := VR.out.lt; omega)
        have LGV : Hid (W1.heap.size ≤ gv) := Lib.hid (by rw [← hgv]; exact PS5.out.size)
        clear VK vn TH hw12 Vm bm VR hgv B12 hke
        obtain ⟨e0, _⟩ := (VX.out _ P12.out).cellA 0 (v := .int .u8 x.op) rfl
        obtain ⟨e4, _⟩ := (VX.out _ P12.out).cellA 4 (v := .string x.old) rfl
        by_cases h3 : x.op = 3
        · have hb3 : (x.op == 3) = true := by simpa using h3
          have H3 := Lib.hid h3
          by_cases hs : x.old = ByteArray.empty
          · have hes : x.old.toList.isEmpty = true := by rw [empty_of]; exact decide_eq_true hs
            have HS0 : Hid (x.old.size = 0) := Lib.hid (by rw [hs]; rfl)
            have hss : so.size ≤ 128 := by have := HSO.out; omega
            clear h3 hs
            obtain ⟨f4, ff4⟩ := VR2.out.cellA 4 (v := .string so) (by rw [show six u0 u1 u2 u3 u4 u5 = qc u0 ++ (qc u1 ++ (qc u2 ++ (qc u3 ++ (qc u4 ++ qc u5)))) from rfl, HE0.out]; rfl)
            go_upto_region 15 with fail
            obtain ⟨so2, hso2⟩ : ∃ s : ByteArray, so ++ ⟨#[53]⟩ = s := ⟨_, rfl⟩
            rw [hso2]
            have HSO2 : Hid (so2.size = 65) := Lib.hid (by rw [← hso2, ByteArray.size_append, HSO.out, HS0.out]; rfl)
            obtain ⟨w14, hw14⟩ : ∃ W, W = w12.setCell ⟨gl, 4, none⟩ (.string so2) := ⟨_, rfl⟩
            rw [← hw14]
            obtain ⟨v0, hv0⟩ : ∃ q : QX, q = { x with old := so2 } := ⟨_, rfl⟩
            have HV0 := Lib.hid hv0
            have VR3 := Lib.hid (show VBox w14 gl 72 (six v0 u1 u2 u3 u4 u5) by
              rw [hw14, hv0]
              have := VR2.out.set (i := 4) (by omega) (.string so2)
              rw [show six u0 u1 u2 u3 u4 u5 = qc u0 ++ (qc u1 ++ (qc u2 ++ (qc u3 ++ (qc u4 ++ qc u5)))) from rfl, HE0.out] at this
              exact this)
            have V14 := Lib.hid (show VBox w14 gv 12 (qc u1) by rw [hw14]; exact V12.out.same (heap_setCell _ _ _ _ _ NGV.out))
            have P14 := Lib.hid (show Below W1.heap.size W1 w14 by rw [hw14]; exact P12.out.setCell (p := ⟨gl, 4, none⟩) (by rw [← HGL.out]; exact P4.out.size) _)
            have VK := Lib.hid (six_at VR3.out)
            have TH := Lib.hid (vthere V14.out (us := qc u1) rfl)
            clear hso2 hw14 hv0 f4 ff4 e0 e4 hb3 hes
            have hke := hke0.out
            go_upto_region 16 with (first
              | (show wpList _ _ _ (⟨some 84, .load 26 (.tmp 83), _, _, _, _⟩ :: _) _ _; refine wpList_load_mid (op := ⟨some 84, .load 26 (.tmp 83), _, _, _, _⟩) rfl 26 (.tmp 83) rfl (gl) 12 rfl (qc u1) _ (VK.out.2.1) Try.underlying26 rfl (q_size u1) ?_)
              | (show wpList _ _ _ (⟨none, .store 26 (.tmp 6) (.tmp 84), _, _, _, _⟩ :: _) _ _; refine wpList_store_as (op := ⟨none, .store 26 (.tmp 6) (.tmp 84), _, _, _, _⟩) rfl 26 (.tmp 6) (.tmp 84) rfl (gv) 0 (qc u1).toArray rfl rfl (TH.out) (q_sizeA u1) (q_oneA u1) ?_; intro w15 hw15))
            obtain ⟨Vm, bm⟩ := vstored V14.out (qc_len u1) hw15 LGV.out P14.out
            have V15 := Lib.hid Vm
            have P15 := Lib.hid bm
            clear Vm bm hw15 hke
            have MF := Lib.hid (fun w => may_any (w := w) (x := u1) false (by rw [HE1.out]; exact HTL.out) (by rw [HE1.out]; exact no_ks HQ.out))
            go_wp2_with (first
                  | (show wpList _ _ _ (⟨some 85, .load 26 (.tmp 6), _, _, _, _⟩ :: _) _ _; refine wpList_load_mid (op := ⟨some 85, .load 26 (.tmp 6), _, _, _, _⟩) rfl 26 (.tmp 6) rfl (gv) 0 rfl (qc u1) _ (V15.out.range) Try.underlying26 rfl (q_size u1) ?_)
                  | (go_at_call 15; refine (MF.out _).mono ?_; rintro e wz ⟨rfl, hb⟩; have PF := Lib.hid (P15.out.trans (hb.mono P15.out.size)); clear hb))
            go_ret
            exact ⟨rfl, UP.out _ PF.out⟩
          · have hes : x.old.toList.isEmpty = false := by rw [empty_of]; exact decide_eq_false hs
            have HS1 : Hid (1 ≤ x.old.size) := Lib.hid (by
              rcases Nat.eq_zero_or_pos x.old.size with h0 | h0
              · exact absurd (ByteArray.ext (Array.eq_empty_of_size_eq_zero h0)) hs
              · exact h0)
            clear h3 hs
            have MF := Lib.hid (fun w => may_any (w := w) (x := u1) false (by rw [HE1.out]; exact HTL.out) (by rw [HE1.out]; exact no_ks HQ.out))
            go_wp2_with (first
                  | (show wpList _ _ _ (⟨some 85, .load 26 (.tmp 6), _, _, _, _⟩ :: _) _ _; refine wpList_load_mid (op := ⟨some 85, .load 26 (.tmp 6), _, _, _, _⟩) rfl 26 (.tmp 6) rfl (gv) 0 rfl (qc u1) _ (V12.out.range) Try.underlying26 rfl (q_size u1) ?_)
                  | (go_at_call 15; refine (MF.out _).mono ?_; rintro e wz ⟨rfl, hb⟩; have PF := Lib.hid (P12.out.trans (hb.mono P12.out.size)); clear hb))
            go_ret
            exact ⟨rfl, UP.out _ PF.out⟩
        · have hb3 : (x.op == 3) = false := by simpa using h3
          have H3 := Lib.hid h3
          clear h3
          have MF := Lib.hid (fun w => may_any (w := w) (x := u1) false (by rw [HE1.out]; exact HTL.out) (by rw [HE1.out]; exact no_ks HQ.out))
          go_wp2_with (first
                | (show wpList _ _ _ (⟨some 85, .load 26 (.tmp 6), _, _, _, _⟩ :: _) _ _; refine wpList_load_mid (op := ⟨some 85, .load 26 (.tmp 6), _, _, _, _⟩) rfl 26 (.tmp 6) rfl (gv) 0 rfl (qc u1) _ (V12.out.range) Try.underlying26 rfl (q_size u1) ?_)
                | (go_at_call 15; refine (MF.out _).mono ?_; rintro e wz ⟨rfl, hb⟩; have PF := Lib.hid (P12.out.trans (hb.mono P12.out.size)); clear hb))
          go_ret
          exact ⟨rfl, UP.out _ PF.out⟩
      · have hke0 := Lib.hid (show wrap64 ((IntKind.u64.wrap which).tmod 6) = 2 from hke0)
        have hke := hke0.out
        clear hk
        have VK := Lib.hid (six_at VR.out)
        have vn := Lib.hid (vbox_new s5 (qc q0) 26 s5.heap.size 12 rfl (qc_len _) (by omega))
        have TH := Lib.hid (vthere vn.out (us := qc u2) rfl)
        go_upto_region 13 with (first
              | (show wpList _ _ _ (⟨some 61, .load 26 (.tmp 60), _, _, _, _⟩ :: _) _ _; refine wpList_load_mid (op := ⟨some 61, .load 26 (.tmp 60), _, _, _, _⟩) rfl 26 (.tmp 60) rfl (gl) 24 rfl (qc u2) _ (VK.out.2.2.1) Try.underlying26 rfl (q_size u2) ?_)
              | (show wpList _ _ _ (⟨none, .store 26 (.tmp 6) (.tmp 61), _, _, _, _⟩ :: _) _ _; refine wpList_store_as (op := ⟨none, .store 26 (.tmp 6) (.tmp 61), _, _, _, _⟩) rfl 26 (.tmp 6) (.tmp 61) rfl (s5.heap.size) 0 (qc u2).toArray rfl rfl (TH.out) (q_sizeA u2) (q_oneA u2) ?_; intro w12 hw12))
        obtain ⟨Vm, bm⟩ := vstored vn.out (qc_len u2) hw12 (Nat.le_refl _) (below_one s5 _)
        have V12 := Lib.hid Vm
        have B12 := Lib.hid bm
        have P12 := Lib.hid (PS5.out.trans (bm.mono PS5.out.size))
        have VR2 := Lib.hid (VR.out.grow bm)
        obtain ⟨gv, hgv⟩ : ∃ g, s5.heap.size = g := ⟨_, rfl⟩
        rw [hgv] at V12
        rw [hgv]
        have NGV : Hid (gv ≠ gl) := Lib.hid (by rw [← hgv]; have := VR.out.lt; omega)
        have LGV : Hid (W1.heap.size ≤ gv) := Lib.hid (by rw [← hgv]; exact PS5.out.size)
        clear VK vn TH hw12 Vm bm VR hgv B12 hke
        obtain ⟨e0, _⟩ := (VX.out _ P12.out).cellA 0 (v := .int .u8 x.op) rfl
        obtain ⟨e4, _⟩ := (VX.out _ P12.out).cellA 4 (v := .string x.old) rfl
        by_cases h3 : x.op = 3
        · have hb3 : (x.op == 3) = true := by simpa using h3
          have H3 := Lib.hid h3
          by_cases hs : x.old = ByteArray.empty
          · have hes : x.old.toList.isEmpty = true := by rw [empty_of]; exact decide_eq_true hs
            have HS0 : Hid (x.old.size = 0) := Lib.hid (by rw [hs]; rfl)
            have hss : so.size ≤ 128 := by have := HSO.out; omega
            clear h3 hs
            obtain ⟨f4, ff4⟩ := VR2.out.cellA 4 (v := .string so) (by rw [show six u0 u1 u2 u3 u4 u5 = qc u0 ++ (qc u1 ++ (qc u2 ++ (qc u3 ++ (qc u4 ++ qc u5)))) from rfl, HE0.out]; rfl)
            go_upto_region 15 with fail
            obtain ⟨so2, hso2⟩ : ∃ s : ByteArray, so ++ ⟨#[53]⟩ = s := ⟨_, rfl⟩
            rw [hso2]
            have HSO2 : Hid (so2.size = 65) := Lib.hid (by rw [← hso2, ByteArray.size_append, HSO.out, HS0.out]; rfl)
            obtain ⟨w14, hw14⟩ : ∃ W, W = w12.setCell ⟨gl, 4, none⟩ (.string so2) := ⟨_, rfl⟩
            rw [← hw14]
            obtain ⟨v0, hv0⟩ : ∃ q : QX, q = { x with old := so2 } := ⟨_, rfl⟩
            have HV0 := Lib.hid hv0
            have VR3 := Lib.hid (show VBox w14 gl 72 (six v0 u1 u2 u3 u4 u5) by
              rw [hw14, hv0]
              have := VR2.out.set (i := 4) (by omega) (.string so2)
              rw [show six u0 u1 u2 u3 u4 u5 = qc u0 ++ (qc u1 ++ (qc u2 ++ (qc u3 ++ (qc u4 ++ qc u5)))) from rfl, HE0.out] at this
              exact this)
            have V14 := Lib.hid (show VBox w14 gv 12 (qc u2) by rw [hw14]; exact V12.out.same (heap_setCell _ _ _ _ _ NGV.out))
            have P14 := Lib.hid (show Below W1.heap.size W1 w14 by rw [hw14]; exact P12.out.setCell (p := ⟨gl, 4, none⟩) (by rw [← HGL.out]; exact P4.out.size) _)
            have VK := Lib.hid (six_at VR3.out)
            have TH := Lib.hid (vthere V14.out (us := qc u2) rfl)
            clear hso2 hw14 hv0 f4 ff4 e0 e4 hb3 hes
            have hke := hke0.out
            go_upto_region 16 with (first
              | (show wpList _ _ _ (⟨some 84, .load 26 (.tmp 83), _, _, _, _⟩ :: _) _ _; refine wpList_load_mid (op := ⟨some 84, .load 26 (.tmp 83), _, _, _, _⟩) rfl 26 (.tmp 83) rfl (gl) 24 rfl (qc u2) _ (VK.out.2.2.1) Try.underlying26 rfl (q_size u2) ?_)
              | (show wpList _ _ _ (⟨none, .store 26 (.tmp 6) (.tmp 84), _, _, _, _⟩ :: _) _ _; refine wpList_store_as (op := ⟨none, .store 26 (.tmp 6) (.tmp 84), _, _, _, _⟩) rfl 26 (.tmp 6) (.tmp 84) rfl (gv) 0 (qc u2).toArray rfl rfl (TH.out) (q_sizeA u2) (q_oneA u2) ?_; intro w15 hw15))
            obtain ⟨Vm, bm⟩ := vstored V14.out (qc_len u2) hw15 LGV.out P14.out
            have V15 := Lib.hid Vm
            have P15 := Lib.hid bm
            clear Vm bm hw15 hke
            have MF := Lib.hid (fun w => may_any (w := w) (x := u2) false (by rw [HE2.out]; exact HTL.out) (by rw [HE2.out]; exact no_sr (z := x.z)))
            go_wp2_with (first
                  | (show wpList _ _ _ (⟨some 85, .load 26 (.tmp 6), _, _, _, _⟩ :: _) _ _; refine wpList_load_mid (op := ⟨some 85, .load 26 (.tmp 6), _, _, _, _⟩) rfl 26 (.tmp 6) rfl (gv) 0 rfl (qc u2) _ (V15.out.range) Try.underlying26 rfl (q_size u2) ?_)
                  | (go_at_call 15; refine (MF.out _).mono ?_; rintro e wz ⟨rfl, hb⟩; have PF := Lib.hid (P15.out.trans (hb.mono P15.out.size)); clear hb))
            go_ret
            exact ⟨rfl, UP.out _ PF.out⟩
          · have hes : x.old.toList.isEmpty = false := by rw [empty_of]; exact decide_eq_false hs
            have HS1 : Hid (1 ≤ x.old.size) := Lib.hid (by
              rcases Nat.eq_zero_or_pos x.old.size with h0 | h0
              · exact absurd (ByteArray.ext (Array.eq_empty_of_size_eq_zero h0)) hs
              · exact h0)
            clear h3 hs
            have MF := Lib.hid (fun w => may_any (w := w) (x := u2) false (by rw [HE2.out]; exact HTL.out) (by rw [HE2.out]; exact no_sr (z := x.z)))
            go_wp2_with (first
                  | (show wpList _ _ _ (⟨some 85, .load 26 (.tmp 6), _, _, _, _⟩ :: _) _ _; refine wpList_load_mid (op := ⟨some 85, .load 26 (.tmp 6), _, _, _, _⟩) rfl 26 (.tmp 6) rfl (gv) 0 rfl (qc u2) _ (V12.out.range) Try.underlying26 rfl (q_size u2) ?_)
                  | (go_at_call 15; refine (MF.out _).mono ?_; rintro e wz ⟨rfl, hb⟩; have PF := Lib.hid (P12.out.trans (hb.mono P12.out.size)); clear hb))
            go_ret
            exact ⟨rfl, UP.out _ PF.out⟩
        · have hb3 : (x.op == 3) = false := by simpa using h3
          have H3 := Lib.hid h3
          clear h3
          have MF := Lib.hid (fun w => may_any (w := w) (x := u2) false (by rw [HE2.out]; exact HTL.out) (by rw [HE2.out]; exact no_sr (z := x.z)))
          go_wp2_with (first
                | (show wpList _ _ _ (⟨some 85, .load 26 (.tmp 6), _, _, _, _⟩ :: _) _ _; refine wpList_load_mid (op := ⟨some 85, .load 26 (.tmp 6), _, _, _, _⟩) rfl 26 (.tmp 6) rfl (gv) 0 rfl (qc u2) _ (V12.out.range) Try.underlying26 rfl (q_size u2) ?_)
                | (go_at_call 15; refine (MF.out _).mono ?_; rintro e wz ⟨rfl, hb⟩; have PF := Lib.hid (P12.out.trans (hb.mono P12.out.size)); clear hb))
          go_ret
          exact ⟨rfl, UP.out _ PF.out⟩
      · have hke0 := Lib.hid (show wrap64 ((IntKind.u64.wrap which).tmod 6) = 3 from hke0)
        have hke := hke0.out
        clear hk
        have VK := Lib.hid (six_at VR.out)
        have vn := Lib.hid (vbox_new s5 (qc q0) 26 s5.heap.size 12 rfl (qc_len _) (by omega))
        have TH := Lib.hid (vthere vn.out (us := qc u3) rfl)
        go_upto_region 13 with (first
              | (show wpList _ _ _ (⟨some 61, .load 26 (.tmp 60), _, _, _, _⟩ :: _) _ _; refine wpList_load_mid (op := ⟨some 61, .load 26 (.tmp 60), _, _, _, _⟩) rfl 26 (.tmp 60) rfl (gl) 36 rfl (qc u3) _ (VK.out.2.2.2.1) Try.underlying26 rfl (q_size u3) ?_)
              | (show wpList _ _ _ (⟨none, .store 26 (.tmp 6) (.tmp 61), _, _, _, _⟩ :: _) _ _; refine wpList_store_as (op := ⟨none, .store 26 (.tmp 6) (.tmp 61), _, _, _, _⟩) rfl 26 (.tmp 6) (.tmp 61) rfl (s5.heap.size) 0 (qc u3).toArray rfl rfl (TH.out) (q_sizeA u3) (q_oneA u3) ?_; intro w12 hw12))
        obtain ⟨Vm, bm⟩ := vstored vn.out (qc_len u3) hw12 (Nat.le_refl _) (below_one s5 _)
        have V12 := Lib.hid Vm
        have B12 := Lib.hid bm
        have P12 := Lib.hid (PS5.out.trans (bm.mono PS5.out.size))
        have VR2 := Lib.hid (VR.out.grow bm)
        obtain ⟨gv, hgv⟩ : ∃ g, s5.heap.size = g := ⟨_, rfl⟩
        rw [hgv] at V12
        rw [hgv]
        have NGV : Hid (gv ≠ gl) := Lib.hid (by rw [← hgv]; have := VR.out.lt; omega)
        have LGV : Hid (W1.heap.size ≤ gv) := Lib.hid (by rw [← hgv]; exact PS5.out.size)
        clear VK vn TH hw12 Vm bm VR hgv B12 hke
        obtain ⟨e0, _⟩ := (VX.out _ P12.out).cellA 0 (v := .int .u8 x.op) rfl
        obtain ⟨e4, _⟩ := (VX.out _ P12.out).cellA 4 (v := .string x.old) rfl
        by_cases h3 : x.op = 3
        · have hb3 : (x.op == 3) = true := by simpa using h3
          have H3 := Lib.hid h3
          by_cases hs : x.old = ByteArray.empty
          · have hes : x.old.toList.isEmpty = true := by rw [empty_of]; exact decide_eq_true hs
            have HS0 : Hid (x.old.size = 0) := Lib.hid (by rw [hs]; rfl)
            have hss : so.size ≤ 128 := by have := HSO.out; omega
            clear h3 hs
            obtain ⟨f4, ff4⟩ := VR2.out.cellA 4 (v := .string so) (by rw [show six u0 u1 u2 u3 u4 u5 = qc u0 ++ (qc u1 ++ (qc u2 ++ (qc u3 ++ (qc u4 ++ qc u5)))) from rfl, HE0.out]; rfl)
            go_upto_region 15 with fail
            obtain ⟨so2, hso2⟩ : ∃ s : ByteArray, so ++ ⟨#[53]⟩ = s := ⟨_, rfl⟩
            rw [hso2]
            have HSO2 : Hid (so2.size = 65) := Lib.hid (by rw [← hso2, ByteArray.size_append, HSO.out, HS0.out]; rfl)
            obtain ⟨w14, hw14⟩ : ∃ W, W = w12.setCell ⟨gl, 4, none⟩ (.string so2) := ⟨_, rfl⟩
            rw [← hw14]
            obtain ⟨v0, hv0⟩ : ∃ q : QX, q = { x with old := so2 } := ⟨_, rfl⟩
            have HV0 := Lib.hid hv0
            have VR3 := Lib.hid (show VBox w14 gl 72 (six v0 u1 u2 u3 u4 u5) by
              rw [hw14, hv0]
              have := VR2.out.set (i := 4) (by omega) (.string so2)
              rw [show six u0 u1 u2 u3 u4 u5 = qc u0 ++ (qc u1 ++ (qc u2 ++ (qc u3 ++ (qc u4 ++ qc u5)))) from rfl, HE0.out] at this
              exact this)
            have V14 := Lib.hid (show VBox w14 gv 12 (qc u3) by rw [hw14]; exact V12.out.same (heap_setCell _ _ _ _ _ NGV.out))
            have P14 := Lib.hid (show Below W1.heap.size W1 w14 by rw [hw14]; exact P12.out.setCell (p := ⟨gl, 4, none⟩) (by rw [← HGL.out]; exact P4.out.size) _)
            have VK := Lib.hid (six_at VR3.out)
            have TH := Lib.hid (vthere V14.out (us := qc u3) rfl)
            clear hso2 hw14 hv0 f4 ff4 e0 e4 hb3 hes
            have hke := hke0.out
            go_upto_region 16 with (first
              | (show wpList _ _ _ (⟨some 84, .load 26 (.tmp 83), _, _, _, _⟩ :: _) _ _; refine wpList_load_mid (op := ⟨some 84, .load 26 (.tmp 83), _, _, _, _⟩) rfl 26 (.tmp 83) rfl (gl) 36 rfl (qc u3) _ (VK.out.2.2.2.1) Try.underlying26 rfl (q_size u3) ?_)
              | (show wpList _ _ _ (⟨none, .store 26 (.tmp 6) (.tmp 84), _, _, _, _⟩ :: _) _ _; refine wpList_store_as (op := ⟨none, .store 26 (.tmp 6) (.tmp 84), _, _, _, _⟩) rfl 26 (.tmp 6) (.tmp 84) rfl (gv) 0 (qc u3).toArray rfl rfl (TH.out) (q_sizeA u3) (q_oneA u3) ?_; intro w15 hw15))
            obtain ⟨Vm, bm⟩ := vstored V14.out (qc_len u3) hw15 LGV.out P14.out
            have V15 := Lib.hid Vm
            have P15 := Lib.hid bm
            clear Vm bm hw15 hke
            have MF := Lib.hid (fun w => may_any (w := w) (x := u3) false (by rw [HE3.out]; show (List.replicate 257 (0 : Int)).length = 257; rw [List.length_replicate]) (by rw [HE3.out]; exact no_tok (z := x.z) _ (by rw [List.length_replicate])))
            go_wp2_with (first
                  | (show wpList _ _ _ (⟨some 85, .load 26 (.tmp 6), _, _, _, _⟩ :: _) _ _; refine wpList_load_mid (op := ⟨some 85, .load 26 (.tmp 6), _, _, _, _⟩) rfl 26 (.tmp 6) rfl (gv) 0 rfl (qc u3) _ (V15.out.range) Try.underlying26 rfl (q_size u3) ?_)
                  | (go_at_call 15; refine (MF.out _).mono ?_; rintro e wz ⟨rfl, hb⟩; have PF := Lib.hid (P15.out.trans (hb.mono P15.out.size)); clear hb))
            go_ret
            exact ⟨rfl, UP.out _ PF.out⟩
          · have hes : x.old.toList.isEmpty = false := by rw [empty_of]; exact decide_eq_false hs
            have HS1 : Hid (1 ≤ x.old.size) := Lib.hid (by
              rcases Nat.eq_zero_or_pos x.old.size with h0 | h0
              · exact absurd (ByteArray.ext (Array.eq_empty_of_size_eq_zero h0)) hs
              · exact h0)
            clear h3 hs
            have MF := Lib.hid (fun w => may_any (w := w) (x := u3) false (by rw [HE3.out]; show (List.replicate 257 (0 : Int)).length = 257; rw [List.length_replicate]) (by rw [HE3.out]; exact no_tok (z := x.z) _ (by rw [List.length_replicate])))
            go_wp2_with (first
                  | (show wpList _ _ _ (⟨some 85, .load 26 (.tmp 6), _, _, _, _⟩ :: _) _ _; refine wpList_load_mid (op := ⟨some 85, .load 26 (.tmp 6), _, _, _, _⟩) rfl 26 (.tmp 6) rfl (gv) 0 rfl (qc u3) _ (V12.out.range) Try.underlying26 rfl (q_size u3) ?_)
                  | (go_at_call 15; refine (MF.out _).mono ?_; rintro e wz ⟨rfl, hb⟩; have PF := Lib.hid (P12.out.trans (hb.mono P12.out.size)); clear hb))
            go_ret
            exact ⟨rfl, UP.out _ PF.out⟩
        · have hb3 : (x.op == 3) = false := by simpa using h3
          have H3 := Lib.hid h3
          clear h3
          have MF := Lib.hid (fun w => may_any (w := w) (x := u3) false (by rw [HE3.out]; show (List.replicate 257 (0 : Int)).length = 257; rw [List.length_replicate]) (by rw [HE3.out]; exact no_tok (z := x.z) _ (by rw [List.length_replicate])))
          go_wp2_with (first
                | (show wpList _ _ _ (⟨some 85, .load 26 (.tmp 6), _, _, _, _⟩ :: _) _ _; refine wpList_load_mid (op := ⟨some 85, .load 26 (.tmp 6), _, _, _, _⟩) rfl 26 (.tmp 6) rfl (gv) 0 rfl (qc u3) _ (V12.out.range) Try.underlying26 rfl (q_size u3) ?_)
                | (go_at_call 15; refine (MF.out _).mono ?_; rintro e wz ⟨rfl, hb⟩; have PF := Lib.hid (P12.out.trans (hb.mono P12.out.size)); clear hb))
          go_ret
          exact ⟨rfl, UP.out _ PF.out⟩
      · have hke0 := Lib.hid (show wrap64 ((IntKind.u64.wrap which).tmod 6) = 4 from hke0)
        have hke := hke0.out
        clear hk
        have VK := Lib.hid (six_at VR.out)
        have vn := Lib.hid (vbox_new s5 (qc q0) 26 s5.heap.size 12 rfl (qc_len _) (by omega))
        have TH := Lib.hid (vthere vn.out (us := qc u4) rfl)
        go_upto_region 13 with (first
              | (show wpList _ _ _ (⟨some 61, .load 26 (.tmp 60), _, _, _, _⟩ :: _) _ _; refine wpList_load_mid (op := ⟨some 61, .load 26 (.tmp 60), _, _, _, _⟩) rfl 26 (.tmp 60) rfl (gl) 48 rfl (qc u4) _ (VK.out.2.2.2.2.1) Try.underlying26 rfl (q_size u4) ?_)
              | (show wpList _ _ _ (⟨none, .store 26 (.tmp 6) (.tmp 61), _, _, _, _⟩ :: _) _ _; refine wpList_store_as (op := ⟨none, .store 26 (.tmp 6) (.tmp 61), _, _, _, _⟩) rfl 26 (.tmp 6) (.tmp 61) rfl (s5.heap.size) 0 (qc u4).toArray rfl rfl (TH.out) (q_sizeA u4) (q_oneA u4) ?_; intro w12 hw12))
        obtain ⟨Vm, bm⟩ := vstored vn.out (qc_len u4) hw12 (Nat.le_refl _) (below_one s5 _)
        have V12 := Lib.hid Vm
        have B12 := Lib.hid bm
        have P12 := Lib.hid (PS5.out.trans (bm.mono PS5.out.size))
        have VR2 := Lib.hid (VR.out.grow bm)
        obtain ⟨gv, hgv⟩ : ∃ g, s5.heap.size = g := ⟨_, rfl⟩
        rw [hgv] at V12
        rw [hgv]
        have NGV : Hid (gv ≠ gl) := Lib.hid (by rw [← hgv]; have := VR.out.lt; omega)
        have LGV : Hid (W1.heap.size ≤ gv) := Lib.hid (by rw [← hgv]; exact PS5.out.size)
        clear VK vn TH hw12 Vm bm VR hgv B12 hke
        obtain ⟨e0, _⟩ := (VX.out _ P12.out).cellA 0 (v := .int .u8 x.op) rfl
        obtain ⟨e4, _⟩ := (VX.out _ P12.out).cellA 4 (v := .string x.old) rfl
        by_cases h3 : x.op = 3
        · have hb3 : (x.op == 3) = true := by simpa using h3
          have H3 := Lib.hid h3
          by_cases hs : x.old = ByteArray.empty
          · have hes : x.old.toList.isEmpty = true := by rw [empty_of]; exact decide_eq_true hs
            have HS0 : Hid (x.old.size = 0) := Lib.hid (by rw [hs]; rfl)
            have hss : so.size ≤ 128 := by have := HSO.out; omega
            clear h3 hs
            obtain ⟨f4, ff4⟩ := VR2.out.cellA 4 (v := .string so) (by rw [show six u0 u1 u2 u3 u4 u5 = qc u0 ++ (qc u1 ++ (qc u2 ++ (qc u3 ++ (qc u4 ++ qc u5)))) from rfl, HE0.out]; rfl)
            go_upto_region 15 with fail
            obtain ⟨so2, hso2⟩ : ∃ s : ByteArray, so ++ ⟨#[53]⟩ = s := ⟨_, rfl⟩
            rw [hso2]
            have HSO2 : Hid (so2.size = 65) := Lib.hid (by rw [← hso2, ByteArray.size_append, HSO.out, HS0.out]; rfl)
            obtain ⟨w14, hw14⟩ : ∃ W, W = w12.setCell ⟨gl, 4, none⟩ (.string so2) := ⟨_, rfl⟩
            rw [← hw14]
            obtain ⟨v0, hv0⟩ : ∃ q : QX, q = { x with old := so2 } := ⟨_, rfl⟩
            have HV0 := Lib.hid hv0
            have VR3 := Lib.hid (show VBox w14 gl 72 (six v0 u1 u2 u3 u4 u5) by
              rw [hw14, hv0]
              have := VR2.out.set (i := 4) (by omega) (.string so2)
              rw [show six u0 u1 u2 u3 u4 u5 = qc u0 ++ (qc u1 ++ (qc u2 ++ (qc u3 ++ (qc u4 ++ qc u5)))) from rfl, HE0.out] at this
              exact this)
            have V14 := Lib.hid (show VBox w14 gv 12 (qc u4) by rw [hw14]; exact V12.out.same (heap_setCell _ _ _ _ _ NGV.out))
            have P14 := Lib.hid (show Below W1.heap.size W1 w14 by rw [hw14]; exact P12.out.setCell (p := ⟨gl, 4, none⟩) (by rw [← HGL.out]; exact P4.out.size) _)
            have VK := Lib.hid (six_at VR3.out)
            have TH := Lib.hid (vthere V14.out (us := qc u4) rfl)
            clear hso2 hw14 hv0 f4 ff4 e0 e4 hb3 hes
            have hke := hke0.out
            go_upto_region 16 with (first
              | (show wpList _ _ _ (⟨some 84, .load 26 (.tmp 83), _, _, _, _⟩ :: _) _ _; refine wpList_load_mid (op := ⟨some 84, .load 26 (.tmp 83), _, _, _, _⟩) rfl 26 (.tmp 83) rfl (gl) 48 rfl (qc u4) _ (VK.out.2.2.2.2.1) Try.underlying26 rfl (q_size u4) ?_)
              | (show wpList _ _ _ (⟨none, .store 26 (.tmp 6) (.tmp 84), _, _, _, _⟩ :: _) _ _; refine wpList_store_as (op := ⟨none, .store 26 (.tmp 6) (.tmp 84), _, _, _, _⟩) rfl 26 (.tmp 6) (.tmp 84) rfl (gv) 0 (qc u4).toArray rfl rfl (TH.out) (q_sizeA u4) (q_oneA u4) ?_; intro w15 hw15))
            obtain ⟨Vm, bm⟩ := vstored V14.out (qc_len u4) hw15 LGV.out P14.out
            have V15 := Lib.hid Vm
            have P15 := Lib.hid bm
            clear Vm bm hw15 hke
            have MF := Lib.hid (fun w => may_any (w := w) (x := u4) false (by rw [HE4.out]; exact HTL.out) (by rw [HE4.out]; exact no_op HQ.out))
            go_wp2_with (first
                  | (show wpList _ _ _ (⟨some 85, .load 26 (.tmp 6), _, _, _, _⟩ :: _) _ _; refine wpList_load_mid (op := ⟨some 85, .load 26 (.tmp 6), _, _, _, _⟩) rfl 26 (.tmp 6) rfl (gv) 0 rfl (qc u4) _ (V15.out.range) Try.underlying26 rfl (q_size u4) ?_)
                  | (go_at_call 15; refine (MF.out _).mono ?_; rintro e wz ⟨rfl, hb⟩; have PF := Lib.hid (P15.out.trans (hb.mono P15.out.size)); clear hb))
            go_ret
            exact ⟨rfl, UP.out _ PF.out⟩
          · have hes : x.old.toList.isEmpty = false := by rw [empty_of]; exact decide_eq_false hs
            have HS1 : Hid (1 ≤ x.old.size) := Lib.hid (by
              rcases Nat.eq_zero_or_pos x.old.size with h0 | h0
              · exact absurd (ByteArray.ext (Array.eq_empty_of_size_eq_zero h0)) hs
              · exact h0)
            clear h3 hs
            have MF := Lib.hid (fun w => may_any (w := w) (x := u4) false (by rw [HE4.out]; exact HTL.out) (by rw [HE4.out]; exact no_op HQ.out))
            go_wp2_with (first
                  | (show wpList _ _ _ (⟨some 85, .load 26 (.tmp 6), _, _, _, _⟩ :: _) _ _; refine wpList_load_mid (op := ⟨some 85, .load 26 (.tmp 6), _, _, _, _⟩) rfl 26 (.tmp 6) rfl (gv) 0 rfl (qc u4) _ (V12.out.range) Try.underlying26 rfl (q_size u4) ?_)
                  | (go_at_call 15; refine (MF.out _).mono ?_; rintro e wz ⟨rfl, hb⟩; have PF := Lib.hid (P12.out.trans (hb.mono P12.out.size)); clear hb))
            go_ret
            exact ⟨rfl, UP.out _ PF.out⟩
        · have hb3 : (x.op == 3) = false := by simpa using h3
          have H3 := Lib.hid h3
          clear h3
          have MF := Lib.hid (fun w => may_any (w := w) (x := u4) false (by rw [HE4.out]; exact HTL.out) (by rw [HE4.out]; exact no_op HQ.out))
          go_wp2_with (first
                | (show wpList _ _ _ (⟨some 85, .load 26 (.tmp 6), _, _, _, _⟩ :: _) _ _; refine wpList_load_mid (op := ⟨some 85, .load 26 (.tmp 6), _, _, _, _⟩) rfl 26 (.tmp 6) rfl (gv) 0 rfl (qc u4) _ (V12.out.range) Try.underlying26 rfl (q_size u4) ?_)
                | (go_at_call 15; refine (MF.out _).mono ?_; rintro e wz ⟨rfl, hb⟩; have PF := Lib.hid (P12.out.trans (hb.mono P12.out.size)); clear hb))
          go_ret
          exact ⟨rfl, UP.out _ PF.out⟩
      · have hke0 := Lib.hid (show wrap64 ((IntKind.u64.wrap which).tmod 6) = 5 from hke0)
        have hke := hke0.out
        clear hk
        have VK := Lib.hid (six_at VR.out)
        have vn := Lib.hid (vbox_new s5 (qc q0) 26 s5.heap.size 12 rfl (qc_len _) (by omega))
        have TH := Lib.hid (vthere vn.out (us := qc u5) rfl)
        go_upto_region 13 with (first
              | (show wpList _ _ _ (⟨some 61, .load 26 (.tmp 60), _, _, _, _⟩ :: _) _ _; refine wpList_load_mid (op := ⟨some 61, .load 26 (.tmp 60), _, _, _, _⟩) rfl 26 (.tmp 60) rfl (gl) 60 rfl (qc u5) _ (VK.out.2.2.2.2.2) Try.underlying26 rfl (q_size u5) ?_)
              | (show wpList _ _ _ (⟨none, .store 26 (.tmp 6) (.tmp 61), _, _, _, _⟩ :: _) _ _; refine wpList_store_as (op := ⟨none, .store 26 (.tmp 6) (.tmp 61), _, _, _, _⟩) rfl 26 (.tmp 6) (.tmp 61) rfl (s5.heap.size) 0 (qc u5).toArray rfl rfl (TH.out) (q_sizeA u5) (q_oneA u5) ?_; intro w12 hw12))
        obtain ⟨Vm, bm⟩ := vstored vn.out (qc_len u5) hw12 (Nat.le_refl _) (below_one s5 _)
        have V12 := Lib.hid Vm
        have B12 := Lib.hid bm
        have P12 := Lib.hid (PS5.out.trans (bm.mono PS5.out.size))
        have VR2 := Lib.hid (VR.out.grow bm)
        obtain ⟨gv, hgv⟩ : ∃ g, s5.heap.size = g := ⟨_, rfl⟩
        rw [hgv] at V12
        rw [hgv]
        have NGV : Hid (gv ≠ gl) := Lib.hid (by rw [← hgv]; have := VR.out.lt; omega)
        have LGV : Hid (W1.heap.size ≤ gv) := Lib.hid (by rw [← hgv]; exact PS5.out.size)
        clear VK vn TH hw12 Vm bm VR hgv B12 hke
        obtain ⟨e0, _⟩ := (VX.out _ P12.out).cellA 0 (v := .int .u8 x.op) rfl
        obtain ⟨e4, _⟩ := (VX.out _ P12.out).cellA 4 (v := .string x.old) rfl
        by_cases h3 : x.op = 3
        · have hb3 : (x.op == 3) = true := by simpa using h3
          have H3 := Lib.hid h3
          by_cases hs : x.old = ByteArray.empty
          · have hes : x.old.toList.isEmpty = true := by rw [empty_of]; exact decide_eq_true hs
            have HS0 : Hid (x.old.size = 0) := Lib.hid (by rw [hs]; rfl)
            have hss : so.size ≤ 128 := by have := HSO.out; omega
            clear h3 hs
            obtain ⟨f4, ff4⟩ := VR2.out.cellA 4 (v := .string so) (by rw [show six u0 u1 u2 u3 u4 u5 = qc u0 ++ (qc u1 ++ (qc u2 ++ (qc u3 ++ (qc u4 ++ qc u5)))) from rfl, HE0.out]; rfl)
            go_upto_region 15 with fail
            obtain ⟨so2, hso2⟩ : ∃ s : ByteArray, so ++ ⟨#[53]⟩ = s := ⟨_, rfl⟩
            rw [hso2]
            have HSO2 : Hid (so2.size = 65) := Lib.hid (by rw [← hso2, ByteArray.size_append, HSO.out, HS0.out]; rfl)
            obtain ⟨w14, hw14⟩ : ∃ W, W = w12.setCell ⟨gl, 4, none⟩ (.string so2) := ⟨_, rfl⟩
            rw [← hw14]
            obtain ⟨v0, hv0⟩ : ∃ q : QX, q = { x with old := so2 } := ⟨_, rfl⟩
            have HV0 := Lib.hid hv0
            have VR3 := Lib.hid (show VBox w14 gl 72 (six v0 u1 u2 u3 u4 u5) by
              rw [hw14, hv0]
              have := VR2.out.set (i := 4) (by omega) (.string so2)
              rw [show six u0 u1 u2 u3 u4 u5 = qc u0 ++ (qc u1 ++ (qc u2 ++ (qc u3 ++ (qc u4 ++ qc u5)))) from rfl, HE0.out] at this
              exact this)
            have V14 := Lib.hid (show VBox w14 gv 12 (qc u5) by rw [hw14]; exact V12.out.same (heap_setCell _ _ _ _ _ NGV.out))
            have P14 := Lib.hid (show Below W1.heap.size W1 w14 by rw [hw14]; exact P12.out.setCell (p := ⟨gl, 4, none⟩) (by rw [← HGL.out]; exact P4.out.size) _)
            have VK := Lib.hid (six_at VR3.out)
            have TH := Lib.hid (vthere V14.out (us := qc u5) rfl)
            clear hso2 hw14 hv0 f4 ff4 e0 e4 hb3 hes
            have hke := hke0.out
            go_upto_region 16 with (first
              | (show wpList _ _ _ (⟨some 84, .load 26 (.tmp 83), _, _, _, _⟩ :: _) _ _; refine wpList_load_mid (op := ⟨some 84, .load 26 (.tmp 83), _, _, _, _⟩) rfl 26 (.tmp 83) rfl (gl) 60 rfl (qc u5) _ (VK.out.2.2.2.2.2) Try.underlying26 rfl (q_size u5) ?_)
              | (show wpList _ _ _ (⟨none, .store 26 (.tmp 6) (.tmp 84), _, _, _, _⟩ :: _) _ _; refine wpList_store_as (op := ⟨none, .store 26 (.tmp 6) (.tmp 84), _, _, _, _⟩) rfl 26 (.tmp 6) (.tmp 84) rfl (gv) 0 (qc u5).toArray rfl rfl (TH.out) (q_sizeA u5) (q_oneA u5) ?_; intro w15 hw15))
            obtain ⟨Vm, bm⟩ := vstored V14.out (qc_len u5) hw15 LGV.out P14.out
            have V15 := Lib.hid Vm
            have P15 := Lib.hid bm
            clear Vm bm hw15 hke
            have MF := Lib.hid (fun w => may_any (w := w) (x := u5) false (by rw [HE5.out]; exact HTL.out) (by rw [HE5.out]; exact no_tn HQ.out))
            go_wp2_with (first
                  | (show wpList _ _ _ (⟨some 85, .load 26 (.tmp 6), _, _, _, _⟩ :: _) _ _; refine wpList_load_mid (op := ⟨some 85, .load 26 (.tmp 6), _, _, _, _⟩) rfl 26 (.tmp 6) rfl (gv) 0 rfl (qc u5) _ (V15.out.range) Try.underlying26 rfl (q_size u5) ?_)
                  | (go_at_call 15; refine (MF.out _).mono ?_; rintro e wz ⟨rfl, hb⟩; have PF := Lib.hid (P15.out.trans (hb.mono P15.out.size)); clear hb))
            go_ret
            exact ⟨rfl, UP.out _ PF.out⟩
          · have hes : x.old.toList.isEmpty = false := by rw [empty_of]; exact decide_eq_false hs
            have HS1 : Hid (1 ≤ x.old.size) := Lib.hid (by
              rcases Nat.eq_zero_or_pos x.old.size with h0 | h0
              · exact absurd (ByteArray.ext (Array.eq_empty_of_size_eq_zero h0)) hs
              · exact h0)
            clear h3 hs
            have MF := Lib.hid (fun w => may_any (w := w) (x := u5) false (by rw [HE5.out]; exact HTL.out) (by rw [HE5.out]; exact no_tn HQ.out))
            go_wp2_with (first
                  | (show wpList _ _ _ (⟨some 85, .load 26 (.tmp 6), _, _, _, _⟩ :: _) _ _; refine wpList_load_mid (op := ⟨some 85, .load 26 (.tmp 6), _, _, _, _⟩) rfl 26 (.tmp 6) rfl (gv) 0 rfl (qc u5) _ (V12.out.range) Try.underlying26 rfl (q_size u5) ?_)
                  | (go_at_call 15; refine (MF.out _).mono ?_; rintro e wz ⟨rfl, hb⟩; have PF := Lib.hid (P12.out.trans (hb.mono P12.out.size)); clear hb))
            go_ret
            exact ⟨rfl, UP.out _ PF.out⟩
        · have hb3 : (x.op == 3) = false := by simpa using h3
          have H3 := Lib.hid h3
          clear h3
          have MF := Lib.hid (fun w => may_any (w := w) (x := u5) false (by rw [HE5.out]; exact HTL.out) (by rw [HE5.out]; exact no_tn HQ.out))
          go_wp2_with (first
                | (show wpList _ _ _ (⟨some 85, .load 26 (.tmp 6), _, _, _, _⟩ :: _) _ _; refine wpList_load_mid (op := ⟨some 85, .load 26 (.tmp 6), _, _, _, _⟩) rfl 26 (.tmp 6) rfl (gv) 0 rfl (qc u5) _ (V12.out.range) Try.underlying26 rfl (q_size u5) ?_)
                | (go_at_call 15; refine (MF.out _).mono ?_; rintro e wz ⟨rfl, hb⟩; have PF := Lib.hid (P12.out.trans (hb.mono P12.out.size)); clear hb))
          go_ret
          exact ⟨rfl, UP.out _ PF.out⟩
end Go.Proofs.Ytcgclaailhhbpaa
