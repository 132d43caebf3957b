/- Ends that nobody made; the statement LinkNil: the walk. -/
import Derived.Test.YtlknjaoamkcmjaaDoorLkNOp
import Derived.Test.YtlknjaoamkcmjaaDoorLkR
import Derived.Test.YtlknjaoamkcmjaaDoorLkW
import Derived.Test.YtlknjaoamkcmjaaDoorOrd7
namespace Go.Proofs.YtlknjaoamkcmjaaDoor
open Go.ChangeShapes Go.WideShapes Go.ChangeAt Go.RowKit
set_option linter.unusedVariables false
set_option maxRecDepth 100000
set_option linter.unusedSimpArgs false
open Plain Sha Wn Lk
theorem wpList_execGL {P : Program} {ops : Array Oper} {rest : List Oper} {op : Oper} {a : Act} {w : World} {Q : Exit → Act → World → Prop} (hw : Region.wanted op (yielded ops a.tmps) = true) (v : Value)
    (hrun : (execOp a.eval op).run P w = .ok (.value v) w) (h : wpList P ops Q rest (a.put op.dst v) w) : wpList P ops Q (op :: rest) a w := by
  simp only [wpList, hw, if_true]
  exact .inl (by unfold Oper.wp; simp only [hrun]; exact h)
theorem eql_mapN (w : World) : (binOp .eql 41 (.map none) (.map none)).run Tryd.prog w = .ok (.bool true) w := eql_mapL w none
theorem Agree.getL {a0 a : Act} {ss : List Nat} (h : Agree a0 a ss) (t : Nat) (ht : ss.contains t = false) : a.tmps[t]?.getD undef = a0.tmps[t]?.getD undef := by rw [h.same t ht]
theorem wp_execN {P : Program} {op : Oper} {a : Act} {w : World} {K : Act → World → Prop} {Q : Exit → Act → World → Prop} (v : Value)
    (hrun : (execOp a.eval op).run P w = .ok (.value v) w) (h : K (a.put op.dst v) w) : op.wp P a w K Q := by
  unfold Oper.wp
  simp only [hrun]
  exact h
/-- No ends, or some that nobody made. -/
def NoEn (w : World) (q : Option Addr) : Prop := q = none ∨ ∃ g, q = some ⟨g, 0, none⟩ ∧ g < w.heap.size ∧ w.cell? ⟨g, 2, none⟩ = some (.int .i64 0) ∧ w.cell? ⟨g, 3, none⟩ = some (.map none)
theorem NoEn.below {w w' : World} {q : Option Addr} (h : NoEn w q) (hb : Below w.heap.size w w') : NoEn w' q := by
  rcases h with h | ⟨g, h1, h2, h3, h4⟩
  · exact .inl h
  · exact .inr ⟨g, h1, Nat.lt_of_lt_of_le h2 hb.size, (hb.cell (p := ⟨g, 2, none⟩) h2).trans h3, (hb.cell (p := ⟨g, 3, none⟩) h2).trans h4⟩
theorem lsend_no {w : World} {q : Option Addr} (h : NoEn w q) (a b : Int) (A : Option Addr) (n c : Nat) : Calls Tryd.prog 18 #[.pointer q, .int .i64 a, .int .i64 b, .slice A n c] w (fun e w' => e = .returned (.tuple #[.slice none 0 0, .int .i64 1]) ∧ Below w.heap.size w w') := by
  rcases h with rfl | ⟨g, rfl, hg, h2, h3⟩
  · have qn := eql_mapN
    go_enter Tryd.func18, Tryd.ntmps18
    go_wp2
    go_ret2
    exact ⟨rfl, Below.refl _ _⟩
  · have qn := eql_mapN
    go_enter Tryd.func18, Tryd.ntmps18
    go_wp2
    go_ret2
    exact ⟨rfl, Below.refl _ _⟩
theorem boot_noL {w : World} {q : Option Addr} (h : NoEn w q) : Calls Tryd.prog 20 #[.pointer q] w (fun e w' => e = .returned (.int .i64 0) ∧ Below w.heap.size w w') := by
  rcases h with rfl | ⟨g, rfl, hg, h2, h3⟩
  · go_enter Tryd.func20, Tryd.ntmps20
    go_wp2
    go_ret
    exact ⟨rfl, Below.refl _ _⟩
  · go_enter Tryd.func20, Tryd.ntmps20
    go_wp2
    go_ret
    exact ⟨rfl, Below.refl _ _⟩
set_option maxHeartbeats 4000000 in
theorem get_no {w : World} {q : Option Addr} (h : NoEn w q) (A : Option Addr) (n c : Nat) : Calls Tryd.prog 19 #[.pointer q, .slice A n c] w (fun e w' => e = .returned (.tuple #[.agg (pc px0).toArray, .int .i64 1]) ∧ Below w.heap.size w w') := by
  obtain ⟨g, hg⟩ : ∃ g, w.heap.size = g := ⟨_, rfl⟩
  have HG := Lib.hid hg
  obtain ⟨W1, hW1⟩ : ∃ W, W = w.alloc (.cells zPc 26) := ⟨_, rfl⟩
  have b1 := Lib.hid (show Below w.heap.size w W1 by rw [hW1]; exact below_one _ _)
  have V1 := Lib.hid (show VBox W1 g 38 (pc px0) by rw [hW1]; exact zbox_new w _ g hg)
  have HW1 := Lib.hid hW1
  have N1 := h.below b1.out
  have VT := Lib.hid (vthere V1.out (us := pc px0) (pc_len px0_tl))
  have zk := zPk
  have zs := zPc_size
  have zn := zPc_ne
  clear hW1 hg h
  rcases N1 with rfl | ⟨b, rfl, hb, h2, h3⟩
  all_goals
    have qn := eql_mapN
    go_enter Tryd.func19, Tryd.ntmps19
    go_upto_region 1 with fail
    rw [← HW1.out, HG.out]
    go_wp2_with (first
      | (with_reducible show wpList _ _ _ (⟨some 17, .build 26 #[], _, _, _, _⟩ :: _) _ _; refine wpList_exec (op := ⟨some 17, .build 26 #[], _, _, _, _⟩) rfl (.agg (pc px0).toArray) (by exact exec_p0 rfl rfl) ?_)
      | (with_reducible show wpList _ _ _ (⟨none, .store 26 (.tmp 4) (.tmp 17), _, _, _, _⟩ :: _) _ _; refine wpList_store_as (op := ⟨none, .store 26 (.tmp 4) (.tmp 17), _, _, _, _⟩) rfl 26 (.tmp 4) (.tmp 17) rfl (g) 0 (pc px0).toArray rfl rfl (VT.out) (p_sizeA px0_tl) (p_oneA px0) ?_; intro w9 hw9))
    obtain ⟨V9, b9⟩ := vstored V1.out (us := pc px0) (pc_len px0_tl) hw9 (by rw [HG.out]; exact Nat.le_refl _) b1.out
    exact bodyPost_ret (v := .tuple #[.agg (pc px0).toArray, .int .i64 1]) (results_mid_tmp (p := 4) (u := 5) (ty := 26) rfl _ _ g 0 (pc px0) _ rfl V9.range Tryd.underlying26 rfl (p_size px0_tl)) rfl ⟨rfl, b9⟩
def sfIsL (x : Value) : SF := ⟨fun v _ => v = x, fun _ _ _ h _ => h⟩
set_option maxHeartbeats 16000000 in
theorem lknil_a (a : ActZ) (w : World) (h : ActOk w w.heap.size a) (hl : 500 < a.n) :
    Calls Tryd.prog 4 #[.agg (aCells a).toArray] w (fun e w' => e = .returned (.bool true) ∧ Below w.heap.size w w') := by
  obtain ⟨sd, tw, ep, A3, n3, c3, zs3, A4, n4, c4, zs4⟩ := a
  obtain ⟨W0, hW0⟩ : ∃ W, W = w.alloc (.cells (aCells ⟨sd, tw, ep, A3, n3, c3, zs3, A4, n4, c4, zs4⟩).toArray 39) := ⟨_, rfl⟩
  have B0 := Lib.hid (show Below w.heap.size w W0 by rw [hW0]; exact below_one _ _)
  have hh : W0.heap[w.heap.size]? = some (.cells (aCells ⟨sd, tw, ep, A3, n3, c3, zs3, A4, n4, c4, zs4⟩).toArray 39 (0, 0)) := by rw [hW0]; exact heap_alloc_new w _
  have c1 : W0.cell? ⟨w.heap.size, 1, none⟩ = some (.int .i64 tw) := by rw [cell_of_row _ _ _ _ _ _ hh]; rfl
  have c2 : W0.cell? ⟨w.heap.size, 2, none⟩ = some (.int .i64 ep) := by rw [cell_of_row _ _ _ _ _ _ hh]; rfl
  have c3' : W0.cell? ⟨w.heap.size, 3, none⟩ = some (.slice A3 n3 c3) := by rw [cell_of_row _ _ _ _ _ _ hh]; rfl
  have c4' : W0.cell? ⟨w.heap.size, 4, none⟩ = some (.slice A4 n4 c4) := by rw [cell_of_row _ _ _ _ _ _ hh]; rfl
  have HW0 := Lib.hid hW0
  have hsz : W0.heap.size = w.heap.size + 1 := by rw [hW0]; simp
  simp only at hl
  have hl2 : (500 : Int) < (n3 : Int) := by omega
  clear hl h hW0 hh hsz
  go_enter Tryd.func4, Tryd.ntmps4
  go_upto_region 1 with fail
  rw [← HW0.out]
  go_wp2
  go_ret
  exact ⟨rfl, B0.out⟩
set_option maxHeartbeats 16000000 in
theorem lknil_b (a : ActZ) (w : World) (h : ActOk w w.heap.size a) (hl : ¬ 500 < a.n ∧ 500 < a.n2) :
    Calls Tryd.prog 4 #[.agg (aCells a).toArray] w (fun e w' => e = .returned (.bool true) ∧ Below w.heap.size w w') := by
  obtain ⟨sd, tw, ep, A3, n3, c3, zs3, A4, n4, c4, zs4⟩ := a
  obtain ⟨W0, hW0⟩ : ∃ W, W = w.alloc (.cells (aCells ⟨sd, tw, ep, A3, n3, c3, zs3, A4, n4, c4, zs4⟩).toArray 39) := ⟨_, rfl⟩
  have B0 := Lib.hid (show Below w.heap.size w W0 by rw [hW0]; exact below_one _ _)
  have hh : W0.heap[w.heap.size]? = some (.cells (aCells ⟨sd, tw, ep, A3, n3, c3, zs3, A4, n4, c4, zs4⟩).toArray 39 (0, 0)) := by rw [hW0]; exact heap_alloc_new w _
  have c1 : W0.cell? ⟨w.heap.size, 1, none⟩ = some (.int .i64 tw) := by rw [cell_of_row _ _ _ _ _ _ hh]; rfl
  have c2 : W0.cell? ⟨w.heap.size, 2, none⟩ = some (.int .i64 ep) := by rw [cell_of_row _ _ _ _ _ _ hh]; rfl
  have c3' : W0.cell? ⟨w.heap.size, 3, none⟩ = some (.slice A3 n3 c3) := by rw [cell_of_row _ _ _ _ _ _ hh]; rfl
  have c4' : W0.cell? ⟨w.heap.size, 4, none⟩ = some (.slice A4 n4 c4) := by rw [cell_of_row _ _ _ _ _ _ hh]; rfl
  have HW0 := Lib.hid hW0
  have hsz : W0.heap.size = w.heap.size + 1 := by rw [hW0]; simp
  simp only at hl
  have hl2 : ¬ (500 : Int) < (n3 : Int) := by omega
  have hl3 : (500 : Int) < (n4 : Int) := by omega
  clear hl h hW0 hh hsz
  go_enter Tryd.func4, Tryd.ntmps4
  go_upto_region 1 with fail
  rw [← HW0.out]
  go_wp2
  go_ret
  exact ⟨rfl, B0.out⟩
set_option maxHeartbeats 16000000 in
theorem lknil_c (a : ActZ) (w : World) (h : ActOk w w.heap.size a) (hl : ¬ 500 < a.n ∧ ¬ 500 < a.n2) :
    Calls Tryd.prog 4 #[.agg (aCells a).toArray] w (fun e w' => e = .returned (.bool true) ∧ Below w.heap.size w w') := by
  obtain ⟨sd, tw, ep, A3, n3, c3, zs3, A4, n4, c4, zs4⟩ := a
  obtain ⟨W0, hW0⟩ : ∃ W, W = w.alloc (.cells (aCells ⟨sd, tw, ep, A3, n3, c3, zs3, A4, n4, c4, zs4⟩).toArray 39) := ⟨_, rfl⟩
  have B0 := Lib.hid (show Below w.heap.size w W0 by rw [hW0]; exact below_one _ _)
  have hh : W0.heap[w.heap.size]? = some (.cells (aCells ⟨sd, tw, ep, A3, n3, c3, zs3, A4, n4, c4, zs4⟩).toArray 39 (0, 0)) := by rw [hW0]; exact heap_alloc_new w _
  have c1 : W0.cell? ⟨w.heap.size, 1, none⟩ = some (.int .i64 tw) := by rw [cell_of_row _ _ _ _ _ _ hh]; rfl
  have c2 : W0.cell? ⟨w.heap.size, 2, none⟩ = some (.int .i64 ep) := by rw [cell_of_row _ _ _ _ _ _ hh]; rfl
  have c3' : W0.cell? ⟨w.heap.size, 3, none⟩ = some (.slice A3 n3 c3) := by rw [cell_of_row _ _ _ _ _ _ hh]; rfl
  have c4' : W0.cell? ⟨w.heap.size, 4, none⟩ = some (.slice A4 n4 c4) := by rw [cell_of_row _ _ _ _ _ _ hh]; rfl
  have HW0 := Lib.hid hW0
  have hsz : W0.heap.size = w.heap.size + 1 := by rw [hW0]; simp
  simp only at hl
  have hl2 : ¬ (500 : Int) < (n3 : Int) := by omega
  have hl3 : ¬ (500 : Int) < (n4 : Int) := by omega
  obtain ⟨W1, hW1⟩ : ∃ W, W = (W0.alloc (.cells #[.slice none 0 0, .int .i64 0, .int .i64 0, .map none] 43)).alloc (.cells #[.pointer none, .pointer (some ⟨W0.heap.size, 0, none⟩)] 40) := ⟨_, rfl⟩
  have b01 : Below W0.heap.size W0 W1 := by rw [hW1]; exact (below_one _ _).alloc (by simp) _
  have h1sz : W1.heap.size = w.heap.size + 3 := by rw [hW1]; simp [hsz]
  have eE : W1.heap[W0.heap.size]? = some (.cells #[.slice none 0 0, .int .i64 0, .int .i64 0, .map none] 43 (0, 0)) := by rw [hW1, Below.heap_alloc _ _ _ (by simp)]; exact heap_alloc_new W0 _
  have eP : W1.heap[W0.heap.size + 1]? = some (.cells #[.pointer none, .pointer (some ⟨W0.heap.size, 0, none⟩)] 40 (0, 0)) := by
    rw [hW1]
    have := heap_alloc_new (W0.alloc (.cells #[.slice none 0 0, .int .i64 0, .int .i64 0, .map none] 43)) (.cells #[.pointer none, .pointer (some ⟨W0.heap.size, 0, none⟩)] 40)
    rwa [show (W0.alloc (.cells #[.slice none 0 0, .int .i64 0, .int .i64 0, .map none] 43)).heap.size = W0.heap.size + 1 by simp] at this
  obtain ⟨l1, hl1⟩ : ∃ l1, W0.heap.size + 1 = l1 := ⟨_, rfl⟩
  rw [hl1] at eP
  have HD : Hid (∀ k, k < 2 → ∃ q, W1.cell? ⟨l1, k, none⟩ = some (.pointer q) ∧ NoEn W1 q) := Lib.hid (fun k hk => by
    match k, hk with
    | 0, _ => exact ⟨none, by rw [cell_of_row _ _ _ _ _ _ eP]; rfl, .inl rfl⟩
    | 1, _ => exact ⟨_, by rw [cell_of_row _ _ _ _ _ _ eP]; rfl, .inr ⟨W0.heap.size, rfl, by omega, by rw [cell_of_row _ _ _ _ _ _ eE]; rfl, by rw [cell_of_row _ _ _ _ _ _ eE]; rfl⟩⟩)
  have CC : Hid (∀ V, Below W1.heap.size W1 V → V.cell? ⟨w.heap.size, 1, none⟩ = some (.int .i64 tw) ∧ V.cell? ⟨w.heap.size, 2, none⟩ = some (.int .i64 ep) ∧ V.cell? ⟨w.heap.size, 3, none⟩ = some (.slice A3 n3 c3) ∧ V.cell? ⟨w.heap.size, 4, none⟩ = some (.slice A4 n4 c4)) := Lib.hid (fun V hV => by
    have bb : Below (w.heap.size + 1) W0 V := (hsz ▸ b01).trans (hV.mono (by omega))
    exact ⟨(bb.cell (p := ⟨w.heap.size, 1, none⟩) (Nat.lt_succ_self _)).trans c1, (bb.cell (p := ⟨w.heap.size, 2, none⟩) (Nat.lt_succ_self _)).trans c2, (bb.cell (p := ⟨w.heap.size, 3, none⟩) (Nat.lt_succ_self _)).trans c3', (bb.cell (p := ⟨w.heap.size, 4, none⟩) (Nat.lt_succ_self _)).trans c4'⟩)
  have B1 := Lib.hid (B0.out.trans (b01.mono (by omega)))
  have HLT : Hid (l1 < W1.heap.size) := Lib.hid (by omega)
  have HW1 := Lib.hid hW1
  have HL1 := Lib.hid hl1
  clear hW0 hh hsz hW1 b01 h1sz eE eP hl1 h hl
  go_enter Tryd.func4, Tryd.ntmps4
  go_upto_region 1 with fail
  rw [← HW0.out]
  go_upto_region 5 with fail
  rw [← HW1.out, HL1.out]
  clear c1 c2 c3' c4'
  go_wp2_with (fail)
  go_loopw [5] (fun i wr => ∃ k : Nat, k ≤ 2 ∧ i = .int .i64 k ∧ Hid (Below W1.heap.size W1 wr)) (fun i _ => 2 - (intOf i).toNat)
  case atStart => exact ⟨0, by omega, rfl, Lib.hid (Below.refl _ _)⟩
  case round =>
    obtain ⟨k, hk, rfl, HB⟩ := hrel
    by_cases hlt : k < 2
    · have hltI : (k : Int) < 2 := by omega
      obtain ⟨q, hq, hno⟩ := HD.out k hlt
      have HNO : Hid (∀ V, Below wr.heap.size wr V → NoEn V q) := Lib.hid (fun V hV => hno.below (HB.out.trans (hV.mono HB.out.size)))
      have HST : Hid (∀ V, Below wr.heap.size wr V → V.cell? ⟨l1, k, none⟩ = some (.pointer q) ∧ V.cell? ⟨w.heap.size, 1, none⟩ = some (.int .i64 tw) ∧ V.cell? ⟨w.heap.size, 2, none⟩ = some (.int .i64 ep) ∧ V.cell? ⟨w.heap.size, 3, none⟩ = some (.slice A3 n3 c3) ∧ V.cell? ⟨w.heap.size, 4, none⟩ = some (.slice A4 n4 c4)) := Lib.hid (fun V hV => by
        have b2 := HB.out.trans (hV.mono HB.out.size)
        exact ⟨(b2.cell (p := ⟨l1, k, none⟩) HLT.out).trans hq, CC.out V b2⟩)
      have P0 : Hid (Below wr.heap.size wr wr.drew) := Lib.hid (Below.refl _ _).drew
      clear hq hno
      go_upto_region 8 with fail
      refine Late.region (fun w' => Below wr.heap.size wr w') [15] (by kernel_rfl) P0.out (fun hHeld => ?_)
      refine Late.take (i := 0) (oi := ⟨some 31, Op.move (Operand.tmp 4), _, _, _, _⟩) (v := ?_) rfl (by kernel_rfl) (by kernel_rfl) (by kernel_rfl) (by kernel_rfl) (fun _ _ _ h => h) (Or.inl ⟨by rfl, fun w hSw => ?_⟩) (by assumption) ?_
      rotate_left
      · (have s1 := hSw; go_simp; try with_reducible rfl)
      try simp only [Act.put, List.setIfInBounds_toArray, List.set_cons_zero, List.set_cons_succ]
      refine Late.take (i := 1) (oi := ⟨some 32, Op.move (Operand.tmp 5), _, _, _, _⟩) (v := ?_) rfl (by kernel_rfl) (by kernel_rfl) (by kernel_rfl) (by kernel_rfl) (fun _ _ _ h => h) (Or.inl ⟨by rfl, fun w hSw => ?_⟩) (by assumption) ?_
      rotate_left
      · (have s1 := hSw; go_simp; try with_reducible rfl)
      try simp only [Act.put, List.setIfInBounds_toArray, List.set_cons_zero, List.set_cons_succ]
      refine Late.take (i := 2) (oi := ⟨some 33, Op.indexAddr 44 (Operand.tmp 31) (Operand.tmp 32), _, _, _, _⟩) (v := ?_) rfl (by kernel_rfl) (by kernel_rfl) (by kernel_rfl) (by kernel_rfl) (fun _ _ _ h => h) (Or.inl ⟨by rfl, fun w hSw => ?_⟩) (by assumption) ?_
      rotate_left
      · (have s1 := hSw; go_simp; try with_reducible rfl)
      try simp only [Act.put, List.setIfInBounds_toArray, List.set_cons_zero, List.set_cons_succ]
      refine Late.take (i := 3) (oi := ⟨some 34, Op.load 40 (Operand.tmp 33), _, _, _, _⟩) (v := ?_) rfl (by kernel_rfl) (by kernel_rfl) (by kernel_rfl) (by kernel_rfl) (fun _ _ _ h => h) (Or.inl ⟨by rfl, fun w hSw => ?_⟩) (by assumption) ?_
      rotate_left
      · (have s1 := hSw; obtain ⟨s0, s1, s2, s3, s4⟩ := HST.out _ hSw; go_simp; try with_reducible rfl)
      try simp only [Act.put, List.setIfInBounds_toArray, List.set_cons_zero, List.set_cons_succ]
      refine Late.take (i := 4) (oi := ⟨some 35, Op.fieldAddr 39 (Operand.tmp 1) 1, _, _, _, _⟩) (v := ?_) rfl (by kernel_rfl) (by kernel_rfl) (by kernel_rfl) (by kernel_rfl) (fun _ _ _ h => h) (Or.inl ⟨by rfl, fun w hSw => ?_⟩) (by assumption) ?_
      rotate_left
      · (have s1 := hSw; go_simp; try with_reducible rfl)
      try simp only [Act.put, List.setIfInBounds_toArray, List.set_cons_zero, List.set_cons_succ]
      refine Late.take (i := 5) (oi := ⟨some 36, Op.load 3 (Operand.tmp 35), _, _, _, _⟩) (v := ?_) rfl (by kernel_rfl) (by kernel_rfl) (by kernel_rfl) (by kernel_rfl) (fun _ _ _ h => h) (Or.inl ⟨by rfl, fun w hSw => ?_⟩) (by assumption) ?_
      rotate_left
      · (have s1 := hSw; obtain ⟨s0, s1, s2, s3, s4⟩ := HST.out _ hSw; go_simp; try with_reducible rfl)
      try simp only [Act.put, List.setIfInBounds_toArray, List.set_cons_zero, List.set_cons_succ]
      refine Late.take (i := 6) (oi := ⟨some 37, Op.fieldAddr 39 (Operand.tmp 1) 2, _, _, _, _⟩) (v := ?_) rfl (by kernel_rfl) (by kernel_rfl) (by kernel_rfl) (by kernel_rfl) (fun _ _ _ h => h) (Or.inl ⟨by rfl, fun w hSw => ?_⟩) (by assumption) ?_
      rotate_left
      · (have s1 := hSw; go_simp; try with_reducible rfl)
      try simp only [Act.put, List.setIfInBounds_toArray, List.set_cons_zero, List.set_cons_succ]
      refine Late.take (i := 7) (oi := ⟨some 38, Op.load 3 (Operand.tmp 37), _, _, _, _⟩) (v := ?_) rfl (by kernel_rfl) (by kernel_rfl) (by kernel_rfl) (by kernel_rfl) (fun _ _ _ h => h) (Or.inl ⟨by rfl, fun w hSw => ?_⟩) (by assumption) ?_
      rotate_left
      · (have s1 := hSw; obtain ⟨s0, s1, s2, s3, s4⟩ := HST.out _ hSw; go_simp; try with_reducible rfl)
      try simp only [Act.put, List.setIfInBounds_toArray, List.set_cons_zero, List.set_cons_succ]
      refine Late.take (i := 8) (oi := ⟨some 39, Op.fieldAddr 39 (Operand.tmp 1) 3, _, _, _, _⟩) (v := ?_) rfl (by kernel_rfl) (by kernel_rfl) (by kernel_rfl) (by kernel_rfl) (fun _ _ _ h => h) (Or.inl ⟨by rfl, fun w hSw => ?_⟩) (by assumption) ?_
      rotate_left
      · (have s1 := hSw; go_simp; try with_reducible rfl)
      try simp only [Act.put, List.setIfInBounds_toArray, List.set_cons_zero, List.set_cons_succ]
      refine Late.take (i := 9) (oi := ⟨some 40, Op.load 22 (Operand.tmp 39), _, _, _, _⟩) (v := ?_) rfl (by kernel_rfl) (by kernel_rfl) (by kernel_rfl) (by kernel_rfl) (fun _ _ _ h => h) (Or.inl ⟨by rfl, fun w hSw => ?_⟩) (by assumption) ?_
      rotate_left
      · (have s1 := hSw; obtain ⟨s0, s1, s2, s3, s4⟩ := HST.out _ hSw; go_simp; try with_reducible rfl)
      try simp only [Act.put, List.setIfInBounds_toArray, List.set_cons_zero, List.set_cons_succ]
      refine Late.one (i := 10) (o := ⟨some 41, Op.call { callee := Callee.value (Operand.func 18), args := #[Operand.tmp 34, Operand.tmp 36, Operand.tmp 38, Operand.tmp 40], argTypes := #[40, 3, 3, 22] }, _, _, _, _⟩) (by kernel_rfl) rfl (fun K hK => ?_)
      rw [if_pos (by rfl)]
      go_simp
      refine (lsend_no (HNO.out _ hHeld) _ _ _ _ _).mono ?_
      rintro e u1 ⟨rfl, hb⟩
      have Su : Below wr.heap.size wr u1 := hHeld.trans (hb.mono hHeld.size)
      clear hb
      refine hK.out _ _ (Su) (fun hHeld2 => ?_)
      clear hK K hHeld
      have hHeld := hHeld2
      clear hHeld2
      try simp only [Act.put, List.setIfInBounds_toArray, List.set_cons_zero, List.set_cons_succ]
      refine Late.take (i := 11) (oi := ⟨some 30, Op.move (Operand.tmp 41), _, _, _, _⟩) (v := ?_) rfl (by kernel_rfl) (by kernel_rfl) (by kernel_rfl) (by kernel_rfl) (fun _ _ _ h => h) (Or.inl ⟨by rfl, fun w hSw => ?_⟩) (by assumption) ?_
      rotate_left
      · (have s1 := hSw; go_simp; try with_reducible rfl)
      try simp only [Act.put, List.setIfInBounds_toArray, List.set_cons_zero, List.set_cons_succ]
      refine Late.take (i := 12) (oi := ⟨some 42, Op.extract (Operand.tmp 30) 0, _, _, _, _⟩) (v := ?_) rfl (by kernel_rfl) (by kernel_rfl) (by kernel_rfl) (by kernel_rfl) (fun _ _ _ h => h) (Or.inl ⟨by rfl, fun w hSw => ?_⟩) (by assumption) ?_
      rotate_left
      · (have s1 := hSw; go_simp; try with_reducible rfl)
      try simp only [Act.put, List.setIfInBounds_toArray, List.set_cons_zero, List.set_cons_succ]
      refine Late.take (i := 13) (oi := ⟨some 43, Op.extract (Operand.tmp 30) 1, _, _, _, _⟩) (v := ?_) rfl (by kernel_rfl) (by kernel_rfl) (by kernel_rfl) (by kernel_rfl) (fun _ _ _ h => h) (Or.inl ⟨by rfl, fun w hSw => ?_⟩) (by assumption) ?_
      rotate_left
      · (have s1 := hSw; go_simp; try with_reducible rfl)
      try simp only [Act.put, List.setIfInBounds_toArray, List.set_cons_zero, List.set_cons_succ]
      refine Late.take (i := 14) (oi := ⟨some 6, Op.assign (Operand.tmp 42), _, _, _, _⟩) (v := ?_) rfl (by kernel_rfl) (by kernel_rfl) (by kernel_rfl) (by kernel_rfl) (fun _ _ _ h => h) (Or.inl ⟨by rfl, fun w hSw => ?_⟩) (by assumption) ?_
      rotate_left
      · (have s1 := hSw; go_simp; try with_reducible rfl)
      try simp only [Act.put, List.setIfInBounds_toArray, List.set_cons_zero, List.set_cons_succ]
      refine Late.end_ (i := 15) (o := ⟨some 7, Op.assign (Operand.tmp 43), _, _, _, _⟩) (by kernel_rfl) rfl rfl (fun K hK => ?_)
      go_simp
      refine hK.out _ _ ?_
      clear hK K
      try simp only [Act.put, List.setIfInBounds_toArray, List.set_cons_zero, List.set_cons_succ]
      refine Late.done (by kernel_rfl) ?_ _
      refine NoPanic.normal ?_
      have P1 := Lib.hid hHeld
      clear hHeld
      go_upto_region 9 with fail
      refine Late.region (fun w' => Below wr.heap.size wr w') [12] (by kernel_rfl) P1.out.drew (fun hHeld => ?_)
      refine Late.take (i := 0) (oi := ⟨some 45, Op.move (Operand.tmp 4), _, _, _, _⟩) (v := ?_) rfl (by kernel_rfl) (by kernel_rfl) (by kernel_rfl) (by kernel_rfl) (fun _ _ _ h => h) (Or.inl ⟨by rfl, fun w hSw => ?_⟩) (by assumption) ?_
      rotate_left
      · (go_simp; try with_reducible rfl)
      try simp only [Act.put, List.setIfInBounds_toArray, List.set_cons_zero, List.set_cons_succ]
      refine Late.take (i := 1) (oi := ⟨some 46, Op.move (Operand.tmp 5), _, _, _, _⟩) (v := ?_) rfl (by kernel_rfl) (by kernel_rfl) (by kernel_rfl) (by kernel_rfl) (fun _ _ _ h => h) (Or.inl ⟨by rfl, fun w hSw => ?_⟩) (by assumption) ?_
      rotate_left
      · (go_simp; try with_reducible rfl)
      try simp only [Act.put, List.setIfInBounds_toArray, List.set_cons_zero, List.set_cons_succ]
      refine Late.take (i := 2) (oi := ⟨some 47, Op.indexAddr 44 (Operand.tmp 45) (Operand.tmp 46), _, _, _, _⟩) (v := ?_) rfl (by kernel_rfl) (by kernel_rfl) (by kernel_rfl) (by kernel_rfl) (fun _ _ _ h => h) (Or.inl ⟨by rfl, fun w hSw => ?_⟩) (by assumption) ?_
      rotate_left
      · (go_simp; try with_reducible rfl)
      try simp only [Act.put, List.setIfInBounds_toArray, List.set_cons_zero, List.set_cons_succ]
      refine Late.take (i := 3) (oi := ⟨some 48, Op.load 40 (Operand.tmp 47), _, _, _, _⟩) (v := ?_) rfl (by kernel_rfl) (by kernel_rfl) (by kernel_rfl) (by kernel_rfl) (fun _ _ _ h => h) (Or.inl ⟨by rfl, fun w hSw => ?_⟩) (by assumption) ?_
      rotate_left
      · (obtain ⟨s0, s1, s2, s3, s4⟩ := HST.out _ hSw; go_simp; try with_reducible rfl)
      try simp only [Act.put, List.setIfInBounds_toArray, List.set_cons_zero, List.set_cons_succ]
      refine Late.take (i := 4) (oi := ⟨some 49, Op.fieldAddr 39 (Operand.tmp 1) 4, _, _, _, _⟩) (v := ?_) rfl (by kernel_rfl) (by kernel_rfl) (by kernel_rfl) (by kernel_rfl) (fun _ _ _ h => h) (Or.inl ⟨by rfl, fun w hSw => ?_⟩) (by assumption) ?_
      rotate_left
      · (go_simp; try with_reducible rfl)
      try simp only [Act.put, List.setIfInBounds_toArray, List.set_cons_zero, List.set_cons_succ]
      refine Late.take (i := 5) (oi := ⟨some 50, Op.load 22 (Operand.tmp 49), _, _, _, _⟩) (v := ?_) rfl (by kernel_rfl) (by kernel_rfl) (by kernel_rfl) (by kernel_rfl) (fun _ _ _ h => h) (Or.inl ⟨by rfl, fun w hSw => ?_⟩) (by assumption) ?_
      rotate_left
      · (obtain ⟨s0, s1, s2, s3, s4⟩ := HST.out _ hSw; go_simp; try with_reducible rfl)
      try simp only [Act.put, List.setIfInBounds_toArray, List.set_cons_zero, List.set_cons_succ]
      refine Late.ordersSQ (fun zb i => match i with | 6 => sfIsL (.tuple #[.agg (pc px0).toArray, .int .i64 1]) | 7 => sfIsL (.tuple #[.agg (pc px0).toArray, .int .i64 1]) | 8 => sfIsL (.agg (pc px0).toArray) | 9 => sfIsL (.int .i64 1) | 10 => sfZ wr.heap.size | _ => sfTrueL) [6, 7, 8, 9, 10] [9] 11 [51, 44, 52, 53, 8] (f0 := 1) (by kernel_rfl) rfl rfl (by kernel_rfl) (by kernel_rfl) rfl (by kernel_rfl) hHeld (fun w w' h hb => h.trans (hb.mono h.size)) ?_ ?_ ?_
      · intro i hi
        simp only [List.mem_cons, List.not_mem_nil, or_false] at hi
        rcases hi with rfl | rfl | rfl | rfl | rfl
        · refine StepSQ.of (o := ⟨some 51, Op.call { callee := Callee.value (Operand.func 19), args := #[Operand.tmp 48, Operand.tmp 50], argTypes := #[40, 22] }, _, _, _, _⟩) rfl (fun zb a w K hz hS hA hD hK => ?_)
          have e48 : a.tmps[48]?.getD undef = .pointer q := hA.getL 48 rfl
          have e50 : a.tmps[50]?.getD undef = .slice A4 n4 c4 := hA.getL 50 rfl
          rw [if_pos (by rfl)]
          go_simp
          refine (get_no (HNO.out _ hS) _ _ _).mono ?_
          rintro e5 w5 ⟨rfl, b5⟩
          exact hK.out _ _ b5 rfl
        · refine StepSQ.of (o := ⟨some 44, Op.move (Operand.tmp 51), _, _, _, _⟩) rfl (fun zb a w K hz hS hA hD hK => ?_)
          have e51 : a.tmps[51]?.getD undef = .tuple #[.agg (pc px0).toArray, .int .i64 1] := hD 6 51 rfl (by kernel_rfl) (by kernel_rfl)
          rw [if_pos (by rfl)]
          refine wp_execN (.tuple #[.agg (pc px0).toArray, .int .i64 1]) (by simp [execOp, Act.eval, e51] <;> rfl) ?_
          exact hK.out _ _ (Below.refl _ _) rfl
        · refine StepSQ.of (o := ⟨some 52, Op.extract (Operand.tmp 44) 0, _, _, _, _⟩) rfl (fun zb a w K hz hS hA hD hK => ?_)
          have e44 : a.tmps[44]?.getD undef = .tuple #[.agg (pc px0).toArray, .int .i64 1] := hD 7 44 rfl (by kernel_rfl) (by kernel_rfl)
          rw [if_pos (by rfl)]
          refine wp_execN (.agg (pc px0).toArray) (by simp [execOp, Act.eval, e44] <;> rfl) ?_
          exact hK.out _ _ (Below.refl _ _) rfl
        · refine StepSQ.of (o := ⟨some 53, Op.extract (Operand.tmp 44) 1, _, _, _, _⟩) rfl (fun zb a w K hz hS hA hD hK => ?_)
          have e44 : a.tmps[44]?.getD undef = .tuple #[.agg (pc px0).toArray, .int .i64 1] := hD 7 44 rfl (by kernel_rfl) (by kernel_rfl)
          rw [if_pos (by rfl)]
          refine wp_execN (.int .i64 1) (by simp [execOp, Act.eval, e44] <;> rfl) ?_
          exact hK.out _ _ (Below.refl _ _) rfl
        · refine StepSQ.of (o := ⟨some 8, Op.alloc 26, _, _, _, _⟩) rfl (fun zb a w K hz hS hA hD hK => ?_)
          rw [if_pos (by rfl)]
          go_simp
          exact hK.out _ _ (below_one _ _) ⟨_, rfl, hS.size, zbox_new _ _ _ rfl⟩
      · refine TurnSQ.of (o := ⟨none, Op.store 26 (Operand.tmp 8) (Operand.tmp 52), _, _, _, _⟩) rfl (fun a w K hS hA hD hK => ?_)
        have e52 : a.tmps[52]?.getD undef = .agg (pc px0).toArray := hD 8 52 rfl (by kernel_rfl) (by kernel_rfl)
        obtain ⟨b, eb, hb0, hx⟩ : (sfZ wr.heap.size).F (a.tmps[8]?.getD undef) w := hD 10 8 rfl (by kernel_rfl) (by kernel_rfl)
        rw [if_pos (by rfl)]
        refine wp_store_mid 26 (.tmp 8) (.tmp 52) rfl b 0 (pc px0).toArray (by show a.eval (.tmp 8) = _; rw [← eb]; simp [Act.eval]) (by show a.eval (.tmp 52) = _; rw [← e52]; simp [Act.eval]) (vthere hx (us := pc px0) (pc_len px0_tl)) (p_sizeA px0_tl) (p_oneA px0) ?_
        refine hK.out _ (below_setCells hb0 _ _ _ hS) (fun j s hj hs hf => ?_)
        simp only [List.contains_iff_mem, List.mem_cons, List.not_mem_nil, or_false] at hj
        rcases hj with rfl | rfl | rfl | rfl | rfl
        · exact hf
        · exact hf
        · exact hf
        · exact hf
        · subst hs
          exact ⟨b, eb, hb0, hx.store (us := pc px0) (pc_len px0_tl) (Lib.hid rfl)⟩
      intro a wc hS hA hV
      have e51 : a.tmps[51]?.getD undef = .tuple #[.agg (pc px0).toArray, .int .i64 1] := hV 6 51 rfl (by kernel_rfl)
      have e44 : a.tmps[44]?.getD undef = .tuple #[.agg (pc px0).toArray, .int .i64 1] := hV 7 44 rfl (by kernel_rfl)
      have e52 : a.tmps[52]?.getD undef = .agg (pc px0).toArray := hV 8 52 rfl (by kernel_rfl)
      have e53 : a.tmps[53]?.getD undef = .int .i64 1 := hV 9 53 rfl (by kernel_rfl)
      obtain ⟨v8, e8, lv8, V8c⟩ : (sfZ wr.heap.size).F (a.tmps[8]?.getD undef) wc := hV 10 8 rfl (by kernel_rfl)
      have eA := hA.eqL
      simp only [List.foldl_cons, List.foldl_nil] at eA
      rw [e51, e44, e52, e53, e8] at eA
      clear hHeld hA hV e51 e44 e52 e53 e8
      subst eA
      have hHeld := hS
      clear hS
      try simp only [Act.put, List.setIfInBounds_toArray, List.set_cons_zero, List.set_cons_succ]
      refine Late.end_ (i := 12) (o := ⟨some 9, Op.assign (Operand.tmp 53), _, _, _, _⟩) (by kernel_rfl) rfl rfl (fun K hK => ?_)
      go_simp
      refine hK.out _ _ ?_
      clear hK K
      try simp only [Act.put, List.setIfInBounds_toArray, List.set_cons_zero, List.set_cons_succ]
      refine Late.done (by kernel_rfl) ?_ _
      refine NoPanic.normal ?_
      have HWC := Lib.hid hHeld
      clear hHeld
      have zk := zPk
      have zs := zPc_size
      have zn := zPc_ne
      go_upto_region 7 with (first
      | (with_reducible show wpList _ _ _ (⟨some 66, .load 26 (.tmp 8), _, _, _, _⟩ :: _) _ _; refine wpList_load_guardL (op := ⟨some 66, .load 26 (.tmp 8), _, _, _, some (11, false)⟩) (by first | rfl | go_simp) 26 (.tmp 8) rfl (v8) 0 rfl (pc px0) _ (V8c.range) Tryd.underlying26 rfl (p_size px0_tl) ?_)
      | (with_reducible show wpList _ _ _ (⟨some 67, .build 26 #[], _, _, _, _⟩ :: _) _ _; refine wpList_execGL (op := ⟨some 67, .build 26 #[], _, _, _, some (11, false)⟩) (by first | rfl | go_simp) (.agg (pc px0).toArray) (by exact exec_p0 rfl rfl) ?_)
      | (go_at_call 11; refine (rlsame_any (px0_ok wc wc.heap.size) (px0_ok wc wc.heap.size) (Nat.le_refl _) (Nat.le_refl _) rfl).mono ?_; rintro e w4 ⟨rfl, hb⟩; have P4 := Lib.hid (HWC.out.trans (hb.mono HWC.out.size)); clear hb; obtain ⟨s0, s1, s2, s3, s4⟩ := HST.out _ P4.out; clear s1 s2 s3 s4)
      | (go_at_call 20; refine (boot_noL (HNO.out _ P4.out)).mono ?_; rintro e w5 ⟨rfl, hb⟩; have P5 := Lib.hid (P4.out.trans (hb.mono P4.out.size)); clear hb))
      have HB2 := Lib.hid (HB.out.trans (P5.out.mono HB.out.size))
      go_wp2_with (fail)
      exact ⟨⟨k + 1, by omega, by congr 1, HB2⟩, by simp only [intOf]; omega⟩
    · have hgeI : ¬ (k : Int) < 2 := by omega
      go_wp2
      go_ret
      exact ⟨rfl, B1.out.trans (HB.out.mono B1.out.size)⟩
theorem lknil_in (a : ActZ) (w : World) (h : ActOk w w.heap.size a) (_ : LaidF w) (_ : LaidK w) :
    Calls Tryd.prog 4 #[.agg (aCells a).toArray] w (fun e w' => e = .returned (.bool true) ∧ Below w.heap.size w w') := by
  by_cases h1 : 500 < a.n
  · exact lknil_a a w h h1
  · by_cases h2 : 500 < a.n2
    · exact lknil_b a w h ⟨h1, h2⟩
    · exact lknil_c a w h ⟨h1, h2⟩
end Go.Proofs.YtlknjaoamkcmjaaDoor
