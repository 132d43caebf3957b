/- The chapter's examples. -/
import Derived.Test.YtcgclaailhhbpaaRqPrint
import Derived.Test.YtcgclaailhhbpaaRqO
import Derived.Test.YtcgclaailhhbpaaRqJ
import Derived.Test.YtcgclaailhhbpaaRqZ
namespace Go.Proofs.Ytcgclaailhhbpaa
open Go.ChangeShapes Go.WideShapes Go.ChangeAt Go.RowKit
set_option linter.unusedVariables false
set_option maxRecDepth 100000
set_option linter.unusedSimpArgs false
open Plain Sha Au Rp Rq
def kQ : QX := ⟨1, none, 0, 0, [], ⟨#[107]⟩, ByteArray.empty, ByteArray.empty, 0, 0, 0, 0, 0, 0, 0⟩
def opQ : QX := ⟨1, none, 0, 0, [], ByteArray.empty, ByteArray.empty, ByteArray.empty, 0, 0, 0, 0, 0, 0, 0⟩
def nQ : QX := ⟨1, none, 0, 0, [], ⟨#[107]⟩, ByteArray.empty, ByteArray.empty, 1, 0, 0, 0, 0, 0, 0⟩
theorem kQ_ok (w : World) (B : Nat) : QOk w B kQ := ⟨by unfold kQ; dsimp only; omega, by unfold InA kQ; dsimp only; omega, by unfold InA kQ; dsimp only; omega, by unfold InA kQ; dsimp only; omega, by unfold InA kQ; dsimp only; omega, by unfold kQ; dsimp only; omega, by unfold InA kQ; dsimp only; omega, by unfold InA kQ; dsimp only; omega, Nat.le_refl _, by simp [kQ, maxLen], Bs.nil⟩
theorem kQ_may : mayB kQ.z = true := by kernel_rfl
theorem q0_may : mayB q0.z = false := by kernel_rfl
theorem opQ_may : mayB opQ.z = false := by kernel_rfl
theorem nQ_may : mayB nQ.z = false := by kernel_rfl
def kF : List Int := [1, 0, 0, 0, 0, 0, 0, 0, 1, 107] ++ List.replicate 57 0
theorem kQ_form : reqF kQ.z = kF := by kernel_rfl
theorem kF_len : kF.length = 67 := by kernel_rfl
theorem noughts67 : parseQ (List.replicate 67 0) = (z0, 150) := by kernel_rfl
theorem noughts1025 : parseQ (List.replicate 1025 0) = (z0, 3) := by
  unfold parseQ
  rw [if_pos (by rw [List.length_replicate]; omega)]
theorem exec_k {P : Program} {a : Act} {op : Oper} {x y : Operand} {w : World} (hP : P = Try.prog) (ho : op.op = .build 26 #[(0, x), (2, y)]) (hx : a.eval x = .int .u8 1) (hy : a.eval y = .string ⟨#[107]⟩) : (execOp a.eval op).run P w = .ok (.value (.agg (qc kQ).toArray)) w := by
  subst hP
  have hb : (Instr.build 26 #[(0, .int .u8 1), (2, .string ⟨#[107]⟩)]).run Try.prog w = .ok (.agg (qc kQ).toArray) w := run_build w 26 _ _ (by kernel_rfl)
  unfold execOp
  simp only [ho]
  simp only [List.map_toArray, List.map_cons, List.map_nil, hx, hy]
  simp [hb]
theorem exec_op1 {P : Program} {a : Act} {op : Oper} {x : Operand} {w : World} (hP : P = Try.prog) (ho : op.op = .build 26 #[(0, x)]) (hx : a.eval x = .int .u8 1) : (execOp a.eval op).run P w = .ok (.value (.agg (qc opQ).toArray)) w := by
  subst hP
  have hb : (Instr.build 26 #[(0, .int .u8 1)]).run Try.prog w = .ok (.agg (qc opQ).toArray) w := run_build w 26 _ _ (by kernel_rfl)
  unfold execOp
  simp only [ho]
  simp only [List.map_toArray, List.map_cons, List.map_nil, hx]
  simp [hb]
theorem noughts_bs (w : World) (n g : Nat) (hg : w.heap.size = g) : Bs (w.alloc (.cells (madeCells #[.int .u8 0] n) 5)) (g + 1) (some ⟨g, 0, none⟩) n (List.replicate n 0) := by
  have h := bs_new w (List.replicate n 0) n (by simp) (rep_bytes n 0 (by omega) (by omega)) 5 g hg
  have e : (vals (List.replicate n 0)).toArray = madeCells #[.int .u8 0] n := by
    apply Array.ext
    · simp [vals, madeCells]
    · intro i h1 h2
      simp [vals, madeCells, Nat.mod_one]
  rw [e] at h
  exact h
set_option maxHeartbeats 8000000 in
theorem rqawake_any (w : World) : Calls Try.prog 28 #[] w (fun e w' => e = .returned (.bool true) ∧ Below w.heap.size w w') := by
  have vn := Lib.hid (vbox_new w (qc q0) 26 w.heap.size 12 rfl (qc_len _) (by omega))
  have TH := Lib.hid (vthere vn.out (us := qc kQ) rfl)
  have hm67 : ∀ W, (Instr.makeSlice 22 (.int .i64 67) (.int .i64 67)).run Try.prog W = .ok (.slice (some ⟨W.heap.size, 0, none⟩) 67 67) (W.alloc (.cells (madeCells #[.int .u8 0] 67) 5)) := fun W => make_u8 67 (by omega) W
  have hm1025 : ∀ W, (Instr.makeSlice 22 (.int .i64 1025) (.int .i64 1025)).run Try.prog W = .ok (.slice (some ⟨W.heap.size, 0, none⟩) 1025 1025) (W.alloc (.cells (madeCells #[.int .u8 0] 1025) 5)) := fun W => make_u8 1025 (by omega) W
  go_enter Try.func28, Try.ntmps28
  go_upto_region 2 with (first
        | (show wpList _ _ _ (⟨some 9, .build 26 #[(0, .const (.int .u8 1)), (2, .const (.string ⟨#[107]⟩))], _, _, _, _⟩ :: _) _ _; refine wpList_exec (op := ⟨some 9, .build 26 #[(0, .const (.int .u8 1)), (2, .const (.string ⟨#[107]⟩))], _, _, _, _⟩) rfl (.agg (qc kQ).toArray) (by exact exec_k rfl rfl rfl rfl) ?_)
        | (show wpList _ _ _ (⟨none, .store 26 (.tmp 1) (.tmp 9), _, _, _, _⟩ :: _) _ _; refine wpList_store_as (op := ⟨none, .store 26 (.tmp 1) (.tmp 9), _, _, _, _⟩) rfl 26 (.tmp 1) (.tmp 9) rfl (w.heap.size) 0 (qc kQ).toArray rfl rfl (TH.out) (q_sizeA kQ) (q_oneA kQ) ?_; intro w1 hw1))
  obtain ⟨V1m, b1m⟩ := vstored vn.out (qc_len kQ) hw1 (Nat.le_refl _) (below_one w _)
  have V1 := Lib.hid V1m
  have B1 := Lib.hid b1m
  obtain ⟨g, hg⟩ : ∃ g, w.heap.size = g := ⟨_, rfl⟩
  have HG := Lib.hid hg
  rw [hg] at V1
  rw [hg]
  clear hg vn TH hw1 V1m b1m
  have PM := Lib.hid (print_yes (w := w1) (x := kQ) (kQ_ok _ _) (Nat.le_refl _) (by show (0 : Nat) ≤ _; omega) kQ_may kQ_form kF_len)
  go_upto_region 3 with (first
        | (show wpList _ _ _ (⟨some 11, .load 26 (.tmp 1), _, _, _, _⟩ :: _) _ _; refine wpList_load_mid (op := ⟨some 11, .load 26 (.tmp 1), _, _, _, _⟩) rfl 26 (.tmp 1) rfl (g) 0 rfl (qc kQ) _ (V1.out.range) Try.underlying26 rfl (q_size kQ) ?_)
        | (go_at_call 14; refine PM.out.mono ?_; rintro e w2 ⟨D2, d2, rfl, ho, hd1, hd2, hb⟩; have B2 := Lib.hid hb; obtain ⟨gb, rfl⟩ : ∃ gb, D2 = some ⟨gb, 0, none⟩ := (by obtain ⟨q, cap, hv, _, _⟩ := ho.form (by omega); exact ⟨q, by injection hv⟩); have O2 := Lib.hid ho; clear hb ho))
  have B02 := Lib.hid (B1.out.trans (B2.out.mono B1.out.size))
  have s02 := Lib.hid B02.out.size
  have NB := Lib.hid (noughts_bs w2 67 w2.heap.size rfl)
  have b3a := Lib.hid (below_one w2 (.cells (madeCells #[.int .u8 0] 67) 5))
  obtain ⟨w3, hw3⟩ : ∃ W, W = w2.alloc (.cells (madeCells #[.int .u8 0] 67) 5) := ⟨_, rfl⟩
  rw [← hw3] at NB b3a
  have P3 := Lib.hid (parse_any (w := w3) (c := 67) NB.out (by rw [hw3]; simp) (by omega))
  rw [noughts67] at P3
  have HW3 := Lib.hid hw3
  clear hw3
  go_upto_region 4 with (first
        | (go_at_call 19; rw [← HW3.out]; refine P3.out.mono ?_; rintro e w4 ⟨x4, rfl, zw, kw, ow, bw⟩; have B4 := Lib.hid bw; have vn := Lib.hid (vbox_new w4 (qc q0) 26 w4.heap.size 12 rfl (qc_len _) (by omega)); have THW := Lib.hid (vthere vn.out (us := qc x4) rfl); clear zw kw ow bw)
        | (show wpList _ _ _ (⟨none, .store 26 (.tmp 4) (.tmp 18), _, _, _, _⟩ :: _) _ _; refine wpList_store_as (op := ⟨none, .store 26 (.tmp 4) (.tmp 18), _, _, _, _⟩) rfl 26 (.tmp 4) (.tmp 18) rfl (w4.heap.size) 0 (qc x4).toArray rfl rfl (THW.out) (q_sizeA x4) (q_oneA x4) ?_; intro w5 hw5))
  obtain ⟨_, b5m⟩ := vstored vn.out (qc_len x4) hw5 (Nat.le_refl _) (below_one w4 _)
  have B5 := Lib.hid (B02.out.trans ((b3a.out.trans ((B4.out.trans (b5m.mono B4.out.size)).mono b3a.out.size)).mono s02.out))
  have C5 := Lib.hid (B2.out.trans ((b3a.out.trans ((B4.out.trans (b5m.mono B4.out.size)).mono b3a.out.size)).mono B2.out.size))
  have D5 := Lib.hid (b3a.out.trans ((B4.out.trans (b5m.mono B4.out.size)).mono b3a.out.size))
  clear vn THW hw5 b5m NB b3a P3 B4 HW3
  have NB := Lib.hid (noughts_bs w5 1025 w5.heap.size rfl)
  have b6a := Lib.hid (below_one w5 (.cells (madeCells #[.int .u8 0] 1025) 5))
  obtain ⟨w6, hw6⟩ : ∃ W, W = w5.alloc (.cells (madeCells #[.int .u8 0] 1025) 5) := ⟨_, rfl⟩
  rw [← hw6] at NB b6a
  have P6 := Lib.hid (parse_any (w := w6) (c := 1025) NB.out (by rw [hw6]; simp) (by omega))
  rw [noughts1025] at P6
  have HW6 := Lib.hid hw6
  clear hw6
  go_upto_region 5 with (first
        | (go_at_call 19; rw [← HW6.out]; refine P6.out.mono ?_; rintro e w7 ⟨x7, rfl, zw, kw, ow, bw⟩; have B7 := Lib.hid bw; have vn := Lib.hid (vbox_new w7 (qc q0) 26 w7.heap.size 12 rfl (qc_len _) (by omega)); have THW := Lib.hid (vthere vn.out (us := qc x7) rfl); clear zw kw ow bw)
        | (show wpList _ _ _ (⟨none, .store 26 (.tmp 6) (.tmp 23), _, _, _, _⟩ :: _) _ _; refine wpList_store_as (op := ⟨none, .store 26 (.tmp 6) (.tmp 23), _, _, _, _⟩) rfl 26 (.tmp 6) (.tmp 23) rfl (w7.heap.size) 0 (qc x7).toArray rfl rfl (THW.out) (q_sizeA x7) (q_oneA x7) ?_; intro w8 hw8))
  obtain ⟨_, b8m⟩ := vstored vn.out (qc_len x7) hw8 (Nat.le_refl _) (below_one w7 _)
  have D8 := Lib.hid (b6a.out.trans ((B7.out.trans (b8m.mono B7.out.size)).mono b6a.out.size))
  have B8 := Lib.hid (B5.out.trans (D8.out.mono B5.out.size))
  have C8 := Lib.hid (C5.out.trans (D8.out.mono C5.out.size))
  have E8 := Lib.hid (D5.out.trans (D8.out.mono D5.out.size))
  have V8 := Lib.hid (V1.out.grow C8.out)
  clear vn THW hw8 b8m NB b6a P6 B7 HW6
  have vn := Lib.hid (vbox_new w8 (qc q0) 26 w8.heap.size 12 rfl (qc_len _) (by omega))
  have TH := Lib.hid (vthere vn.out (us := qc kQ) rfl)
  go_upto_region 6 with (first
        | (show wpList _ _ _ (⟨some 25, .load 26 (.tmp 1), _, _, _, _⟩ :: _) _ _; refine wpList_load_mid (op := ⟨some 25, .load 26 (.tmp 1), _, _, _, _⟩) rfl 26 (.tmp 1) rfl (g) 0 rfl (qc kQ) _ (V8.out.range) Try.underlying26 rfl (q_size kQ) ?_)
        | (show wpList _ _ _ (⟨none, .store 26 (.tmp 8) (.tmp 25), _, _, _, _⟩ :: _) _ _; refine wpList_store_as (op := ⟨none, .store 26 (.tmp 8) (.tmp 25), _, _, _, _⟩) rfl 26 (.tmp 8) (.tmp 25) rfl (w8.heap.size) 0 (qc kQ).toArray rfl rfl (TH.out) (q_sizeA kQ) (q_oneA kQ) ?_; intro w9 hw9))
  obtain ⟨V9m, b9m⟩ := vstored vn.out (qc_len kQ) hw9 (Nat.le_refl _) (below_one w8 _)
  have V9 := Lib.hid V9m
  have B9 := Lib.hid b9m
  obtain ⟨gn, hgn⟩ : ∃ g, w8.heap.size = g := ⟨_, rfl⟩
  rw [hgn] at V9
  rw [hgn]
  have HGN := Lib.hid hgn
  clear hgn vn TH hw9 V9m b9m
  obtain ⟨x5, y5⟩ : w9.cell? ⟨gn, 5, none⟩ = some (.int .i64 0) ∧ w9.frozen? ⟨gn, 5, none⟩ = false := ⟨by have := V9.out.range 5 (.int .i64 0) rfl; rwa [Nat.zero_add] at this, by have := (V9.out.there 5 (by omega)).2; simpa only [Nat.zero_add] using this⟩
  go_upto_region 7 with fail
  obtain ⟨wa, hwa⟩ : ∃ W, W = w9.setCell ⟨gn, 5, none⟩ (.int .i64 1) := ⟨_, rfl⟩
  rw [← hwa]
  have VN := Lib.hid (show VBox wa gn 12 (qc nQ) by rw [hwa]; exact V9.out.set (by omega) _)
  have DA := Lib.hid (show Below w8.heap.size w8 wa by rw [hwa]; exact B9.out.setCell (p := ⟨gn, 5, none⟩) (by rw [HGN.out]; exact Nat.le_refl _) _)
  have VK := Lib.hid (V8.out.grow DA.out)
  have BA := Lib.hid (B8.out.trans (DA.out.mono B8.out.size))
  have O9 := Lib.hid (own_below O2.out (E8.out.trans (DA.out.mono E8.out.size)) (Nat.le_refl _))
  have c0 : wa.cell? ⟨gb, 0, none⟩ = some (.int .u8 1) := by
    have := O9.out.cells (g := gb) rfl 0 (.int .u8 1) (by kernel_rfl)
    rw [Go.WideShapes.add_plain] at this
    exact this
  have c9 : wa.cell? ⟨gb, 9, none⟩ = some (.int .u8 107) := by
    have := O9.out.cells (g := gb) rfl 9 (.int .u8 107) (by kernel_rfl)
    rw [Go.WideShapes.add_plain] at this
    exact this
  clear hwa x5 y5 V9 B9 V8 V1
  have R0 := Lib.hid (Below.refl wa.heap.size wa)
  have G1 := R0
  have G2 := R0
  have G3 := R0
  have G4 := R0
  go_wp2_with (first
        | (show wpList _ _ _ (⟨some 47, .load 26 (.tmp 1), _, _, _, some (19, true)⟩ :: _) _ _; refine wpList_load_guard (op := ⟨some 47, .load 26 (.tmp 1), _, _, _, some (19, true)⟩) (by rfl) 26 (.tmp 1) rfl (g) 0 rfl (qc kQ) _ (VK.out.range) Try.underlying26 rfl (q_size kQ) ?_)
        | (have g := G1; clear g; go_at_call 15; refine (may_any (w := wa) (x := kQ) true rfl kQ_may).mono ?_; rintro e v1 ⟨rfl, hb⟩; have R1 := Lib.hid (R0.out.trans (hb.mono R0.out.size)); clear hb G1)
        | (show wpList _ _ _ (⟨some 51, .build 26 #[], _, _, _, some (23, true)⟩ :: _) _ _; refine wpList_execG (op := ⟨some 51, .build 26 #[], _, _, _, some (23, true)⟩) (by rfl) (.agg (qc q0).toArray) (by exact exec_q0 rfl rfl) ?_)
        | (have g := G2; clear g; go_at_call 15; refine (may_any (w := v1) (x := q0) false rfl q0_may).mono ?_; rintro e v2 ⟨rfl, hb⟩; have R2 := Lib.hid (R1.out.trans (hb.mono R1.out.size)); clear hb G2)
        | (show wpList _ _ _ (⟨some 56, .build 26 #[(0, .const (.int .u8 1))], _, _, _, some (28, true)⟩ :: _) _ _; refine wpList_execG (op := ⟨some 56, .build 26 #[(0, .const (.int .u8 1))], _, _, _, some (28, true)⟩) (by rfl) (.agg (qc opQ).toArray) (by exact exec_op1 rfl rfl rfl) ?_)
        | (have g := G3; clear g; go_at_call 15; refine (may_any (w := v2) (x := opQ) false rfl opQ_may).mono ?_; rintro e v3 ⟨rfl, hb⟩; have R3 := Lib.hid (R2.out.trans (hb.mono R2.out.size)); clear hb G3)
        | (show wpList _ _ _ (⟨some 61, .load 26 (.tmp 8), _, _, _, some (33, true)⟩ :: _) _ _; refine wpList_load_guard (op := ⟨some 61, .load 26 (.tmp 8), _, _, _, some (33, true)⟩) (by rfl) 26 (.tmp 8) rfl (gn) 0 rfl (qc nQ) _ ((VN.out.grow R3.out).range) Try.underlying26 rfl (q_size nQ) ?_)
        | (have g := G4; clear g; go_at_call 15; refine (may_any (w := v3) (x := nQ) false rfl nQ_may).mono ?_; rintro e v4 ⟨rfl, hb⟩; have R4 := Lib.hid (R3.out.trans (hb.mono R3.out.size)); clear hb G4))
  go_ret
  exact ⟨rfl, BA.out.trans (R4.out.mono BA.out.size)⟩
end Go.Proofs.Ytcgclaailhhbpaa
