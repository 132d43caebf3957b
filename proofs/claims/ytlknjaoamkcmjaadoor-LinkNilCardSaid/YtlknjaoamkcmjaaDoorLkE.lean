/- Parse: the program's. -/
import Derived.Test.YtlknjaoamkcmjaaDoorLkD
namespace Go.Proofs.YtlknjaoamkcmjaaDoor
open Go.ChangeShapes Go.WideShapes Go.ChangeAt Go.RowKit
set_option linter.unusedVariables false
set_option maxRecDepth 100000
set_option linter.unusedSimpArgs false
open Plain Sha Wn Lk
theorem list32L {T : List Int} (h : T.length = 32) : T = (List.range 32).map (fun i => T.getD i 0) := by
  refine List.ext_getElem (by simp [h]) fun i h1 h2 => ?_
  simp [List.getD_eq_getElem?_getD, List.getElem?_eq_getElem h1]
theorem build_pk (a b c d e : Int) (zs T : List Int) (A : Option Addr) (n k : Nat) (hT : T.length = 32) (W : World) :
    (Instr.build 26 #[(0, .int .i64 a), (1, .int .i64 b), (2, .int .i64 c), (3, .int .i64 d), (4, .int .i64 e), (5, .slice A n k), (6, .agg (vals T).toArray)]).run Tryd.prog W = .ok (.agg (pc ⟨⟨a, b, c, d, e, zs, T⟩, A, n, k⟩).toArray) W := by
  obtain ⟨f, hf⟩ : ∃ f : Nat → Int, T = (List.range 32).map f := ⟨_, list32L hT⟩
  subst hf
  exact run_build W 26 _ _ (by kernel_rfl)
theorem build_p6 (a b c d e : Int) (zs : List Int) (A : Option Addr) (n k : Nat) (W : World) :
    (Instr.build 26 #[(0, .int .i64 a), (1, .int .i64 b), (2, .int .i64 c), (3, .int .i64 d), (4, .int .i64 e), (5, .slice A n k)]).run Tryd.prog W = .ok (.agg (pc ⟨⟨a, b, c, d, e, zs, List.replicate 32 0⟩, A, n, k⟩).toArray) W :=
  run_build W 26 _ _ (by kernel_rfl)
theorem build_p5 (a b c d e : Int) (W : World) :
    (Instr.build 26 #[(0, .int .i64 a), (1, .int .i64 b), (2, .int .i64 c), (3, .int .i64 d), (4, .int .i64 e)]).run Tryd.prog W = .ok (.agg (pc ⟨⟨a, b, c, d, e, [], List.replicate 32 0⟩, none, 0, 0⟩).toArray) W :=
  run_build W 26 _ _ (by kernel_rfl)
theorem build_p0 (W : World) : (Instr.build 26 #[]).run Tryd.prog W = .ok (.agg (pc px0).toArray) W := run_build W 26 _ _ (by kernel_rfl)
theorem exec_p0 {P : Program} {a : Act} {op : Oper} {w : World} (hP : P = Tryd.prog) (ho : op.op = .build 26 #[]) : (execOp a.eval op).run P w = .ok (.value (.agg (pc px0).toArray)) w := by
  subst hP
  have hb := build_p0 w
  unfold execOp
  simp only [ho]
  simp [hb]
theorem exec_bld7 {P : Program} {a : Act} {op : Oper} {t : TypeId} {x0 x1 x2 x3 x4 x5 x6 : Operand} {v0 v1 v2 v3 v4 v5 v6 v : Value} {w : World} (ho : op.op = .build t #[(0, x0), (1, x1), (2, x2), (3, x3), (4, x4), (5, x5), (6, x6)]) (h0 : a.eval x0 = v0) (h1 : a.eval x1 = v1) (h2 : a.eval x2 = v2) (h3 : a.eval x3 = v3) (h4 : a.eval x4 = v4) (h5 : a.eval x5 = v5) (h6 : a.eval x6 = v6) (h : (Instr.build t #[(0, v0), (1, v1), (2, v2), (3, v3), (4, v4), (5, v5), (6, v6)]).run P w = .ok v w) : (execOp a.eval op).run P w = .ok (.value v) w := by
  subst h0 h1 h2 h3 h4 h5 h6
  unfold execOp
  simp only [ho]
  simp [h]
theorem exec_bld6 {P : Program} {a : Act} {op : Oper} {t : TypeId} {x0 x1 x2 x3 x4 x5 : Operand} {v0 v1 v2 v3 v4 v5 v : Value} {w : World} (ho : op.op = .build t #[(0, x0), (1, x1), (2, x2), (3, x3), (4, x4), (5, x5)]) (h0 : a.eval x0 = v0) (h1 : a.eval x1 = v1) (h2 : a.eval x2 = v2) (h3 : a.eval x3 = v3) (h4 : a.eval x4 = v4) (h5 : a.eval x5 = v5) (h : (Instr.build t #[(0, v0), (1, v1), (2, v2), (3, v3), (4, v4), (5, v5)]).run P w = .ok v w) : (execOp a.eval op).run P w = .ok (.value v) w := by
  subst h0 h1 h2 h3 h4 h5
  unfold execOp
  simp only [ho]
  simp [h]
/-- What Parse tells: a packet, an error; its body stands in new memory. -/
def ReadsP (w : World) (z : PkZ) (er : Int) (e : Ending) (w' : World) : Prop := ∃ x : PX, e = .returned (.tuple #[.agg (pc x).toArray, .int .i64 er]) ∧ x.z = z ∧ PXOk w' w'.heap.size x ∧ w'.ownsRow w.heap.size 5 1 (.slice x.A x.n x.c) x.n (vals x.z.body) ∧ Below w.heap.size w w'
theorem readsp_zero {w w' : World} (er : Int) (hb : Below w.heap.size w w') : ReadsP w p0 er (.returned (.tuple #[.agg (pc px0).toArray, .int .i64 er])) w' := ⟨px0, rfl, rfl, px0_ok _ _, World.ownsRow_nil _ _ _ _, hb⟩
set_option maxHeartbeats 8000000 in
theorem lparse_any {w : World} {B n : Nat} (c : Nat) {A : Option Addr} {bs : List Int} (h : Bs w B A n bs) (hB : B ≤ w.heap.size) (hn : n ≤ 140737488355328) : Calls Tryd.prog 24 #[.slice A n c] w (ReadsP w (parseL bs).1 (parseL bs).2) := by
  obtain ⟨g, hg⟩ : ∃ g, w.heap.size = g := ⟨_, rfl⟩
  have HG := Lib.hid hg
  obtain ⟨W1, hW1⟩ : ∃ W, W = w.alloc (.cells zPc 26) := ⟨_, rfl⟩
  have b1 := Lib.hid (show Below w.heap.size w W1 by rw [hW1]; exact below_one _ _)
  have V1 := Lib.hid (show VBox W1 g 38 (pc px0) by rw [hW1]; exact zbox_new w _ g hg)
  have z1 := Lib.hid (show W1.heap.size = g + 1 by rw [hW1]; simp [hg])
  have HW1 := Lib.hid hW1
  have HN1 := Lib.hid (newreader_any (w := W1) c (h.belowM b1.out hB) (Nat.le_trans hB b1.out.size) hn)
  obtain ⟨s0, hs0⟩ : ∃ s, newWhy bs = s := ⟨_, rfl⟩
  have t0 : StL s0 := by rw [← hs0]; exact newWhy_st h.isBytes
  have HS := Lib.hid hs0
  clear hW1 hg h hs0
  obtain ⟨a1, s1, e1⟩ : ∃ a s, rInt s0 = (a, s) := ⟨_, _, rfl⟩
  obtain ⟨a2, s2, e2⟩ : ∃ a s, rInt s1 = (a, s) := ⟨_, _, rfl⟩
  obtain ⟨a3, s3, e3⟩ : ∃ a s, rInt s2 = (a, s) := ⟨_, _, rfl⟩
  obtain ⟨a4, s4, e4⟩ : ∃ a s, rInt s3 = (a, s) := ⟨_, _, rfl⟩
  obtain ⟨a5, s5, e5⟩ : ∃ a s, rInt s4 = (a, s) := ⟨_, _, rfl⟩
  obtain ⟨a6, s6, e6⟩ : ∃ a s, rBytes s5 = (a, s) := ⟨_, _, rfl⟩
  obtain ⟨a7, s7, e7⟩ : ∃ a s, rTag s6 = (a, s) := ⟨_, _, rfl⟩
  obtain ⟨g1, t1⟩ := int_rg t0 e1
  obtain ⟨g2, t2⟩ := int_rg t1 e2
  obtain ⟨g3, t3⟩ := int_rg t2 e3
  obtain ⟨g4, t4⟩ := int_rg t3 e4
  obtain ⟨g5, t5⟩ := int_rg t4 e5
  obtain ⟨g6, t6⟩ := bytes_rg t5 e6
  obtain ⟨g7, t7⟩ := tag_rg t6 e7
  have HR : Hid (pkR s0 = (⟨a1, a2, a3, a4, a5, a6, a7⟩, s7)) := Lib.hid (by
    unfold pkR
    simp only [e1, e2, e3, e4, e5, e6, e7])
  have E1 := Lib.hid e1
  have E2 := Lib.hid e2
  have E3 := Lib.hid e3
  have E4 := Lib.hid e4
  have E5 := Lib.hid e5
  have E6 := Lib.hid e6
  have E7 := Lib.hid e7
  clear e1 e2 e3 e4 e5 e6 e7
  have HP : Hid (parseL bs = if endZ s7.1 s7.2 = 0 ∧ mayP ⟨a1, a2, a3, a4, a5, a6, a7⟩ = true then (⟨a1, a2, a3, a4, a5, a6, a7⟩, 0) else (p0, 190)) := Lib.hid (by unfold parseL; rw [HS.out, HR.out])
  have zk := zPk
  have zs := zPc_size
  have zn := zPc_ne
  go_enter Tryd.func24, Tryd.ntmps24
  go_upto_region 1 with fail
  rw [← HW1.out, HG.out]
  go_upto_region 2 with (go_at_call 40; refine HN1.out.mono ?_; rintro e v0 ⟨b, rfl, hrd, hbl, hb⟩; rw [HS.out] at hrd; have P0 : Hid (RdP b ⟨W1.heap.size, b⟩ v0 s0) := Lib.hid hrd; have G0 := Lib.hid hb; have HBL := Lib.hid hbl; clear hb hbl hrd)
  go_upto_region 3 with (first
      | (go_at_call 41; refine (int_st P0.out E1.out).mono ?_; rintro e v1 ⟨rfl, hr, hg⟩; have P1 := Lib.hid hr; have G1 := Lib.hid (G0.out.trans (below_of_grown hg G0.out.size (fun j hj => by injection hj with hj; have := HBL.out; omega))); clear hr hg)
      | (go_at_call 41; refine (int_st P1.out E2.out).mono ?_; rintro e v2 ⟨rfl, hr, hg⟩; have P2 := Lib.hid hr; have G2 := Lib.hid (G1.out.trans (below_of_grown hg G1.out.size (fun j hj => by injection hj with hj; have := HBL.out; omega))); clear hr hg)
      | (go_at_call 41; refine (int_st P2.out E3.out).mono ?_; rintro e v3 ⟨rfl, hr, hg⟩; have P3 := Lib.hid hr; have G3 := Lib.hid (G2.out.trans (below_of_grown hg G2.out.size (fun j hj => by injection hj with hj; have := HBL.out; omega))); clear hr hg)
      | (go_at_call 41; refine (int_st P3.out E4.out).mono ?_; rintro e v4 ⟨rfl, hr, hg⟩; have P4 := Lib.hid hr; have G4 := Lib.hid (G3.out.trans (below_of_grown hg G3.out.size (fun j hj => by injection hj with hj; have := HBL.out; omega))); clear hr hg)
      | (go_at_call 41; refine (int_st P4.out E5.out).mono ?_; rintro e v5 ⟨rfl, hr, hg⟩; have P5 := Lib.hid hr; have G5 := Lib.hid (G4.out.trans (below_of_grown hg G4.out.size (fun j hj => by injection hj with hj; have := HBL.out; omega))); clear hr hg)
      | (go_at_call 42; refine (bytes_st P5.out E6.out).mono ?_; rintro e v6 ⟨T, rfl, hr, hg, hl⟩; have P6 := Lib.hid hr; have G6 := Lib.hid (G5.out.trans (below_of_grown hg G5.out.size (fun j hj => by injection hj with hj; have := HBL.out; omega))); obtain ⟨AT, cT, rfl, hl1, hl2, hl3⟩ := hl; have L6 := Lib.hid hl1; have LC := Lib.hid (And.intro hl2 hl3); have Z5 := Lib.hid P5.out.lt; clear hl1 hl2 hl3; clear hr hg)
      | (go_at_call 43; refine (tag_st P6.out E7.out).mono ?_; rintro e v7 ⟨rfl, hr, hg⟩; have P7 := Lib.hid hr; have G7 := Lib.hid (G6.out.trans (below_of_grown hg G6.out.size (fun j hj => by injection hj with hj; have := HBL.out; omega))); have L7 := Lib.hid (own_keepB L6.out (fun j h1 h2 => hg.block j h2 (fun e => by injection e with e; have := Z5.out; omega))); clear hr hg)
      | (show wpList _ _ _ (⟨some 22, .build 26 #[(0, .tmp 9), (1, .tmp 11), (2, .tmp 13), (3, .tmp 15), (4, .tmp 17), (5, .tmp 19), (6, .tmp 21)], _, _, _, _⟩ :: _) _ _; refine wpList_exec (op := ⟨some 22, .build 26 #[(0, .tmp 9), (1, .tmp 11), (2, .tmp 13), (3, .tmp 15), (4, .tmp 17), (5, .tmp 19), (6, .tmp 21)], _, _, _, _⟩) rfl (.agg (pc ⟨⟨a1, a2, a3, a4, a5, a6, a7⟩, AT, a6.length, cT⟩).toArray) (by exact exec_bld7 rfl rfl rfl rfl rfl rfl rfl rfl (build_pk a1 a2 a3 a4 a5 a6 a7 AT a6.length cT g7.1 _)) ?_)
      | (show wpList _ _ _ (⟨none, .store 26 (.tmp 5) (.tmp 22), _, _, _, _⟩ :: _) _ _; refine wpList_store_as (op := ⟨none, .store 26 (.tmp 5) (.tmp 22), _, _, _, _⟩) rfl 26 (.tmp 5) (.tmp 22) rfl (v7.heap.size) 0 (pc ⟨⟨a1, a2, a3, a4, a5, a6, a7⟩, AT, a6.length, cT⟩).toArray rfl rfl (vthere (zbox_new v7 26 _ rfl) (us := pc ⟨⟨a1, a2, a3, a4, a5, a6, a7⟩, AT, a6.length, cT⟩) (pc_len g7.1)) (p_sizeA (x := ⟨⟨a1, a2, a3, a4, a5, a6, a7⟩, AT, a6.length, cT⟩) g7.1) (p_oneA ⟨⟨a1, a2, a3, a4, a5, a6, a7⟩, AT, a6.length, cT⟩) ?_; intro w9 hw9))
  obtain ⟨x, hx⟩ : ∃ x : PX, x = ⟨⟨a1, a2, a3, a4, a5, a6, a7⟩, AT, a6.length, cT⟩ := ⟨_, rfl⟩
  have hxt : x.z.tag.length = 32 := by rw [hx]; exact g7.1
  obtain ⟨r, hr⟩ : ∃ r, v7.heap.size = r := ⟨_, rfl⟩
  obtain ⟨V9, b9⟩ := vstored (zbox_new v7 26 v7.heap.size rfl) (us := pc x) (pc_len hxt) (by rw [hx]; exact hw9) (Nat.le_refl _) (below_one v7 _)
  have RD9 : RdP b ⟨W1.heap.size, b⟩ w9 s7 := Rd.below P7.out b9 P7.out.lt
  have O9 : w9.ownsRow W1.heap.size 5 1 (.slice x.A x.n x.c) x.n (vals x.z.body) := by
    have h1 := own_below L7.out b9 (Nat.le_refl _)
    have h2 := own_base h1 (base' := W1.heap.size) (by have := G5.out.size; omega)
    rw [hx]; exact h2
  have OK9 : POk x.z := by rw [hx]; exact ⟨g1, g2, g3, g4, g5, g6.1, g6.2, g7.2, g7.1⟩
  have hxc : x.n ≤ x.c ∧ x.c ≤ maxLen := by rw [hx]; exact LC.out
  have HP2 : Hid (parseL bs = if endZ s7.1 s7.2 = 0 ∧ mayP x.z = true then (x.z, 0) else (p0, 190)) := Lib.hid (by rw [HP.out, hx])
  have BT9 : Below W1.heap.size W1 w9 := G7.out.trans (b9.mono G7.out.size)
  have XT := Lib.hid hxt
  have XO := Lib.hid (show PXOk w9 w9.heap.size x from ⟨OK9, bs_of_own O9 OK9.body, hxc.1, hxc.2⟩)
  have XW := Lib.hid O9
  have V9' := Lib.hid V9
  have V19 := Lib.hid (V1.out.below BT9 (by rw [z1.out]; omega))
  have BD := Lib.hid (b1.out.trans (BT9.mono b1.out.size))
  have gD : Hid (g < w9.heap.size ∧ w.heap.size ≤ W1.heap.size ∧ g < W1.heap.size) := Lib.hid (by have h1 := BT9.size; rw [z1.out] at h1 ⊢; have h3 := HG.out; omega)
  obtain ⟨z, hz⟩ : ∃ z, endZ s7.1 s7.2 = z := ⟨_, rfl⟩
  have EM := Lib.hid (end_st RD9 z hz)
  rw [hz] at HP2
  clear hz hx hxt hr V9 b9 RD9 O9 OK9 hxc BT9 hw9 HP g1 g2 g3 g4 g5 g6 g7 t0 t1 t2 t3 t4 t5 t6 t7 zk zs zn E1 E2 E3 E4 E5 E6 E7 HR
  by_cases hz0 : z = 0
  · subst hz0
    obtain ⟨q, hq⟩ : ∃ q, mayP x.z = q := ⟨_, rfl⟩
    have MM := Lib.hid (pmay_any XT.out q hq)
    rw [hq] at HP2
    clear hq
    cases q with
    | false =>
      have HP3 : Hid (parseL bs = (p0, 190)) := Lib.hid (by rw [HP2.out]; simp)
      go_upto_region 4 with (first
      | (go_at_call 44; refine EM.out.mono ?_; rintro e v13 ⟨rfl, rfl⟩)
      | (show wpList _ _ _ (⟨some 27, .load 26 (.tmp 5), _, _, _, some (3, false)⟩ :: _) _ _; refine wpList_load_guardL (op := ⟨some 27, .load 26 (.tmp 5), _, _, _, some (3, false)⟩) (by rfl) 26 (.tmp 5) rfl (_) 0 rfl (pc x) _ (V9'.out.range) Tryd.underlying26 rfl (p_size XT.out) ?_)
      | (go_at_call 13; refine (MM.out _).mono ?_; rintro e w10 ⟨rfl, hb⟩; have B10 := Lib.hid hb; clear hb))
      have VT := Lib.hid (vthere (V19.out.grow B10.out) (us := pc px0) (pc_len px0_tl))
      go_wp2_with (first
      | (show wpList _ _ _ (⟨some 31, .build 26 #[], _, _, _, _⟩ :: _) _ _; refine wpList_exec (op := ⟨some 31, .build 26 #[], _, _, _, _⟩) rfl (.agg (pc px0).toArray) (by exact exec_p0 rfl rfl) ?_)
      | (show wpList _ _ _ (⟨none, .store 26 (.tmp 2) (.tmp 31), _, _, _, _⟩ :: _) _ _; refine wpList_store_as (op := ⟨none, .store 26 (.tmp 2) (.tmp 31), _, _, _, _⟩) rfl 26 (.tmp 2) (.tmp 31) rfl (g) 0 (pc px0).toArray rfl rfl (VT.out) (p_sizeA px0_tl) (p_oneA px0) ?_; intro w11 hw11))
      obtain ⟨V11, b11⟩ := vstored (V19.out.grow B10.out) (pc_len px0_tl) hw11 (by rw [HG.out]; exact Nat.le_refl _) (BD.out.trans (B10.out.mono BD.out.size))
      exact bodyPost_ret (v := .tuple #[.agg (pc px0).toArray, .int .i64 190]) (results_mid_tmp (p := 2) (u := 3) (ty := 26) rfl _ _ g 0 (pc px0) _ rfl V11.range Tryd.underlying26 rfl (p_size px0_tl)) rfl (by rw [HP3.out]; exact readsp_zero 190 b11)
    | true =>
      have HP3 : Hid (parseL bs = (x.z, 0)) := Lib.hid (by rw [HP2.out]; simp)
      go_upto_region 5 with (first
      | (go_at_call 44; refine EM.out.mono ?_; rintro e v13 ⟨rfl, rfl⟩)
      | (show wpList _ _ _ (⟨some 27, .load 26 (.tmp 5), _, _, _, some (3, false)⟩ :: _) _ _; refine wpList_load_guardL (op := ⟨some 27, .load 26 (.tmp 5), _, _, _, some (3, false)⟩) (by rfl) 26 (.tmp 5) rfl (_) 0 rfl (pc x) _ (V9'.out.range) Tryd.underlying26 rfl (p_size XT.out) ?_)
      | (go_at_call 13; refine (MM.out _).mono ?_; rintro e w10 ⟨rfl, hb⟩; have B10 := Lib.hid hb; clear hb))
      have VT := Lib.hid (vthere (V19.out.grow B10.out) (us := pc x) (pc_len XT.out))
      have VR := Lib.hid (V9'.out.grow B10.out)
      go_wp2_with (first
      | (show wpList _ _ _ (⟨some 32, .load 26 (.tmp 5), _, _, _, _⟩ :: _) _ _; refine wpList_load_mid (op := ⟨some 32, .load 26 (.tmp 5), _, _, _, _⟩) rfl 26 (.tmp 5) rfl (_) 0 rfl (pc x) _ (VR.out.range) Tryd.underlying26 rfl (p_size XT.out) ?_)
      | (show wpList _ _ _ (⟨none, .store 26 (.tmp 2) (.tmp 32), _, _, _, _⟩ :: _) _ _; refine wpList_store_as (op := ⟨none, .store 26 (.tmp 2) (.tmp 32), _, _, _, _⟩) rfl 26 (.tmp 2) (.tmp 32) rfl (g) 0 (pc x).toArray rfl rfl (VT.out) (p_sizeA XT.out) (p_oneA x) ?_; intro w11 hw11))
      obtain ⟨V11, b11⟩ := vstored (V19.out.grow B10.out) (pc_len XT.out) hw11 (by rw [HG.out]; exact Nat.le_refl _) (BD.out.trans (B10.out.mono BD.out.size))
      have hk : ∀ k, k ≠ g → w11.heap[k]? = w10.heap[k]? := fun k hk => by rw [hw11.out]; exact heap_setCells g k hk _ _ _
      have OW2 := own_below XW.out B10.out (Nat.le_refl _)
      have OW3 : w11.ownsRow w.heap.size 5 1 (.slice x.A x.n x.c) x.n (vals x.z.body) := own_base (own_keepB OW2 (fun k h1 h2 => hk k (by have := gD.out; omega))) gD.out.2.1
      exact bodyPost_ret (v := .tuple #[.agg (pc x).toArray, .int .i64 0]) (results_mid_tmp (p := 2) (u := 3) (ty := 26) rfl _ _ g 0 (pc x) _ rfl V11.range Tryd.underlying26 rfl (p_size XT.out)) rfl (by rw [HP3.out]; exact ⟨x, rfl, rfl, ⟨XO.out.ok, bs_of_own OW3 XO.out.ok.body, XO.out.nc, XO.out.cm⟩, OW3, b11⟩)
  · have HP3 : Hid (parseL bs = (p0, 190)) := Lib.hid (by rw [HP2.out, if_neg (fun h => hz0 h.1)])
    have hzb : (z != 0) = true := by simpa using hz0
    have VT := Lib.hid (vthere V19.out (us := pc px0) (pc_len px0_tl))
    clear hz0
    go_wp2_with (first
      | (go_at_call 44; refine EM.out.mono ?_; rintro e v13 ⟨rfl, rfl⟩)
      | (show wpList _ _ _ (⟨some 31, .build 26 #[], _, _, _, _⟩ :: _) _ _; refine wpList_exec (op := ⟨some 31, .build 26 #[], _, _, _, _⟩) rfl (.agg (pc px0).toArray) (by exact exec_p0 rfl rfl) ?_)
      | (show wpList _ _ _ (⟨none, .store 26 (.tmp 2) (.tmp 31), _, _, _, _⟩ :: _) _ _; refine wpList_store_as (op := ⟨none, .store 26 (.tmp 2) (.tmp 31), _, _, _, _⟩) rfl 26 (.tmp 2) (.tmp 31) rfl (g) 0 (pc px0).toArray rfl rfl (VT.out) (p_sizeA px0_tl) (p_oneA px0) ?_; intro w11 hw11))
    obtain ⟨V11, b11⟩ := vstored V19.out (pc_len px0_tl) hw11 (by rw [HG.out]; exact Nat.le_refl _) BD.out
    exact bodyPost_ret (v := .tuple #[.agg (pc px0).toArray, .int .i64 190]) (results_mid_tmp (p := 2) (u := 3) (ty := 26) rfl _ _ g 0 (pc px0) _ rfl V11.range Tryd.underlying26 rfl (p_size px0_tl)) rfl (by rw [HP3.out]; exact readsp_zero 190 b11)
end Go.Proofs.YtlknjaoamkcmjaaDoor
