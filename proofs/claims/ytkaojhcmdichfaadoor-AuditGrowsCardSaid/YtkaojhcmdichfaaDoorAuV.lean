/- The examples. -/
import Derived.Test.YtkaojhcmdichfaaDoorAuG
import Derived.Test.YtkaojhcmdichfaaDoorAuC2
import Derived.Test.YtkaojhcmdichfaaDoorAuT
namespace Go.Proofs.YtkaojhcmdichfaaDoor
open Go.ChangeShapes Go.WideShapes Go.ChangeAt Go.RowKit
set_option linter.unusedVariables false
set_option linter.unusedSimpArgs false
open Plain Sha Au
set_option maxRecDepth 100000
theorem wpList_execG {P : Program} {ops : Array Oper} {rest : List Oper} {op : Oper} {a : Act} {w : World} {Q : Exit → Act → World → Prop} (hw : Region.wanted op (yielded ops a.tmps) = true) (v : Value)
    (hrun : (execOp a.eval op).run P w = .ok (.value v) w) (h : wpList P ops Q rest (a.put op.dst v) w) : wpList P ops Q (op :: rest) a w := by
  simp only [wpList, hw, if_true]
  exact .inl (by unfold Oper.wp; simp only [hrun]; exact h)
theorem exec_cmp {P : Program} {a : Act} {op : Oper} {w : World} {v : Value} (o : BinOp) (t : TypeId) (x y : Operand) (xs ys : Array Value) (ho : op.op = .binOp o t x y t) (hx : a.eval x = .agg xs) (hy : a.eval y = .agg ys) (hm : P.eqGuardType P.depth t = false)
    (h : (binOp o t (.agg xs) (.agg ys)).run P w = .ok v w) : (execOp a.eval op).run P w = .ok (.value v) w := by
  unfold execOp
  simp only [ho]
  rw [hx, hy]
  simp [run_eqGuard_agg (hm := hm), h]
theorem check_val {w : World} {B : Nat} {A : Option Addr} {n c : Nat} {l : List LinkZ} (z : Int) (h : Lks w B A n l) (hz : checkZ l = z) (hB : B ≤ w.heap.size) (hn : n ≤ 100000) (hc : n ≤ c) (hcm : c ≤ maxLen) (hF : LaidF w) (hK : LaidK w) :
    Calls Tryd.prog 14 #[.slice A n c] w (fun e w' => e = .returned (.int .i64 z) ∧ Below w.heap.size w w') := by
  subst hz
  exact check_any h hB hn hc hcm hF hK
theorem head_val {w : World} {B : Nat} {A : Option Addr} {n : Nat} (c : Nat) {l : List LinkZ} (T : List Int) (h : Lks w B A n l) (hT : headZ l = T) (hB : B ≤ w.heap.size) (hn : n ≤ maxLen) :
    Calls Tryd.prog 11 #[.slice A n c] w (fun e w' => e = .returned (.agg (vals T).toArray) ∧ Below w.heap.size w w') := by
  subst hT
  exact head_any c h hB hn
theorem ats_AB (w : World) : Ats (w.alloc (.cells (avs [aA, aB]).toArray 41)) (w.heap.size + 1) (some ⟨w.heap.size, 0, none⟩) 2 [aA, aB] :=
  ⟨rfl, fun _ => ⟨w.heap.size, 0, rfl, by omega, fun i u hu => by
    rw [cell_of_row _ _ _ _ _ _ (heap_alloc_new w _), Nat.zero_add, List.getElem?_toArray, hu]⟩, fun x hx => by
    simp only [List.mem_cons, List.not_mem_nil, or_false] at hx
    rcases hx with rfl | rfl <;> exact ⟨⟨by unfold InA; decide, by decide, by unfold InA; decide, by unfold InA; decide, by unfold InA; decide, by unfold InA; decide⟩⟩⟩
theorem okAB : ∀ g, g ∈ [gA, gB] → LOk g := by
  rw [← chainAB]
  exact chain_ok _ (by decide) (ats_AB default).ok
theorem okC : LOk gC := by
  have h := okAB gA (by simp)
  exact ⟨h.n, h.st, h.op, h.tn, by unfold InA; decide, h.b, h.c, h.H, h.S⟩
theorem setC : (lc gA).set 4 (.int .i64 3) = lc gC := rfl
theorem cut_1L (b off n c : Nat) (h1 : 1 ≤ n) (h2 : n ≤ c) (hc : 1 < c) : ∀ W, (Instr.slice 22 (.slice (some ⟨b, off, none⟩) n c) (some (.int .i64 1)) none none).run Tryd.prog W = .ok (.slice (some ⟨b, off + 71, none⟩) (n - 1) (c - 1)) W := by
  intro W
  have he : Tryd.prog.elem 22 = 26 := by simp [Program.elem, Tryd.underlying22]
  have hz : (Go.sizeOf 26).run Tryd.prog W = .ok 71 W := Tryd.sizeOf26 W
  rw [run_slice_l W 22 _ n c (by rw [he]; exact Tryd.underlying22) .i64 (1 : Int) (by omega) (by omega), he, hz]
  have hne : ¬ c = 1 := by omega
  simp [Result.andThen, sliced, hne, Go.WideShapes.add_plain]
set_option maxHeartbeats 8000000 in
theorem auawake_any (w : World) (hF : LaidF w) (hK : LaidK w) : Calls Tryd.prog 12 #[] w (fun e w' => e = .returned (.bool true) ∧ Below w.heap.size w w') := by
  have okL := okAB
  have okC' := okC
  have c1 := chainAB
  have c2 := checkAB
  have c3 := checkCB
  have c4 := checkB
  have c5 := headAB
  have c6 : eqB gB.H gA.S = true := eqB_self _
  have c7 : (!eqB gA.S gB.S) = true := by rw [neAB]; rfl
  have c8 : gB.st = 5 := rfl
  have c9 : gA.a = 2 := rfl
  have c10 := setC
  have c11 : eqB gB.S gB.S = true := eqB_self _
  obtain ⟨xa, ea⟩ : ∃ x, gA = x := ⟨_, rfl⟩
  obtain ⟨xb, eb⟩ : ∃ x, gB = x := ⟨_, rfl⟩
  obtain ⟨xc, ec⟩ : ∃ x, gC = x := ⟨_, rfl⟩
  rw [ea, eb] at okL c1 c2 c5 c6 c7
  rw [ec] at okC'
  rw [ec, eb] at c3
  rw [eb] at c4 c8 c11
  rw [ea] at c9
  rw [ea, ec] at c10
  clear ea eb ec
  have C1 := Lib.hid c1
  have C2 := Lib.hid c2
  have C3 := Lib.hid c3
  have C4 := Lib.hid c4
  have C5 := Lib.hid c5
  have C6 := Lib.hid c6
  have C7 := Lib.hid c7
  have C8 := Lib.hid c8
  have C9 := Lib.hid c9
  have C10 := Lib.hid c10
  have C11 := Lib.hid c11
  have OKL := Lib.hid okL
  have OKC := Lib.hid okC'
  clear okL okC' c1 c2 c3 c4 c5 c6 c7 c8 c9 c10 c11
  have HF0 := Lib.hid hF
  have HK0 := Lib.hid hK
  have AB := Lib.hid (ats_AB w)
  have B0 : Hid (Below w.heap.size w (w.alloc (.cells (avs [aA, aB]).toArray 41))) := Lib.hid ((Below.refl _ _).alloc (Nat.le_refl _) _)
  have HCH := Lib.hid (chain_any 2 AB.out (by simp) (by omega) (HF0.out.below B0.out HF0.out.lt) (HK0.out.below B0.out HK0.out.lt))
  have zk := zLk
  have zs := zLc_size
  have zn := zLc_ne
  clear hF hK AB
  go_enter Tryd.func12, Tryd.ntmps12
  have G1 := B0
  go_upto_region 2 with (first
      | (have g := G1; clear g; go_at_call 16; refine HCH.out.mono ?_; rintro e v0 ⟨D, d, rfl, ho, hb, hd2, hdm⟩; have B1 := Lib.hid (B0.out.trans (hb.mono B0.out.size)); have HO := Lib.hid ho; clear G1 hb ho))
  have HO' := HO.out
  rw [C1.out] at HO'
  obtain ⟨g, cap, hv, hgb, hgl⟩ := HO'.form (by omega)
  injection hv with e1 e2 e3
  subst e1 e3
  have HL0 := Lib.hid (lks_of_own HO' OKL.out)
  have HGB : Hid (w.heap.size < g) := Lib.hid (by simp at hgb; omega)
  have P0 : Hid (Below v0.heap.size v0 v0) := Lib.hid (Below.refl _ _)
  have HLL : Hid (∀ W, Below v0.heap.size v0 W → Lks W v0.heap.size (some ⟨g, 0, none⟩) 2 [xa, xb]) := Lib.hid (fun W hW => HL0.out.below hW (Nat.le_refl _))
  have HR : Hid (∀ W, Below v0.heap.size v0 W → W.rangeAt g 0 (lc xa) ∧ W.rangeAt g 71 (lc xb)) := Lib.hid (fun W hW => by
    obtain ⟨b, off, x, hA, _, hx, _, hr⟩ := (HLL.out W hW).at_ (k := 0) (by omega)
    obtain ⟨b', off', x', hA', _, hx', _, hr'⟩ := (HLL.out W hW).at_ (k := 1) (by omega)
    injection hA with hA; injection hA with q1 q2; subst q1 q2
    injection hA' with hA'; injection hA' with q1 q2; subst q1 q2
    have e1 : x = xa := by have := hx.out; simpa using this.symm
    have e2 : x' = xb := by have := hx'.out; simpa using this.symm
    rw [e1] at hr
    rw [e2] at hr'
    exact ⟨by simpa using hr, by simpa using hr'⟩)
  have HFV := Lib.hid (HF0.out.below B1.out HF0.out.lt)
  have HKV := Lib.hid (HK0.out.below B1.out HK0.out.lt)
  have hd3 : d ≤ 9223372036854775807 := by unfold maxLen at hdm; exact hdm
  have HZN : Hid (∀ W, (binOp .neq 24 (.agg (vals zT).toArray) (.agg (vals zT).toArray)).run Tryd.prog W = .ok (.bool false) W) := Lib.hid (fun W => by rw [run_tagNe zT zT zT_len zT_len W, eqB_self]; rfl)
  clear HO HO' hgb HL0 HCH
  have G1 := B0
  have G2 := B0
  have G3 := B0
  have G4 := B0
  have G5 := B0
  go_upto_region 4 with (first
      | (have g := G1; clear g; go_at_call 14; refine (check_val 0 (Lks.nil (A := none) (B := 0)) rfl (Nat.zero_le _) (by omega) (by omega) (by simp [maxLen]) HFV.out HKV.out).mono ?_; rintro e v1 ⟨rfl, hb⟩; have P1 := Lib.hid (P0.out.trans (hb.mono P0.out.size)); clear hb G1)
      | (have g := G2; clear g; go_at_call 11; refine (head_val 0 zT (Lks.nil (A := none) (B := 0)) rfl (Nat.zero_le _) (by simp [maxLen])).mono ?_; rintro e v2 ⟨rfl, hb⟩; have P2 := Lib.hid (P1.out.trans (hb.mono P1.out.size)); clear hb G2)
      | (have g := G3; clear g; refine wpList_execG (op := ⟨some 17, .build 24 #[], _, _, _, some (2, false)⟩) (by rfl) (.agg (vals zT).toArray) (by kernel_rfl) ?_; clear G3)
      | (have g := G4; clear g; refine wpList_execG (op := ⟨some 18, .binOp .neq 24 (.tmp 16) (.tmp 17) 24, _, _, _, some (2, false)⟩) (by rfl) (.bool false) (exec_cmp .neq 24 (.tmp 16) (.tmp 17) _ _ rfl rfl rfl Tryd.eqGuardType24 (HZN.out _)) ?_; clear G4)
      | (have g := G5; clear g; go_at_call 14; refine (check_val 0 (HLL.out v2 P2.out) C2.out P2.out.size (by omega) hd2 hdm (HFV.out.below P2.out HFV.out.lt) (HKV.out.below P2.out HKV.out.lt)).mono ?_; rintro e v3 ⟨rfl, hb⟩; have P3 := Lib.hid (P2.out.trans (hb.mono P2.out.size)); clear hb G5))
  have G1 := B0
  have G2 := B0
  go_upto_region 5 with (first
      | (have g := G1; clear g; go_at_call 13; refine (at_yes (k := 1) d (HLL.out v3 P3.out) P3.out.size (by simp [maxLen]) xb rfl).mono ?_; rintro e v4 ⟨rfl, hb⟩; have P4 := Lib.hid (P3.out.trans (hb.mono P3.out.size)); have TH4 := Lib.hid (lthere_new v4 xb 26 _ rfl); clear hb G1)
      | (have g := G2; clear g; refine wpList_store_as (op := ⟨none, .store 26 (.tmp 2) (.tmp 33), _, _, _, _⟩) rfl 26 (.tmp 2) (.tmp 33) rfl (v4.heap.size) 0 (lc xb).toArray rfl rfl (TH4.out) (lk_sizeA xb) (lk_one xb) ?_; intro v5 hw_v5; clear G2))
  obtain ⟨y5, b5, s5⟩ := lbox_stored rfl hw_v5
  have P5 := Lib.hid (P4.out.trans (b5.mono P4.out.size))
  have HXB : Hid (∀ W, Below v5.heap.size v5 W → LBox W v4.heap.size xb) := Lib.hid (fun W hW => y5.grow hW)
  clear hw_v5 y5 b5 s5
  have G1 := B0
  have G2 := B0
  go_upto_region 6 with (first
      | (have g := G1; clear g; go_at_call 13; refine (at_high (w := v5) (some ⟨g, 0, none⟩) 2 d 3 (by omega) (by omega) (by simp [maxLen])).mono ?_; rintro e v6 ⟨rfl, hb⟩; have T6 := Lib.hid hb; have TH6 := Lib.hid (lthere_new v6 l0 26 _ rfl); clear hb G1)
      | (have g := G2; clear g; refine wpList_store_as (op := ⟨none, .store 26 (.tmp 4) (.tmp 38), _, _, _, _⟩) rfl 26 (.tmp 4) (.tmp 38) rfl (v6.heap.size) 0 (lc l0).toArray rfl rfl (TH6.out) (lk_sizeA l0) (lk_one l0) ?_; intro v7 hw_v7; clear G2))
  obtain ⟨_, b7, _⟩ := lbox_stored rfl hw_v7
  have T7 := Lib.hid (T6.out.trans (b7.mono T6.out.size))
  clear hw_v7 b7
  have G1 := B0
  have G2 := B0
  go_upto_region 7 with (first
      | (have g := G1; clear g; go_at_call 13; refine (at_low (w := v7) (some ⟨g, 0, none⟩) 2 d 0 (by omega) (by simp [maxLen])).mono ?_; rintro e v8 ⟨rfl, hb⟩; have T8 := Lib.hid (T7.out.trans (hb.mono T7.out.size)); have TH8 := Lib.hid (lthere_new v8 l0 26 _ rfl); clear hb G1)
      | (have g := G2; clear g; refine wpList_store_as (op := ⟨none, .store 26 (.tmp 6) (.tmp 43), _, _, _, _⟩) rfl 26 (.tmp 6) (.tmp 43) rfl (v8.heap.size) 0 (lc l0).toArray rfl rfl (TH8.out) (lk_sizeA l0) (lk_one l0) ?_; intro v9 hw_v9; clear G2))
  obtain ⟨_, b9, _⟩ := lbox_stored rfl hw_v9
  have T9 := Lib.hid (T8.out.trans (b9.mono T8.out.size))
  have P9 := Lib.hid (P5.out.trans (T9.out.mono P5.out.size))
  clear hw_v9 b9 zk zs zn
  have O10 := Lib.hid (own_noneA v9 v9.heap.size (Nat.le_refl _))
  have P10 : Hid (Below v9.heap.size v9 (v9.alloc (.cells #[] 26))) := Lib.hid ((Below.refl _ _).alloc (Nat.le_refl _) _)
  have HL10 := Lib.hid (HLL.out _ (P9.out.trans (P10.out.mono P9.out.size)))
  have G1 := B0
  go_upto_region 8 with (first
      | (have g := G1; clear g; at_builtin; refine wpList_newL (B := v0.heap.size) rfl (.tmp 45) (.tmp 46) rfl rfl O10.out rfl HL10.out (by omega) P10.out.size ?_; intro D11 d11 v11 ho11 hb11; have P11 := Lib.hid (P10.out.trans (hb11.mono P10.out.size)); have HO11 := Lib.hid ho11; clear G1 ho11 hb11))
  have HO11' := HO11.out
  obtain ⟨g7, cap7, hv7, hgb7, hgl7⟩ := HO11'.form (by omega)
  injection hv7 with e1 e2 e3
  subst e1 e3
  obtain ⟨_, _, q, hnd7, hdm7⟩ := own_shapeA HO11'
  injection q with q1 q2 q3
  subst q1
  subst q3
  have m4 : v11.cell? ⟨g7, 4, none⟩ = some (.int .i64 2) := by
    rw [← C9.out]
    exact HO11'.cells (g := g7) rfl 4 _ rfl
  have f4 : v11.frozen? ⟨g7, 4, none⟩ = false := HO11'.frozenAt 4
  have HST := Lib.hid (HO11'.stored 4 (.int .i64 3)).1
  have hl7 : (lvs [xa, xb]).set 4 (.int .i64 3) = lvs [xc, xb] := by
    have := lvs_set [xa, xb] 0 xa xc 4 (.int .i64 3) rfl (by omega) C10.out
    simpa using this
  have B11 : Hid (Below v9.heap.size v9 (v11.setCell ⟨g7, 4, none⟩ (.int .i64 3))) := Lib.hid (P11.out.setCell (by show v9.heap.size ≤ g7; omega) _)
  have HL7 := Lib.hid hl7
  clear hl7 HO11 HO11' hgl7
  go_upto_region 9 with fail
  obtain ⟨W9, hW9⟩ : ∃ W, v11.setCell ⟨g7, 4, none⟩ (.int .i64 3) = W := ⟨_, rfl⟩
  rw [hW9] at HST B11
  rw [hW9]
  have HST' := HST.out
  rw [HL7.out] at HST'
  have HM := Lib.hid (lks_of_own HST' (fun y hy => by
    simp only [List.mem_cons, List.not_mem_nil, or_false] at hy
    rcases hy with rfl | rfl
    · exact OKC.out
    · exact OKL.out _ (by simp)))
  have Q9 := Lib.hid (P9.out.trans (B11.out.mono P9.out.size))
  have C0 : Hid (Below W9.heap.size W9 W9.drew) := Lib.hid (Below.refl _ _).drew
  have HX9 : Hid (∀ W, Below W9.heap.size W9 W → LBox W v4.heap.size xb) := Lib.hid (fun W hW => HXB.out W ((T9.out.trans (B11.out.mono T9.out.size)).trans (hW.mono (Nat.le_trans T9.out.size B11.out.size))))
  have HC9 : Hid (∀ W, Below W9.heap.size W9 W → W.cell? ⟨v4.heap.size, 1, none⟩ = some (.int .i64 5)) := Lib.hid (fun W hW => by rw [← C8.out]; exact (range_nums (HX9.out W hW).range).2.1)
  have HR9 : Hid (∀ W, Below W9.heap.size W9 W → W.rangeAt g 0 (lc xa) ∧ W.rangeAt g 71 (lc xb)) := Lib.hid (fun W hW => HR.out W (Q9.out.trans (hW.mono Q9.out.size)))
  have HL9 : Hid (∀ W, Below W9.heap.size W9 W → Lks W W.heap.size (some ⟨g, 0, none⟩) 2 [xa, xb]) := Lib.hid (fun W hW => (HLL.out W (Q9.out.trans (hW.mono Q9.out.size))).more (Nat.le_trans Q9.out.size hW.size))
  have HT9 : Hid (∀ W, Below W9.heap.size W9 W → Lks W W.heap.size (some ⟨g, 71, none⟩) 1 [xb]) := Lib.hid (fun W hW => by have := (HL9.out W hW).tail1 (by omega); simpa using this)
  have HM9 : Hid (∀ W, Below W9.heap.size W9 W → Lks W W.heap.size (some ⟨g7, 0, none⟩) 2 [xc, xb]) := Lib.hid (fun W hW => HM.out.grow hW)
  have HF9 := Lib.hid (HFV.out.below Q9.out HFV.out.lt)
  have HK9 := Lib.hid (HKV.out.below Q9.out HKV.out.lt)
  have HCUT := Lib.hid (cut_1L g 0 2 d (by omega) hd2 (by omega))
  have k6 := C6.out
  have k7 := C7.out
  have k11 := C11.out
  have hb9 : Hid (Below w.heap.size w W9) := Lib.hid ((B1.out.mono (Nat.le_refl _)).trans (Q9.out.mono B1.out.size))
  clear HST HST' m4 f4 hW9 HXB HR HLL HM T7 T8 T6 P1 P2 P3 P4 P5 P10 P11 TH4 TH6 TH8 O10 HL10 T9 P9 B11 Q9
  refine Late.region (fun w' => Below W9.heap.size W9 w') [] (by kernel_rfl) C0.out (fun hHeld => ?_)
  refine Late.take (i := 0) (oi := ⟨some 51, Op.move (Operand.tmp 3), _, _, _, _⟩) (v := ?_) rfl (by kernel_rfl) (by kernel_rfl) (by kernel_rfl) (by kernel_rfl) (fun _ _ _ h => h) (Or.inl ⟨by rfl, fun w hSw => ?_⟩) (by assumption) ?_
  rotate_left
  · (have s1 := hSw; go_simp; try with_reducible rfl)
  try simp only [Act.put, List.setIfInBounds_toArray, List.set_cons_zero, List.set_cons_succ]
  refine Late.take (i := 1) (oi := ⟨some 52, Op.binOp BinOp.eql 33 (Operand.tmp 51) (Operand.const (Value.int IntKind.i64 0)) 33, _, _, _, _⟩) (v := ?_) rfl (by kernel_rfl) (by kernel_rfl) (by kernel_rfl) (by kernel_rfl) (fun _ _ _ h => h) (Or.inl ⟨by rfl, fun w hSw => ?_⟩) (by assumption) ?_
  rotate_left
  · (have s1 := hSw; go_simp; try with_reducible rfl)
  try simp only [Act.put, List.setIfInBounds_toArray, List.set_cons_zero, List.set_cons_succ]
  refine Late.take (i := 2) (oi := ⟨some 53, Op.move (Operand.tmp 52), _, _, _, _⟩) (v := ?_) rfl (by kernel_rfl) (by kernel_rfl) (by kernel_rfl) (by kernel_rfl) (fun _ _ _ h => h) (Or.inl ⟨by rfl, fun w hSw => ?_⟩) (by assumption) ?_
  rotate_left
  · (have s1 := hSw; go_simp; try with_reducible rfl)
  try simp only [Act.put, List.setIfInBounds_toArray, List.set_cons_zero, List.set_cons_succ]
  refine Late.take (i := 3) (oi := ⟨some 54, Op.load 26 (Operand.tmp 2), _, _, _, _⟩) (v := _) rfl (by kernel_rfl) (by kernel_rfl) (by kernel_rfl) (by kernel_rfl) (fun _ _ _ h => h) (yieldsIf_load_mid (by rfl) _ _ rfl _ _ rfl (lc xb) _ (fun W hW => (HX9.out W hW).range) Tryd.underlying26 rfl (lk_size xb)) (by assumption) ?_
  try simp only [Act.put, List.setIfInBounds_toArray, List.set_cons_zero, List.set_cons_succ]
  refine Late.take (i := 4) (oi := ⟨some 55, Op.move (Operand.tmp 1), _, _, _, _⟩) (v := ?_) rfl (by kernel_rfl) (by kernel_rfl) (by kernel_rfl) (by kernel_rfl) (fun _ _ _ h => h) (Or.inl ⟨by rfl, fun w hSw => ?_⟩) (by assumption) ?_
  rotate_left
  · (have s1 := hSw; go_simp; try with_reducible rfl)
  try simp only [Act.put, List.setIfInBounds_toArray, List.set_cons_zero, List.set_cons_succ]
  refine Late.take (i := 5) (oi := ⟨some 56, Op.indexAddr 22 (Operand.tmp 55) (Operand.const (Value.int IntKind.i64 1)), _, _, _, _⟩) (v := ?_) rfl (by kernel_rfl) (by kernel_rfl) (by kernel_rfl) (by kernel_rfl) (fun _ _ _ h => h) (Or.inl ⟨by rfl, fun w hSw => ?_⟩) (by assumption) ?_
  rotate_left
  · (have s1 := hSw; go_simp; try with_reducible rfl)
  try simp only [Act.put, List.setIfInBounds_toArray, List.set_cons_zero, List.set_cons_succ]
  refine Late.take (i := 6) (oi := ⟨some 57, Op.load 26 (Operand.tmp 56), _, _, _, _⟩) (v := _) rfl (by kernel_rfl) (by kernel_rfl) (by kernel_rfl) (by kernel_rfl) (fun _ _ _ h => h) (yieldsIf_load_mid (by rfl) _ _ rfl _ _ rfl (lc xb) _ (fun W hW => (HR9.out W hW).2) Tryd.underlying26 rfl (lk_size xb)) (by assumption) ?_
  try simp only [Act.put, List.setIfInBounds_toArray, List.set_cons_zero, List.set_cons_succ]
  refine Late.take (i := 7) (oi := ⟨some 58, Op.binOp BinOp.eql 26 (Operand.tmp 54) (Operand.tmp 57) 26, _, _, _, _⟩) (v := .bool true) rfl (by kernel_rfl) (by kernel_rfl) (by kernel_rfl) (by kernel_rfl) (fun _ _ _ h => h) (Or.inl ⟨by rfl, fun w hSw => ?_⟩) (by assumption) ?_
  · (have hn := run_lkEq xb w; simp [execOp, Act.eval, hn, run_eqGuard_agg (hm := Tryd.eqGuardType26)])
  try simp only [Act.put, List.setIfInBounds_toArray, List.set_cons_zero, List.set_cons_succ]
  refine Late.take (i := 8) (oi := ⟨some 59, Op.pick (Operand.tmp 53) (Operand.tmp 58) (Operand.const (Value.bool false)), _, _, _, _⟩) (v := ?_) rfl (by kernel_rfl) (by kernel_rfl) (by kernel_rfl) (by kernel_rfl) (fun _ _ _ h => h) (Or.inl ⟨by rfl, fun w hSw => ?_⟩) (by assumption) ?_
  rotate_left
  · (have s1 := hSw; go_simp; try with_reducible rfl)
  try simp only [Act.put, List.setIfInBounds_toArray, List.set_cons_zero, List.set_cons_succ]
  refine Late.take (i := 9) (oi := ⟨some 60, Op.move (Operand.tmp 59), _, _, _, _⟩) (v := ?_) rfl (by kernel_rfl) (by kernel_rfl) (by kernel_rfl) (by kernel_rfl) (fun _ _ _ h => h) (Or.inl ⟨by rfl, fun w hSw => ?_⟩) (by assumption) ?_
  rotate_left
  · (have s1 := hSw; go_simp; try with_reducible rfl)
  try simp only [Act.put, List.setIfInBounds_toArray, List.set_cons_zero, List.set_cons_succ]
  refine Late.take (i := 10) (oi := ⟨some 61, Op.fieldAddr 26 (Operand.tmp 2) 1, _, _, _, _⟩) (v := ?_) rfl (by kernel_rfl) (by kernel_rfl) (by kernel_rfl) (by kernel_rfl) (fun _ _ _ h => h) (Or.inl ⟨by rfl, fun w hSw => ?_⟩) (by assumption) ?_
  rotate_left
  · (have s1 := hSw; go_simp; try with_reducible rfl)
  try simp only [Act.put, List.setIfInBounds_toArray, List.set_cons_zero, List.set_cons_succ]
  refine Late.take (i := 11) (oi := ⟨some 62, Op.load 3 (Operand.tmp 61), _, _, _, _⟩) (v := ?_) rfl (by kernel_rfl) (by kernel_rfl) (by kernel_rfl) (by kernel_rfl) (fun _ _ _ h => h) (Or.inl ⟨by rfl, fun w hSw => ?_⟩) (by assumption) ?_
  rotate_left
  · (have s1 := hSw; have d0 := HC9.out _ hSw; go_simp; try with_reducible rfl)
  try simp only [Act.put, List.setIfInBounds_toArray, List.set_cons_zero, List.set_cons_succ]
  refine Late.take (i := 12) (oi := ⟨some 63, Op.binOp BinOp.eql 3 (Operand.tmp 62) (Operand.const (Value.int IntKind.i64 5)) 3, _, _, _, _⟩) (v := ?_) rfl (by kernel_rfl) (by kernel_rfl) (by kernel_rfl) (by kernel_rfl) (fun _ _ _ h => h) (Or.inl ⟨by rfl, fun w hSw => ?_⟩) (by assumption) ?_
  rotate_left
  · (have s1 := hSw; go_simp; try with_reducible rfl)
  try simp only [Act.put, List.setIfInBounds_toArray, List.set_cons_zero, List.set_cons_succ]
  refine Late.take (i := 13) (oi := ⟨some 64, Op.pick (Operand.tmp 60) (Operand.tmp 63) (Operand.const (Value.bool false)), _, _, _, _⟩) (v := ?_) rfl (by kernel_rfl) (by kernel_rfl) (by kernel_rfl) (by kernel_rfl) (fun _ _ _ h => h) (Or.inl ⟨by rfl, fun w hSw => ?_⟩) (by assumption) ?_
  rotate_left
  · (have s1 := hSw; go_simp; try with_reducible rfl)
  try simp only [Act.put, List.setIfInBounds_toArray, List.set_cons_zero, List.set_cons_succ]
  refine Late.take (i := 14) (oi := ⟨some 65, Op.move (Operand.tmp 64), _, _, _, _⟩) (v := ?_) rfl (by kernel_rfl) (by kernel_rfl) (by kernel_rfl) (by kernel_rfl) (fun _ _ _ h => h) (Or.inl ⟨by rfl, fun w hSw => ?_⟩) (by assumption) ?_
  rotate_left
  · (have s1 := hSw; go_simp; try with_reducible rfl)
  try simp only [Act.put, List.setIfInBounds_toArray, List.set_cons_zero, List.set_cons_succ]
  refine Late.take (i := 15) (oi := ⟨some 66, Op.move (Operand.tmp 5), _, _, _, _⟩) (v := ?_) rfl (by kernel_rfl) (by kernel_rfl) (by kernel_rfl) (by kernel_rfl) (fun _ _ _ h => h) (Or.inl ⟨by rfl, fun w hSw => ?_⟩) (by assumption) ?_
  rotate_left
  · (have s1 := hSw; go_simp; try with_reducible rfl)
  try simp only [Act.put, List.setIfInBounds_toArray, List.set_cons_zero, List.set_cons_succ]
  refine Late.take (i := 16) (oi := ⟨some 67, Op.binOp BinOp.eql 33 (Operand.tmp 66) (Operand.const (Value.int IntKind.i64 130)) 33, _, _, _, _⟩) (v := ?_) rfl (by kernel_rfl) (by kernel_rfl) (by kernel_rfl) (by kernel_rfl) (fun _ _ _ h => h) (Or.inl ⟨by rfl, fun w hSw => ?_⟩) (by assumption) ?_
  rotate_left
  · (have s1 := hSw; go_simp; try with_reducible rfl)
  try simp only [Act.put, List.setIfInBounds_toArray, List.set_cons_zero, List.set_cons_succ]
  refine Late.take (i := 17) (oi := ⟨some 68, Op.pick (Operand.tmp 65) (Operand.tmp 67) (Operand.const (Value.bool false)), _, _, _, _⟩) (v := ?_) rfl (by kernel_rfl) (by kernel_rfl) (by kernel_rfl) (by kernel_rfl) (fun _ _ _ h => h) (Or.inl ⟨by rfl, fun w hSw => ?_⟩) (by assumption) ?_
  rotate_left
  · (have s1 := hSw; go_simp; try with_reducible rfl)
  try simp only [Act.put, List.setIfInBounds_toArray, List.set_cons_zero, List.set_cons_succ]
  refine Late.take (i := 18) (oi := ⟨some 69, Op.move (Operand.tmp 68), _, _, _, _⟩) (v := ?_) rfl (by kernel_rfl) (by kernel_rfl) (by kernel_rfl) (by kernel_rfl) (fun _ _ _ h => h) (Or.inl ⟨by rfl, fun w hSw => ?_⟩) (by assumption) ?_
  rotate_left
  · (have s1 := hSw; go_simp; try with_reducible rfl)
  try simp only [Act.put, List.setIfInBounds_toArray, List.set_cons_zero, List.set_cons_succ]
  refine Late.take (i := 19) (oi := ⟨some 70, Op.move (Operand.tmp 7), _, _, _, _⟩) (v := ?_) rfl (by kernel_rfl) (by kernel_rfl) (by kernel_rfl) (by kernel_rfl) (fun _ _ _ h => h) (Or.inl ⟨by rfl, fun w hSw => ?_⟩) (by assumption) ?_
  rotate_left
  · (have s1 := hSw; go_simp; try with_reducible rfl)
  try simp only [Act.put, List.setIfInBounds_toArray, List.set_cons_zero, List.set_cons_succ]
  refine Late.take (i := 20) (oi := ⟨some 71, Op.binOp BinOp.eql 33 (Operand.tmp 70) (Operand.const (Value.int IntKind.i64 130)) 33, _, _, _, _⟩) (v := ?_) rfl (by kernel_rfl) (by kernel_rfl) (by kernel_rfl) (by kernel_rfl) (fun _ _ _ h => h) (Or.inl ⟨by rfl, fun w hSw => ?_⟩) (by assumption) ?_
  rotate_left
  · (have s1 := hSw; go_simp; try with_reducible rfl)
  try simp only [Act.put, List.setIfInBounds_toArray, List.set_cons_zero, List.set_cons_succ]
  refine Late.take (i := 21) (oi := ⟨some 72, Op.pick (Operand.tmp 69) (Operand.tmp 71) (Operand.const (Value.bool false)), _, _, _, _⟩) (v := ?_) rfl (by kernel_rfl) (by kernel_rfl) (by kernel_rfl) (by kernel_rfl) (fun _ _ _ h => h) (Or.inl ⟨by rfl, fun w hSw => ?_⟩) (by assumption) ?_
  rotate_left
  · (have s1 := hSw; go_simp; try with_reducible rfl)
  try simp only [Act.put, List.setIfInBounds_toArray, List.set_cons_zero, List.set_cons_succ]
  refine Late.take (i := 22) (oi := ⟨some 73, Op.move (Operand.tmp 72), _, _, _, _⟩) (v := ?_) rfl (by kernel_rfl) (by kernel_rfl) (by kernel_rfl) (by kernel_rfl) (fun _ _ _ h => h) (Or.inl ⟨by rfl, fun w hSw => ?_⟩) (by assumption) ?_
  rotate_left
  · (have s1 := hSw; go_simp; try with_reducible rfl)
  try simp only [Act.put, List.setIfInBounds_toArray, List.set_cons_zero, List.set_cons_succ]
  refine Late.take (i := 23) (oi := ⟨some 74, Op.move (Operand.tmp 8), _, _, _, _⟩) (v := ?_) rfl (by kernel_rfl) (by kernel_rfl) (by kernel_rfl) (by kernel_rfl) (fun _ _ _ h => h) (Or.inl ⟨by rfl, fun w hSw => ?_⟩) (by assumption) ?_
  rotate_left
  · (have s1 := hSw; go_simp; try with_reducible rfl)
  try simp only [Act.put, List.setIfInBounds_toArray, List.set_cons_zero, List.set_cons_succ]
  refine Late.one (i := 24) (o := ⟨some 75, Op.call { callee := Callee.value (Operand.func 14), args := #[Operand.tmp 74], argTypes := #[22] }, _, _, _, _⟩) (by kernel_rfl) rfl (fun K hK => ?_)
  go_simp
  refine (check_val 1 (HM9.out _ C0.out) C3.out (Nat.le_refl _) (by omega) hnd7 hdm7 (HF9.out.below C0.out HF9.out.lt) (HK9.out.below C0.out HK9.out.lt)).mono ?_
  rintro e u1 ⟨rfl, hb⟩
  have C1a := Lib.hid (C0.out.trans (hb.mono C0.out.size))
  clear hb
  refine hK.out _ _ (C1a.out) (fun hHeld2 => ?_)
  clear hK K hHeld
  have hHeld := hHeld2
  clear hHeld2
  try simp only [Act.put, List.setIfInBounds_toArray, List.set_cons_zero, List.set_cons_succ]
  refine Late.take (i := 25) (oi := ⟨some 76, Op.binOp BinOp.eql 3 (Operand.tmp 75) (Operand.const (Value.int IntKind.i64 1)) 3, _, _, _, _⟩) (v := ?_) rfl (by kernel_rfl) (by kernel_rfl) (by kernel_rfl) (by kernel_rfl) (fun _ _ _ h => h) (Or.inl ⟨by rfl, fun w hSw => ?_⟩) (by assumption) ?_
  rotate_left
  · (have s1 := hSw; go_simp; try with_reducible rfl)
  try simp only [Act.put, List.setIfInBounds_toArray, List.set_cons_zero, List.set_cons_succ]
  refine Late.take (i := 26) (oi := ⟨some 77, Op.pick (Operand.tmp 73) (Operand.tmp 76) (Operand.const (Value.bool false)), _, _, _, _⟩) (v := ?_) rfl (by kernel_rfl) (by kernel_rfl) (by kernel_rfl) (by kernel_rfl) (fun _ _ _ h => h) (Or.inl ⟨by rfl, fun w hSw => ?_⟩) (by assumption) ?_
  rotate_left
  · (have s1 := hSw; go_simp; try with_reducible rfl)
  try simp only [Act.put, List.setIfInBounds_toArray, List.set_cons_zero, List.set_cons_succ]
  refine Late.take (i := 27) (oi := ⟨some 78, Op.move (Operand.tmp 77), _, _, _, _⟩) (v := ?_) rfl (by kernel_rfl) (by kernel_rfl) (by kernel_rfl) (by kernel_rfl) (fun _ _ _ h => h) (Or.inl ⟨by rfl, fun w hSw => ?_⟩) (by assumption) ?_
  rotate_left
  · (have s1 := hSw; go_simp; try with_reducible rfl)
  try simp only [Act.put, List.setIfInBounds_toArray, List.set_cons_zero, List.set_cons_succ]
  refine Late.take (i := 28) (oi := ⟨some 79, Op.move (Operand.tmp 1), _, _, _, _⟩) (v := ?_) rfl (by kernel_rfl) (by kernel_rfl) (by kernel_rfl) (by kernel_rfl) (fun _ _ _ h => h) (Or.inl ⟨by rfl, fun w hSw => ?_⟩) (by assumption) ?_
  rotate_left
  · (have s1 := hSw; go_simp; try with_reducible rfl)
  try simp only [Act.put, List.setIfInBounds_toArray, List.set_cons_zero, List.set_cons_succ]
  refine Late.take (i := 29) (oi := ⟨some 80, Op.slice 22 (Operand.tmp 79) (some (Operand.const (Value.int IntKind.i64 1))) none none, _, _, _, _⟩) (v := .slice (some ⟨g, 0 + 71, none⟩) (2 - 1) (d - 1)) rfl (by kernel_rfl) (by kernel_rfl) (by kernel_rfl) (by kernel_rfl) (fun _ _ _ h => h) (Or.inl ⟨by rfl, fun w hSw => ?_⟩) (by assumption) ?_
  · (have hn := HCUT.out w; simp [execOp, Act.eval, Instr.sliceAt, hn])
  try simp only [Act.put, List.setIfInBounds_toArray, List.set_cons_zero, List.set_cons_succ]
  refine Late.one (i := 30) (o := ⟨some 81, Op.call { callee := Callee.value (Operand.func 14), args := #[Operand.tmp 80], argTypes := #[22] }, _, _, _, _⟩) (by kernel_rfl) rfl (fun K hK => ?_)
  go_simp
  refine (check_val 1 (HT9.out _ C1a.out) C4.out (Nat.le_refl _) (by omega) (by omega) (by omega) (HF9.out.below C1a.out HF9.out.lt) (HK9.out.below C1a.out HK9.out.lt)).mono ?_
  rintro e u2 ⟨rfl, hb⟩
  have C2a := Lib.hid (C1a.out.trans (hb.mono C1a.out.size))
  clear hb
  refine hK.out _ _ (C2a.out) (fun hHeld2 => ?_)
  clear hK K hHeld
  have hHeld := hHeld2
  clear hHeld2
  try simp only [Act.put, List.setIfInBounds_toArray, List.set_cons_zero, List.set_cons_succ]
  refine Late.take (i := 31) (oi := ⟨some 82, Op.binOp BinOp.eql 3 (Operand.tmp 81) (Operand.const (Value.int IntKind.i64 1)) 3, _, _, _, _⟩) (v := ?_) rfl (by kernel_rfl) (by kernel_rfl) (by kernel_rfl) (by kernel_rfl) (fun _ _ _ h => h) (Or.inl ⟨by rfl, fun w hSw => ?_⟩) (by assumption) ?_
  rotate_left
  · (have s1 := hSw; go_simp; try with_reducible rfl)
  try simp only [Act.put, List.setIfInBounds_toArray, List.set_cons_zero, List.set_cons_succ]
  refine Late.take (i := 32) (oi := ⟨some 83, Op.pick (Operand.tmp 78) (Operand.tmp 82) (Operand.const (Value.bool false)), _, _, _, _⟩) (v := ?_) rfl (by kernel_rfl) (by kernel_rfl) (by kernel_rfl) (by kernel_rfl) (fun _ _ _ h => h) (Or.inl ⟨by rfl, fun w hSw => ?_⟩) (by assumption) ?_
  rotate_left
  · (have s1 := hSw; go_simp; try with_reducible rfl)
  try simp only [Act.put, List.setIfInBounds_toArray, List.set_cons_zero, List.set_cons_succ]
  refine Late.take (i := 33) (oi := ⟨some 84, Op.move (Operand.tmp 83), _, _, _, _⟩) (v := ?_) rfl (by kernel_rfl) (by kernel_rfl) (by kernel_rfl) (by kernel_rfl) (fun _ _ _ h => h) (Or.inl ⟨by rfl, fun w hSw => ?_⟩) (by assumption) ?_
  rotate_left
  · (have s1 := hSw; go_simp; try with_reducible rfl)
  try simp only [Act.put, List.setIfInBounds_toArray, List.set_cons_zero, List.set_cons_succ]
  refine Late.take (i := 34) (oi := ⟨some 85, Op.move (Operand.tmp 1), _, _, _, _⟩) (v := ?_) rfl (by kernel_rfl) (by kernel_rfl) (by kernel_rfl) (by kernel_rfl) (fun _ _ _ h => h) (Or.inl ⟨by rfl, fun w hSw => ?_⟩) (by assumption) ?_
  rotate_left
  · (have s1 := hSw; go_simp; try with_reducible rfl)
  try simp only [Act.put, List.setIfInBounds_toArray, List.set_cons_zero, List.set_cons_succ]
  refine Late.take (i := 36) (oi := ⟨some 87, Op.move (Operand.tmp 1), _, _, _, _⟩) (v := ?_) rfl (by kernel_rfl) (by kernel_rfl) (by kernel_rfl) (by kernel_rfl) (fun _ _ _ h => h) (Or.inl ⟨by rfl, fun w hSw => ?_⟩) (by assumption) ?_
  rotate_left
  · (have s1 := hSw; go_simp; try with_reducible rfl)
  try simp only [Act.put, List.setIfInBounds_toArray, List.set_cons_zero, List.set_cons_succ]
  refine Late.take (i := 37) (oi := ⟨some 88, Op.indexAddr 22 (Operand.tmp 87) (Operand.const (Value.int IntKind.i64 1)), _, _, _, _⟩) (v := ?_) rfl (by kernel_rfl) (by kernel_rfl) (by kernel_rfl) (by kernel_rfl) (fun _ _ _ h => h) (Or.inl ⟨by rfl, fun w hSw => ?_⟩) (by assumption) ?_
  rotate_left
  · (have s1 := hSw; go_simp; try with_reducible rfl)
  try simp only [Act.put, List.setIfInBounds_toArray, List.set_cons_zero, List.set_cons_succ]
  refine Late.take (i := 38) (oi := ⟨some 89, Op.fieldAddr 26 (Operand.tmp 88) 8, _, _, _, _⟩) (v := ?_) rfl (by kernel_rfl) (by kernel_rfl) (by kernel_rfl) (by kernel_rfl) (fun _ _ _ h => h) (Or.inl ⟨by rfl, fun w hSw => ?_⟩) (by assumption) ?_
  rotate_left
  · (have s1 := hSw; go_simp; try with_reducible rfl)
  try simp only [Act.put, List.setIfInBounds_toArray, List.set_cons_zero, List.set_cons_succ]
  refine Late.take (i := 39) (oi := ⟨some 90, Op.load 24 (Operand.tmp 89), _, _, _, _⟩) (v := _) rfl (by kernel_rfl) (by kernel_rfl) (by kernel_rfl) (by kernel_rfl) (fun _ _ _ h => h) (yieldsIf_load_mid (by rfl) _ _ rfl _ _ rfl (vals xb.S) _ (fun W hW => range_S (HR9.out W hW).2) Tryd.underlying24 rfl (tag_size xb.S xb.hS)) (by assumption) ?_
  try simp only [Act.put, List.setIfInBounds_toArray, List.set_cons_zero, List.set_cons_succ]
  refine Late.one (i := 35) (o := ⟨some 86, Op.call { callee := Callee.value (Operand.func 11), args := #[Operand.tmp 85], argTypes := #[22] }, _, _, _, _⟩) (by kernel_rfl) rfl (fun K hK => ?_)
  go_simp
  refine (head_val d xb.S (HL9.out _ C2a.out) C5.out (Nat.le_refl _) (by simp [maxLen])).mono ?_
  rintro e u3 ⟨rfl, hb⟩
  have C3a := Lib.hid (C2a.out.trans (hb.mono C2a.out.size))
  clear hb
  refine hK.out _ _ (C3a.out) (fun hHeld2 => ?_)
  clear hK K hHeld
  have hHeld := hHeld2
  clear hHeld2
  try simp only [Act.put, List.setIfInBounds_toArray, List.set_cons_zero, List.set_cons_succ]
  refine Late.take (i := 40) (oi := ⟨some 91, Op.binOp BinOp.eql 24 (Operand.tmp 86) (Operand.tmp 90) 24, _, _, _, _⟩) (v := .bool true) rfl (by kernel_rfl) (by kernel_rfl) (by kernel_rfl) (by kernel_rfl) (fun _ _ _ h => h) (Or.inl ⟨by rfl, fun w hSw => ?_⟩) (by assumption) ?_
  · (have hn := run_tagEq xb.S xb.S xb.hS xb.hS w; rw [show (eqB xb.S xb.S) = true by assumption] at hn; simp [execOp, Act.eval, hn, run_eqGuard_agg (hm := Tryd.eqGuardType24)])
  try simp only [Act.put, List.setIfInBounds_toArray, List.set_cons_zero, List.set_cons_succ]
  refine Late.take (i := 41) (oi := ⟨some 92, Op.pick (Operand.tmp 84) (Operand.tmp 91) (Operand.const (Value.bool false)), _, _, _, _⟩) (v := ?_) rfl (by kernel_rfl) (by kernel_rfl) (by kernel_rfl) (by kernel_rfl) (fun _ _ _ h => h) (Or.inl ⟨by rfl, fun w hSw => ?_⟩) (by assumption) ?_
  rotate_left
  · (have s1 := hSw; go_simp; try with_reducible rfl)
  try simp only [Act.put, List.setIfInBounds_toArray, List.set_cons_zero, List.set_cons_succ]
  refine Late.take (i := 42) (oi := ⟨some 93, Op.move (Operand.tmp 92), _, _, _, _⟩) (v := ?_) rfl (by kernel_rfl) (by kernel_rfl) (by kernel_rfl) (by kernel_rfl) (fun _ _ _ h => h) (Or.inl ⟨by rfl, fun w hSw => ?_⟩) (by assumption) ?_
  rotate_left
  · (have s1 := hSw; go_simp; try with_reducible rfl)
  try simp only [Act.put, List.setIfInBounds_toArray, List.set_cons_zero, List.set_cons_succ]
  refine Late.take (i := 43) (oi := ⟨some 94, Op.move (Operand.tmp 1), _, _, _, _⟩) (v := ?_) rfl (by kernel_rfl) (by kernel_rfl) (by kernel_rfl) (by kernel_rfl) (fun _ _ _ h => h) (Or.inl ⟨by rfl, fun w hSw => ?_⟩) (by assumption) ?_
  rotate_left
  · (have s1 := hSw; go_simp; try with_reducible rfl)
  try simp only [Act.put, List.setIfInBounds_toArray, List.set_cons_zero, List.set_cons_succ]
  refine Late.take (i := 44) (oi := ⟨some 95, Op.indexAddr 22 (Operand.tmp 94) (Operand.const (Value.int IntKind.i64 1)), _, _, _, _⟩) (v := ?_) rfl (by kernel_rfl) (by kernel_rfl) (by kernel_rfl) (by kernel_rfl) (fun _ _ _ h => h) (Or.inl ⟨by rfl, fun w hSw => ?_⟩) (by assumption) ?_
  rotate_left
  · (have s1 := hSw; go_simp; try with_reducible rfl)
  try simp only [Act.put, List.setIfInBounds_toArray, List.set_cons_zero, List.set_cons_succ]
  refine Late.take (i := 45) (oi := ⟨some 96, Op.fieldAddr 26 (Operand.tmp 95) 7, _, _, _, _⟩) (v := ?_) rfl (by kernel_rfl) (by kernel_rfl) (by kernel_rfl) (by kernel_rfl) (fun _ _ _ h => h) (Or.inl ⟨by rfl, fun w hSw => ?_⟩) (by assumption) ?_
  rotate_left
  · (have s1 := hSw; go_simp; try with_reducible rfl)
  try simp only [Act.put, List.setIfInBounds_toArray, List.set_cons_zero, List.set_cons_succ]
  refine Late.take (i := 46) (oi := ⟨some 97, Op.load 24 (Operand.tmp 96), _, _, _, _⟩) (v := _) rfl (by kernel_rfl) (by kernel_rfl) (by kernel_rfl) (by kernel_rfl) (fun _ _ _ h => h) (yieldsIf_load_mid (by rfl) _ _ rfl _ _ rfl (vals xb.H) _ (fun W hW => range_H (HR9.out W hW).2) Tryd.underlying24 rfl (tag_size xb.H xb.hH)) (by assumption) ?_
  try simp only [Act.put, List.setIfInBounds_toArray, List.set_cons_zero, List.set_cons_succ]
  refine Late.take (i := 47) (oi := ⟨some 98, Op.move (Operand.tmp 1), _, _, _, _⟩) (v := ?_) rfl (by kernel_rfl) (by kernel_rfl) (by kernel_rfl) (by kernel_rfl) (fun _ _ _ h => h) (Or.inl ⟨by rfl, fun w hSw => ?_⟩) (by assumption) ?_
  rotate_left
  · (have s1 := hSw; go_simp; try with_reducible rfl)
  try simp only [Act.put, List.setIfInBounds_toArray, List.set_cons_zero, List.set_cons_succ]
  refine Late.take (i := 48) (oi := ⟨some 99, Op.indexAddr 22 (Operand.tmp 98) (Operand.const (Value.int IntKind.i64 0)), _, _, _, _⟩) (v := ?_) rfl (by kernel_rfl) (by kernel_rfl) (by kernel_rfl) (by kernel_rfl) (fun _ _ _ h => h) (Or.inl ⟨by rfl, fun w hSw => ?_⟩) (by assumption) ?_
  rotate_left
  · (have s1 := hSw; go_simp; try with_reducible rfl)
  try simp only [Act.put, List.setIfInBounds_toArray, List.set_cons_zero, List.set_cons_succ]
  refine Late.take (i := 49) (oi := ⟨some 100, Op.fieldAddr 26 (Operand.tmp 99) 8, _, _, _, _⟩) (v := ?_) rfl (by kernel_rfl) (by kernel_rfl) (by kernel_rfl) (by kernel_rfl) (fun _ _ _ h => h) (Or.inl ⟨by rfl, fun w hSw => ?_⟩) (by assumption) ?_
  rotate_left
  · (have s1 := hSw; go_simp; try with_reducible rfl)
  try simp only [Act.put, List.setIfInBounds_toArray, List.set_cons_zero, List.set_cons_succ]
  refine Late.take (i := 50) (oi := ⟨some 101, Op.load 24 (Operand.tmp 100), _, _, _, _⟩) (v := _) rfl (by kernel_rfl) (by kernel_rfl) (by kernel_rfl) (by kernel_rfl) (fun _ _ _ h => h) (yieldsIf_load_mid (by rfl) _ _ rfl _ _ rfl (vals xa.S) _ (fun W hW => by have := range_S (HR9.out W hW).1; rwa [Nat.zero_add] at this) Tryd.underlying24 rfl (tag_size xa.S xa.hS)) (by assumption) ?_
  try simp only [Act.put, List.setIfInBounds_toArray, List.set_cons_zero, List.set_cons_succ]
  refine Late.take (i := 51) (oi := ⟨some 102, Op.binOp BinOp.eql 24 (Operand.tmp 97) (Operand.tmp 101) 24, _, _, _, _⟩) (v := .bool true) rfl (by kernel_rfl) (by kernel_rfl) (by kernel_rfl) (by kernel_rfl) (fun _ _ _ h => h) (Or.inl ⟨by rfl, fun w hSw => ?_⟩) (by assumption) ?_
  · (have hn := run_tagEq xb.H xa.S xb.hH xa.hS w; rw [show (eqB xb.H xa.S) = true by assumption] at hn; simp [execOp, Act.eval, hn, run_eqGuard_agg (hm := Tryd.eqGuardType24)])
  try simp only [Act.put, List.setIfInBounds_toArray, List.set_cons_zero, List.set_cons_succ]
  refine Late.take (i := 52) (oi := ⟨some 103, Op.pick (Operand.tmp 93) (Operand.tmp 102) (Operand.const (Value.bool false)), _, _, _, _⟩) (v := ?_) rfl (by kernel_rfl) (by kernel_rfl) (by kernel_rfl) (by kernel_rfl) (fun _ _ _ h => h) (Or.inl ⟨by rfl, fun w hSw => ?_⟩) (by assumption) ?_
  rotate_left
  · (have s1 := hSw; go_simp; try with_reducible rfl)
  try simp only [Act.put, List.setIfInBounds_toArray, List.set_cons_zero, List.set_cons_succ]
  refine Late.take (i := 53) (oi := ⟨some 104, Op.move (Operand.tmp 103), _, _, _, _⟩) (v := ?_) rfl (by kernel_rfl) (by kernel_rfl) (by kernel_rfl) (by kernel_rfl) (fun _ _ _ h => h) (Or.inl ⟨by rfl, fun w hSw => ?_⟩) (by assumption) ?_
  rotate_left
  · (have s1 := hSw; go_simp; try with_reducible rfl)
  try simp only [Act.put, List.setIfInBounds_toArray, List.set_cons_zero, List.set_cons_succ]
  refine Late.take (i := 54) (oi := ⟨some 105, Op.move (Operand.tmp 1), _, _, _, _⟩) (v := ?_) rfl (by kernel_rfl) (by kernel_rfl) (by kernel_rfl) (by kernel_rfl) (fun _ _ _ h => h) (Or.inl ⟨by rfl, fun w hSw => ?_⟩) (by assumption) ?_
  rotate_left
  · (have s1 := hSw; go_simp; try with_reducible rfl)
  try simp only [Act.put, List.setIfInBounds_toArray, List.set_cons_zero, List.set_cons_succ]
  refine Late.take (i := 55) (oi := ⟨some 106, Op.indexAddr 22 (Operand.tmp 105) (Operand.const (Value.int IntKind.i64 0)), _, _, _, _⟩) (v := ?_) rfl (by kernel_rfl) (by kernel_rfl) (by kernel_rfl) (by kernel_rfl) (fun _ _ _ h => h) (Or.inl ⟨by rfl, fun w hSw => ?_⟩) (by assumption) ?_
  rotate_left
  · (have s1 := hSw; go_simp; try with_reducible rfl)
  try simp only [Act.put, List.setIfInBounds_toArray, List.set_cons_zero, List.set_cons_succ]
  refine Late.take (i := 56) (oi := ⟨some 107, Op.fieldAddr 26 (Operand.tmp 106) 8, _, _, _, _⟩) (v := ?_) rfl (by kernel_rfl) (by kernel_rfl) (by kernel_rfl) (by kernel_rfl) (fun _ _ _ h => h) (Or.inl ⟨by rfl, fun w hSw => ?_⟩) (by assumption) ?_
  rotate_left
  · (have s1 := hSw; go_simp; try with_reducible rfl)
  try simp only [Act.put, List.setIfInBounds_toArray, List.set_cons_zero, List.set_cons_succ]
  refine Late.take (i := 57) (oi := ⟨some 108, Op.load 24 (Operand.tmp 107), _, _, _, _⟩) (v := _) rfl (by kernel_rfl) (by kernel_rfl) (by kernel_rfl) (by kernel_rfl) (fun _ _ _ h => h) (yieldsIf_load_mid (by rfl) _ _ rfl _ _ rfl (vals xa.S) _ (fun W hW => by have := range_S (HR9.out W hW).1; rwa [Nat.zero_add] at this) Tryd.underlying24 rfl (tag_size xa.S xa.hS)) (by assumption) ?_
  try simp only [Act.put, List.setIfInBounds_toArray, List.set_cons_zero, List.set_cons_succ]
  refine Late.take (i := 58) (oi := ⟨some 109, Op.move (Operand.tmp 1), _, _, _, _⟩) (v := ?_) rfl (by kernel_rfl) (by kernel_rfl) (by kernel_rfl) (by kernel_rfl) (fun _ _ _ h => h) (Or.inl ⟨by rfl, fun w hSw => ?_⟩) (by assumption) ?_
  rotate_left
  · (have s1 := hSw; go_simp; try with_reducible rfl)
  try simp only [Act.put, List.setIfInBounds_toArray, List.set_cons_zero, List.set_cons_succ]
  refine Late.take (i := 59) (oi := ⟨some 110, Op.indexAddr 22 (Operand.tmp 109) (Operand.const (Value.int IntKind.i64 1)), _, _, _, _⟩) (v := ?_) rfl (by kernel_rfl) (by kernel_rfl) (by kernel_rfl) (by kernel_rfl) (fun _ _ _ h => h) (Or.inl ⟨by rfl, fun w hSw => ?_⟩) (by assumption) ?_
  rotate_left
  · (have s1 := hSw; go_simp; try with_reducible rfl)
  try simp only [Act.put, List.setIfInBounds_toArray, List.set_cons_zero, List.set_cons_succ]
  refine Late.take (i := 60) (oi := ⟨some 111, Op.fieldAddr 26 (Operand.tmp 110) 8, _, _, _, _⟩) (v := ?_) rfl (by kernel_rfl) (by kernel_rfl) (by kernel_rfl) (by kernel_rfl) (fun _ _ _ h => h) (Or.inl ⟨by rfl, fun w hSw => ?_⟩) (by assumption) ?_
  rotate_left
  · (have s1 := hSw; go_simp; try with_reducible rfl)
  try simp only [Act.put, List.setIfInBounds_toArray, List.set_cons_zero, List.set_cons_succ]
  refine Late.take (i := 61) (oi := ⟨some 112, Op.load 24 (Operand.tmp 111), _, _, _, _⟩) (v := _) rfl (by kernel_rfl) (by kernel_rfl) (by kernel_rfl) (by kernel_rfl) (fun _ _ _ h => h) (yieldsIf_load_mid (by rfl) _ _ rfl _ _ rfl (vals xb.S) _ (fun W hW => range_S (HR9.out W hW).2) Tryd.underlying24 rfl (tag_size xb.S xb.hS)) (by assumption) ?_
  try simp only [Act.put, List.setIfInBounds_toArray, List.set_cons_zero, List.set_cons_succ]
  refine Late.take (i := 62) (oi := ⟨some 113, Op.binOp BinOp.neq 24 (Operand.tmp 108) (Operand.tmp 112) 24, _, _, _, _⟩) (v := .bool true) rfl (by kernel_rfl) (by kernel_rfl) (by kernel_rfl) (by kernel_rfl) (fun _ _ _ h => h) (Or.inl ⟨by rfl, fun w hSw => ?_⟩) (by assumption) ?_
  · (have hn := run_tagNe xa.S xb.S xa.hS xb.hS w; rw [show (!eqB xa.S xb.S) = true by assumption] at hn; simp [execOp, Act.eval, hn, run_eqGuard_agg (hm := Tryd.eqGuardType24)])
  try simp only [Act.put, List.setIfInBounds_toArray, List.set_cons_zero, List.set_cons_succ]
  refine Late.take (i := 63) (oi := ⟨some 114, Op.pick (Operand.tmp 104) (Operand.tmp 113) (Operand.const (Value.bool false)), _, _, _, _⟩) (v := ?_) rfl (by kernel_rfl) (by kernel_rfl) (by kernel_rfl) (by kernel_rfl) (fun _ _ _ h => h) (Or.inl ⟨by rfl, fun w hSw => ?_⟩) (by assumption) ?_
  rotate_left
  · (have s1 := hSw; go_simp; try with_reducible rfl)
  try simp only [Act.put, List.setIfInBounds_toArray, List.set_cons_zero, List.set_cons_succ]
  refine Late.take (i := 64) (oi := ⟨some 0, Op.assign (Operand.tmp 114), _, _, _, _⟩) (v := ?_) rfl (by kernel_rfl) (by kernel_rfl) (by kernel_rfl) (by kernel_rfl) (fun _ _ _ h => h) (Or.inl ⟨by rfl, fun w hSw => ?_⟩) (by assumption) ?_
  rotate_left
  · (have s1 := hSw; go_simp; try with_reducible rfl)
  try simp only [Act.put, List.setIfInBounds_toArray, List.set_cons_zero, List.set_cons_succ]
  refine Late.done (by kernel_rfl) ?_ _
  refine NoPanic.normal ?_
  have HE := Lib.hid (hb9.out.trans (C3a.out.mono hb9.out.size))
  clear hHeld C0 C1a C2a C3a
  go_wp2
  go_ret
  exact ⟨rfl, HE.out⟩
end Go.Proofs.YtkaojhcmdichfaaDoor
