/- The document's own Attenuate. -/
import Derived.Test.YtpamgeenknkjcaaDoorTkA
import Derived.Test.YtpamgeenknkjcaaDoorTkRt
import Derived.Test.YtpamgeenknkjcaaDoorTkTr
import Derived.Test.YtpamgeenknkjcaaDoorB5
import Derived.Test.YtpamgeenknkjcaaDoorB6
import Derived.Test.YtpamgeenknkjcaaDoorOrd3
namespace Go.Proofs.YtpamgeenknkjcaaDoor
open Go.ChangeShapes Go.WideShapes Go.ChangeAt Go.RowKit
set_option linter.unusedVariables false
set_option linter.unusedSimpArgs false
open Plain Sha
theorem step_gr (w0 w : World) (hW : Below w0.heap.size w0 w) {ops : Array Oper} {o : Oper} {a : Act} {K : Act → World → Prop} {Q : Exit → Act → World → Prop} {E : Prop} (hgd : o.guard = none) (s x : Operand)
    (ho : o.op = .call { callee := .builtin .append, args := #[s, x], argTypes := #[23, 23] })
    (v : Value) (n : Nat) (l1 : List GrantZ) (hown : w.ownsRow w0.heap.size 33 3 v n (gv l1)) (hs : a.eval s = v)
    (A : Option Addr) (m c : Nat) (l2 : List GrantZ) (hr : Lies w 3 A m (gv l2)) (hso : Sourced A m) (hx : a.eval x = .slice A m c) (hn : n + m ≤ 4096)
    (h : ∀ v' w', w'.ownsRow w0.heap.size 33 3 v' (n + m) (gv (l1 ++ l2)) → Below w0.heap.size w0 w' → w.grownBy w' v.ownBlock → K (a.put o.dst v') w') : if Region.wanted o (yielded ops a.tmps) = true then Oper.wp Tryd.prog o a w K Q else E := by
  refine step_app w hgd s x 23 ho w0.heap.size 33 3 24 Tryd.underlying23 grant_info (by omega) v n (gv l1) hs hown A m c (gv l2) hx hr hso (gv_one l2) (by unfold maxLen; omega) (by omega) hW.size ?_
  intro v' w' ho' hg' _
  rw [← gv_app] at ho'
  exact h v' w' ho' (hW.grown hg' hW.size (fun k hk => (hown.lt k hk).1)) hg'
theorem ev_tmp {a : Act} {n : Nat} {v : Value} (h : a.tmps[n]?.getD undef = v) : a.eval (.tmp n) = v := by
  show a.tmps.getD n undef = v
  rw [Array.getD_eq_getD_getElem?]; exact h
theorem own_nilGr (w : World) (base : Nat) (hb : base ≤ w.heap.size) : (w.alloc (.cells #[] 33)).ownsRow base 33 3 (.slice (some ⟨w.heap.size, 0, none⟩) 0 0) 0 (gv []) :=
  World.ownsRow_lit w #[] 0 hb (by simp [maxLen]) rfl
theorem step_new {w : World} {b base m c B : Nat} {A : Option Addr} {l : List GrantZ} {ops : Array Oper} {o : Oper} {a : Act} {K : Act → World → Prop} {Q : Exit → Act → World → Prop} {E : Prop} (hgd : o.guard = none) (s x : Operand)
    (ho : o.op = .call { callee := .builtin .append, args := #[s, x], argTypes := #[23, 23] })
    (hs : a.eval s = .slice (some ⟨b, 0, none⟩) 0 0) (hown : w.ownsRow base 33 3 (.slice (some ⟨b, 0, none⟩) 0 0) 0 (gv [])) (hx : a.eval x = .slice A m c) (hg : Grants w B A m l) (h0 : 0 < m) (hm : m ≤ 4096) (hbase : base ≤ w.heap.size)
    (h : ∀ D d w', w'.ownsRow base 33 3 (.slice D m d) m (gv l) → Below w.heap.size w w' → K (a.put o.dst (.slice D m d)) w') : if Region.wanted o (yielded ops a.tmps) = true then Oper.wp Tryd.prog o a w K Q else E := by
  have hw : Region.wanted o (yielded ops a.tmps) = true := by simp [Region.wanted, hgd]
  rw [if_pos hw]
  obtain ⟨v', w', q1, q2, _, _⟩ := run_app (P := Tryd.prog) w 23 o.type base 33 3 24 Tryd.underlying23 grant_info (by omega) _ 0 (gv []) hown A m c (gv l) hg.lies.1 hg.lies.2 (gv_one l) (by unfold maxLen; omega) (by omega) hbase
  obtain ⟨i, z, hi, hz, hsize, hby, hzs⟩ := grant_info
  obtain ⟨gb, go, hA, _, _⟩ := hg.row h0
  have hl := hg.lies.1
  have q3 := run_append_grow (P := Tryd.prog) (w := w) 23 o.type 33 i z Tryd.underlying23 hi hz ⟨b, 0, none⟩ 0 0 [] (by simp) (by simp) ⟨gb, go, none⟩ m c (gv l) (by rw [hsize]; exact hl.1) (fun j v hj => hl.2 _ hA j v hj) (by omega) (by omega) (by rw [Nat.zero_add, nextslicecap_zero h0, hby]; omega)
  rw [hA] at q1
  have e : (.ok v' w' : Result Value) = _ := q1.symm.trans q3
  have hb : Below w.heap.size w w' := by
    injection e with e1 e2
    rw [e2]
    exact (Below.refl _ _).drew.alloc (Nat.le_refl _) _
  rw [Nat.zero_add, show gv [] ++ gv l = gv l from rfl] at q2
  obtain ⟨D, d, rfl, _, _⟩ := own_shapeG q2
  exact Lib.wp_append_run w s x _ _ ho _ _ hs (hx.trans (by rw [hA])) _ w' q1 (h D d w' q2 hb)
def sfFalse : SF := ⟨fun _ _ => False, fun _ _ _ h _ => h⟩
def sfNilG (base : Nat) : SF := ⟨fun v w => ∃ b, v = .slice (some ⟨b, 0, none⟩) 0 0 ∧ w.ownsRow base 33 3 (.slice (some ⟨b, 0, none⟩) 0 0) 0 (gv []), fun v w w' ⟨b, e, h⟩ hb => ⟨b, e, own_below h hb (Nat.le_refl _)⟩⟩
def sfRowG (base m : Nat) (l : List GrantZ) : SF := ⟨fun v w => ∃ D d, v = .slice D m d ∧ w.ownsRow base 33 3 (.slice D m d) m (gv l), fun v w w' ⟨D, d, e, h⟩ hb => ⟨D, d, e, own_below h hb (Nat.le_refl _)⟩⟩
def sfTokR (base : Nat) (tn : Int) (m : Nat) (l : List GrantZ) : SF := ⟨fun v w => ∃ D d, v = .agg (tv ⟨tn, D, m, d, List.replicate 32 0⟩).toArray ∧ w.ownsRow base 33 3 (.slice D m d) m (gv l), fun v w w' ⟨D, d, e, h⟩ hb => ⟨D, d, e, own_below h hb (Nat.le_refl _)⟩⟩
def sfGrs (m : Nat) (l : List GrantZ) : SF := ⟨fun v w => ∃ D d, v = .slice D m d ∧ Grants w w.heap.size D m l, fun v w w' ⟨D, d, e, h⟩ hb => ⟨D, d, e, (h.below hb).more hb.size⟩⟩
def sfBoxT (base : Nat) : SF := ⟨fun v w => ∃ b, v = .pointer (some ⟨b, 0, none⟩) ∧ base ≤ b ∧ Box w b tok0 ∧ w.heap[b]? = some (.cells (tv tok0).toArray 28), fun v w w' ⟨b, e, h0, h, hh⟩ hb => ⟨b, e, h0, h.grow hb, (hb.block b h.lt).trans hh⟩⟩
theorem own_apart {w : World} {base m b : Nat} {D : Option Addr} {d : Nat} {xs : List Value} (h : w.ownsRow base 33 3 (.slice D m d) m xs) (hh : w.heap[b]? = some (.cells (tv tok0).toArray 28)) : (Value.slice D m d).ownBlock ≠ some b := by
  intro e
  rcases h.2 with ⟨hv, _⟩ | ⟨g, cap, cur, hv, _, hg, _⟩
  · rw [hv] at e; simp [Value.ownBlock] at e
  · rw [hv] at e
    simp [Value.ownBlock] at e
    subst e
    rw [hh] at hg
    injection hg with hg
    injection hg with _ hg _
    cases hg
theorem build_tok0 (tn : Int) (A : Option Addr) (m c : Nat) (W : World) :
    (Instr.build 28 #[(0, .int .i64 tn), (1, .slice A m c)]).run Tryd.prog W = .ok (.agg (tv ⟨tn, A, m, c, List.replicate 32 0⟩).toArray) W := by
  kernel_rfl
theorem gcells_new (w : World) (g : GrantZ) (hg : GOk g) : Grants (w.alloc (.cells #[.int .u8 g.r, .int .i64 g.x, .int .i64 g.s] 33)) (w.heap.size + 1) (some ⟨w.heap.size, 0, none⟩) 1 [g] :=
  grants_new w [g] 33 _ rfl (fun x hx => by rw [List.mem_singleton] at hx; subst hx; exact hg)
set_option maxRecDepth 100000 in
set_option maxHeartbeats 4000000 in
theorem refatt_any {w : World} {B : Nat} {t : TokZ} {l : List GrantZ} (h : Tok w B t l) (hB : B ≤ w.heap.size) (g : GrantZ) (hg : GOk g) :
    Calls Tryd.prog 15 #[.agg (tv t).toArray, .agg #[.int .u8 g.r, .int .i64 g.x, .int .i64 g.s]] w (Gives w (attP (pt t l) g)) := by
  obtain ⟨W3, hW3⟩ : ∃ W, W = ((w.alloc (.cells (tv t).toArray 28)).alloc (.cells #[.int .u8 g.r, .int .i64 g.x, .int .i64 g.s] 33)).alloc (.cells (tv tok0).toArray 28) := ⟨_, rfl⟩
  have s3 : W3.heap.size = w.heap.size + 3 := by rw [hW3]; simp
  have a1 : Below w.heap.size w (w.alloc (.cells (tv t).toArray 28)) := (Below.refl _ _).alloc (Nat.le_refl _) _
  have b3 : Below w.heap.size w W3 := by rw [hW3]; exact (a1.alloc (by simp) _).alloc (by simp; omega) _
  have x3 : Box W3 w.heap.size t := by
    rw [hW3]
    exact ((box_new w t h.len _ _ rfl).grow ((Below.refl _ _).alloc (Nat.le_refl _) _)).grow ((Below.refl _ _).alloc (Nat.le_refl _) _)
  have g3 : GCell W3 (w.heap.size + 1) g := by
    rw [hW3]
    exact (gcell_new _ g 33 (w.heap.size + 1) (by simp)).below ((Below.refl _ _).alloc (Nat.le_refl _) _) (by simp)
  have r3 : Box W3 (w.heap.size + 2) tok0 := by rw [hW3]; exact box_new _ tok0 rep32 _ _ (by simp)
  have HX3 := Lib.hid x3
  have HG3 := Lib.hid g3
  have HR3 := Lib.hid r3
  have HB3 := Lib.hid b3
  have HT3 := Lib.hid (h.belowM b3 hB)
  have HGO := Lib.hid hg
  have HW3 := Lib.hid hW3
  have HL : Hid (t.T.length = 32) := Lib.hid h.len
  have hBs : B ≤ W3.heap.size := Nat.le_trans hB b3.size
  clear h hg hW3 a1 b3 x3 g3 r3
  obtain ⟨q1, hq1⟩ : ∃ q, mayT t.tn l = q := ⟨_, rfl⟩
  obtain ⟨q2, hq2⟩ : ∃ q, mayB g = q := ⟨_, rfl⟩
  have HQ1 := Lib.hid hq1
  have HQ2 := Lib.hid hq2
  have TM := Lib.hid (rtmay_val q1 HT3.out hBs hq1)
  clear hq1 hq2
  go_enter Tryd.func15, Tryd.ntmps15
  go_upto_region 1 with fail
  simp only [zTok]
  rw [← HW3.out]
  have G1 := HL
  have G3 := HL
  have G4 := HL
  cases q1
  · have HP : Hid (attP (pt t l) g = (pt0, 2)) := Lib.hid (by unfold attP pt; rw [HQ1.out]; rfl)
    go_wp2_with (first
    | (have g := G1; clear g; refine wpList_load_mid (op := ⟨some 7, .load 28 (.tmp 2), _, _, _, _⟩) rfl 28 (.tmp 2) rfl (w.heap.size) 0 rfl (tv t) _ HX3.out.range Tryd.underlying28 rfl (tok_size HX3.out.len) ?_; clear G1)
    | (go_at_call 31; refine TM.out.mono ?_; rintro e w4 ⟨rfl, hb4⟩; have B4 := Lib.hid hb4; have TH := Lib.hid ((HR3.out.grow hb4).thereA (u := tok0) rep32); clear hb4)
    | (have g := G3; clear g; refine wpList_exec (op := ⟨some 15, .build 28 #[], _, _, _, _⟩) rfl (.agg (tv tok0).toArray) (by kernel_rfl) ?_; clear G3)
    | (have g := G4; clear g; refine wpList_store_as (op := ⟨none, .store 28 (.tmp 4) (.tmp 15), _, _, _, _⟩) rfl 28 (.tmp 4) (.tmp 15) rfl (w.heap.size + 2) 0 (tv tok0).toArray rfl rfl TH.out (tok_sizeA (t := tok0) rep32) (tok_one _) ?_; intro w6 hw6; clear G4))
    have R6 := (HR3.out.grow B4.out).storeH (u := tok0) rep32 hw6
    have q6 := below_storeH (HB3.out.trans (B4.out.mono HB3.out.size)) (by omega) hw6
    rw [HP.out]
    exact bodyPost_ret (v := .tuple #[.agg (tv tok0).toArray, .int .i64 2]) (results_mid_tmp (p := 4) (u := 5) (ty := 28) rfl _ _ (w.heap.size + 2) 0 (tv tok0) _ rfl R6.range Tryd.underlying28 rfl (tok_size (t := tok0) rep32)) rfl (gives_none q6)
  cases q2
  · have HP : Hid (attP (pt t l) g = (pt0, 2)) := Lib.hid (by unfold attP pt; rw [HQ1.out, HQ2.out]; rfl)
    go_wp2_with (first
    | (have g := G1; clear g; refine wpList_load_mid (op := ⟨some 7, .load 28 (.tmp 2), _, _, _, _⟩) rfl 28 (.tmp 2) rfl (w.heap.size) 0 rfl (tv t) _ HX3.out.range Tryd.underlying28 rfl (tok_size HX3.out.len) ?_; clear G1)
    | (go_at_call 31; refine TM.out.mono ?_; rintro e w4 ⟨rfl, hb4⟩; have B4 := Lib.hid hb4; have c4 := HG3.out.below hb4 (by omega); obtain ⟨d0, d1, d2⟩ := c4; clear hb4)
    | (go_at_call 34; refine (refmay_val g false HQ2.out _).mono ?_; rintro e w5 ⟨rfl, hb5⟩; have B5 := Lib.hid (B4.out.trans (hb5.mono B4.out.size)); have TH := Lib.hid ((HR3.out.grow B5.out).thereA (u := tok0) rep32); have c1 := (HX3.out.grow B5.out).c1; clear hb5 d0 d1 d2)
    | (have g := G3; clear g; refine wpList_exec (op := ⟨some 15, .build 28 #[], _, _, _, _⟩) rfl (.agg (tv tok0).toArray) (by kernel_rfl) ?_; clear G3)
    | (have g := G4; clear g; refine wpList_store_as (op := ⟨none, .store 28 (.tmp 4) (.tmp 15), _, _, _, _⟩) rfl 28 (.tmp 4) (.tmp 15) rfl (w.heap.size + 2) 0 (tv tok0).toArray rfl rfl TH.out (tok_sizeA (t := tok0) rep32) (tok_one _) ?_; intro w6 hw6; clear G4))
    have R6 := (HR3.out.grow B5.out).storeH (u := tok0) rep32 hw6
    have q6 := below_storeH (HB3.out.trans (B5.out.mono HB3.out.size)) (by omega) hw6
    rw [HP.out]
    exact bodyPost_ret (v := .tuple #[.agg (tv tok0).toArray, .int .i64 2]) (results_mid_tmp (p := 4) (u := 5) (ty := 28) rfl _ _ (w.heap.size + 2) 0 (tv tok0) _ rfl R6.range Tryd.underlying28 rfl (tok_size (t := tok0) rep32)) rfl (gives_none q6)
  have hl4 : 0 < l.length ∧ l.length ≤ 4 := by have := HQ1.out; simp [mayT, lineB] at this; omega
  have hlm : l.length = t.m := HT3.out.line.len
  by_cases hm4 : t.m = 4
  · have HP : Hid (attP (pt t l) g = (pt0, 4)) := Lib.hid (by unfold attP pt; rw [HQ1.out, HQ2.out]; simp [hlm, hm4])
    have hmI : 4 ≤ (t.m : Int) := by omega
    clear hm4
    go_wp2_with (first
    | (have g := G1; clear g; refine wpList_load_mid (op := ⟨some 7, .load 28 (.tmp 2), _, _, _, _⟩) rfl 28 (.tmp 2) rfl (w.heap.size) 0 rfl (tv t) _ HX3.out.range Tryd.underlying28 rfl (tok_size HX3.out.len) ?_; clear G1)
    | (go_at_call 31; refine TM.out.mono ?_; rintro e w4 ⟨rfl, hb4⟩; have B4 := Lib.hid hb4; have c4 := HG3.out.below hb4 (by omega); obtain ⟨d0, d1, d2⟩ := c4; clear hb4)
    | (go_at_call 34; refine (refmay_val g true HQ2.out _).mono ?_; rintro e w5 ⟨rfl, hb5⟩; have B5 := Lib.hid (B4.out.trans (hb5.mono B4.out.size)); have TH := Lib.hid ((HR3.out.grow B5.out).thereA (u := tok0) rep32); have c1 := (HX3.out.grow B5.out).c1; clear hb5 d0 d1 d2)
    | (have g := G3; clear g; refine wpList_exec (op := ⟨some 20, .build 28 #[], _, _, _, _⟩) rfl (.agg (tv tok0).toArray) (by kernel_rfl) ?_; clear G3)
    | (have g := G4; clear g; refine wpList_store_as (op := ⟨none, .store 28 (.tmp 4) (.tmp 20), _, _, _, _⟩) rfl 28 (.tmp 4) (.tmp 20) rfl (w.heap.size + 2) 0 (tv tok0).toArray rfl rfl TH.out (tok_sizeA (t := tok0) rep32) (tok_one _) ?_; intro w6 hw6; clear G4))
    have R6 := (HR3.out.grow B5.out).storeH (u := tok0) rep32 hw6
    have q6 := below_storeH (HB3.out.trans (B5.out.mono HB3.out.size)) (by omega) hw6
    rw [HP.out]
    exact bodyPost_ret (v := .tuple #[.agg (tv tok0).toArray, .int .i64 4]) (results_mid_tmp (p := 4) (u := 5) (ty := 28) rfl _ _ (w.heap.size + 2) 0 (tv tok0) _ rfl R6.range Tryd.underlying28 rfl (tok_size (t := tok0) rep32)) rfl (gives_none q6)
  have HP : Hid (attP (pt t l) g = (⟨t.tn, l ++ [g], nextZ t.T g⟩, 0)) := Lib.hid (by unfold attP pt; rw [HQ1.out, HQ2.out]; simp [hlm, hm4])
  have hmI : ¬ (4 ≤ (t.m : Int)) := by omega
  have hm3 : t.m ≤ 4 := by omega
  have hm0 : 0 < t.m := by omega
  clear hm4
  go_upto_region 5 with (first
    | (have g := G1; clear g; refine wpList_load_mid (op := ⟨some 7, .load 28 (.tmp 2), _, _, _, _⟩) rfl 28 (.tmp 2) rfl (w.heap.size) 0 rfl (tv t) _ HX3.out.range Tryd.underlying28 rfl (tok_size HX3.out.len) ?_; clear G1)
    | (go_at_call 31; refine TM.out.mono ?_; rintro e w4 ⟨rfl, hb4⟩; have B4 := Lib.hid hb4; have c4 := HG3.out.below hb4 (by omega); obtain ⟨d0, d1, d2⟩ := c4; clear hb4)
    | (go_at_call 34; refine (refmay_val g true HQ2.out _).mono ?_; rintro e w5 ⟨rfl, hb5⟩; have B5 := Lib.hid (B4.out.trans (hb5.mono B4.out.size)); have TH := Lib.hid ((HR3.out.grow B5.out).thereA (u := tok0) rep32); have c1 := (HX3.out.grow B5.out).c1; clear hb5 d0 d1 d2))
  clear TH c1
  have HC0 : Hid (∀ W, Below w5.heap.size w5 W → W.cell? ⟨w.heap.size, 0, none⟩ = some (.int .i64 t.tn)) := Lib.hid (fun W hW => ((HX3.out.grow B5.out).grow hW).c0)
  have HC1 : Hid (∀ W, Below w5.heap.size w5 W → W.cell? ⟨w.heap.size, 1, none⟩ = some (.slice t.A t.m t.c)) := Lib.hid (fun W hW => ((HX3.out.grow B5.out).grow hW).c1)
  have s5 := B5.out.size
  have HCG : Hid (∀ W, Below w5.heap.size w5 W → GCell W (w.heap.size + 1) g) := Lib.hid (fun W hW => (HG3.out.below B5.out (by omega)).below hW (by omega))
  have HT5 := Lib.hid (HT3.out.belowM B5.out hBs)
  have hB5 := Nat.le_trans hBs s5
  obtain ⟨N, hN⟩ : ∃ N, nextZ t.T g = N := ⟨_, rfl⟩
  have LN : Hid (N.length = 32) := Lib.hid (by rw [← hN]; exact nextZ_len _ _)
  have BN : Hid (IsBytes N) := Lib.hid (by rw [← hN]; exact nextZ_bytes _ _)
  have HN := Lib.hid hN
  clear hN
  refine Late.region (fun w' => Below w5.heap.size w5 w') [11] (by kernel_rfl) ((Below.refl _ _).drew) (fun hHeld => ?_)
  refine Late.take (i := 0) (oi := ⟨some 21, Op.fieldAddr 28 (Operand.tmp 2) 0, _, _, _, _⟩) (v := ?_) rfl (by kernel_rfl) (by kernel_rfl) (by kernel_rfl) (by kernel_rfl) (fun _ _ _ h => h) (Or.inl ⟨by rfl, fun w hSw => ?_⟩) (by assumption) ?_
  rotate_left
  · (have s1 := hSw; go_simp; try with_reducible rfl)
  try simp only [Act.put, List.setIfInBounds_toArray, List.set_cons_zero, List.set_cons_succ]
  refine Late.take (i := 1) (oi := ⟨some 22, Op.load 3 (Operand.tmp 21), _, _, _, _⟩) (v := ?_) rfl (by kernel_rfl) (by kernel_rfl) (by kernel_rfl) (by kernel_rfl) (fun _ _ _ h => h) (Or.inl ⟨by rfl, fun w hSw => ?_⟩) (by assumption) ?_
  rotate_left
  · (have s1 := hSw; have c := HC0.out _ s1; go_simp; try with_reducible rfl)
  try simp only [Act.put, List.setIfInBounds_toArray, List.set_cons_zero, List.set_cons_succ]
  refine Late.take (i := 3) (oi := ⟨some 24, Op.fieldAddr 28 (Operand.tmp 2) 1, _, _, _, _⟩) (v := ?_) rfl (by kernel_rfl) (by kernel_rfl) (by kernel_rfl) (by kernel_rfl) (fun _ _ _ h => h) (Or.inl ⟨by rfl, fun w hSw => ?_⟩) (by assumption) ?_
  rotate_left
  · (have s1 := hSw; go_simp; try with_reducible rfl)
  try simp only [Act.put, List.setIfInBounds_toArray, List.set_cons_zero, List.set_cons_succ]
  refine Late.take (i := 4) (oi := ⟨some 25, Op.load 23 (Operand.tmp 24), _, _, _, _⟩) (v := ?_) rfl (by kernel_rfl) (by kernel_rfl) (by kernel_rfl) (by kernel_rfl) (fun _ _ _ h => h) (Or.inl ⟨by rfl, fun w hSw => ?_⟩) (by assumption) ?_
  rotate_left
  · (have s1 := hSw; have c := HC1.out _ s1; go_simp; try with_reducible rfl)
  try simp only [Act.put, List.setIfInBounds_toArray, List.set_cons_zero, List.set_cons_succ]
  refine Late.take (i := 6) (oi := ⟨some 27, Op.load 33 (Operand.tmp 3), _, _, _, _⟩) (v := ?_) rfl (by kernel_rfl) (by kernel_rfl) (by kernel_rfl) (by kernel_rfl) (fun _ _ _ h => h) (Or.inl ⟨by rfl, fun w hSw => ?_⟩) (by assumption) ?_
  rotate_left
  · (have s1 := hSw; obtain ⟨q0, q1, q2⟩ := HCG.out _ s1; go_simp; try with_reducible rfl)
  try simp only [Act.put, List.setIfInBounds_toArray, List.set_cons_zero, List.set_cons_succ]
  refine Late.ordersZ (fun zb i => match i with | 2 => if zb then sfTrue else sfNilG w5.heap.size | 5 => if zb then sfTrue else sfRowG w5.heap.size t.m l | 7 => if zb then sfTrue else sfGrs 1 [g] | 10 => sfBoxT w5.heap.size | 8 => if zb then sfRowG w5.heap.size (t.m + 1) (l ++ [g]) else sfFalse | 9 => if zb then sfTokR w5.heap.size t.tn (t.m + 1) (l ++ [g]) else sfFalse | _ => sfTrue) [2, 5, 7, 9, 10] [9, 10] 8 [29, 23, 26, 28, 30, 6] (f0 := 1) (by kernel_rfl) rfl rfl (by kernel_rfl) (by kernel_rfl) (by kernel_rfl) hHeld (fun w w' h hb => h.trans (hb.mono h.size)) ?_ ?_ ?_
  · intro i hi
    simp only [List.mem_cons, List.not_mem_nil, or_false] at hi
    rcases hi with rfl | rfl | rfl | rfl | rfl
    · refine StepZ.of (o := ⟨some 23, Op.buildSlice 23 0 #[], _, _, _, _⟩) rfl (fun zb a w K hz hS hA hD hK => ?_)
      cases zb
      case true => exact absurd (hz rfl) (by decide)
      rw [if_pos (by rfl)]
      go_simp
      exact hK.out _ _ ((Below.refl _ _).alloc (Nat.le_refl _) _) ⟨_, rfl, own_nilGr w _ hS.size⟩
    · refine StepZ.of (o := ⟨some 26, Op.call { callee := Callee.builtin Builtin.append, args := #[Operand.tmp 23, Operand.tmp 25], argTypes := #[23, 23] }, _, _, _, _⟩) rfl (fun zb a w K hz hS hA hD hK => ?_)
      cases zb
      case true => exact absurd (hz rfl) (by decide)
      obtain ⟨b, e23, ho⟩ : (sfNilG w5.heap.size).F (a.tmps[23]?.getD undef) w := hD 2 23 rfl (by kernel_rfl) (by kernel_rfl)
      have e25 : a.tmps[25]?.getD undef = .slice t.A t.m t.c := hA.get 25 rfl
      exact step_new rfl (.tmp 23) (.tmp 25) rfl (ev_tmp e23) ho (ev_tmp e25) (HT5.out.line.belowM hS hB5) hm0 (by omega) hS.size (fun D d w' ho' hb' => hK.out _ _ hb' ⟨D, d, rfl, ho'⟩)
    · refine StepZ.of (o := ⟨some 28, Op.buildSlice 23 1 #[(0, Operand.tmp 27)], _, _, _, _⟩) rfl (fun zb a w K hz hS hA hD hK => ?_)
      cases zb
      case true => exact absurd (hz rfl) (by decide)
      have e27 : a.tmps[27]?.getD undef = .agg #[.int .u8 g.r, .int .i64 g.x, .int .i64 g.s] := hA.get 27 rfl
      rw [if_pos (by rfl)]
      go_simp
      exact hK.out _ _ ((Below.refl _ _).alloc (Nat.le_refl _) _) ⟨_, _, rfl, (gcells_new w g HGO.out).more (by simp)⟩
    · refine StepZ.of (o := ⟨some 30, Op.build 28 #[(0, Operand.tmp 22), (1, Operand.tmp 29)], _, _, _, _⟩) rfl (fun zb a w K hz hS hA hD hK => ?_)
      cases zb
      case false =>
        have hf : sfFalse.F (a.tmps[29]?.getD undef) w := hD 8 29 rfl (by kernel_rfl) (by kernel_rfl)
        exact hf.elim
      obtain ⟨D, d, e29, ho⟩ : (sfRowG w5.heap.size (t.m + 1) (l ++ [g])).F (a.tmps[29]?.getD undef) w := hD 8 29 rfl (by kernel_rfl) (by kernel_rfl)
      have e22 : a.tmps[22]?.getD undef = .int .i64 t.tn := hA.get 22 rfl
      rw [if_pos (by rfl)]
      refine wp_exec (.agg (tv ⟨t.tn, D, t.m + 1, d, List.replicate 32 0⟩).toArray) (by simp [execOp, Act.eval, e22, e29, build_tok0 t.tn D (t.m + 1) d]) ?_
      exact hK.out _ _ (Below.refl _ _) ⟨D, d, rfl, ho⟩
    · refine StepZ.of (o := ⟨some 6, Op.alloc 28, _, _, _, _⟩) rfl (fun zb a w K hz hS hA hD hK => ?_)
      rw [if_pos (by rfl)]
      go_simp
      simp only [zTok]
      exact hK.out _ _ ((Below.refl _ _).alloc (Nat.le_refl _) _) ⟨_, rfl, hS.size, box_new w tok0 rep32 _ _ rfl, heap_alloc_new w _⟩
  · refine TurnZ.of (o := ⟨some 29, Op.call { callee := Callee.builtin Builtin.append, args := #[Operand.tmp 26, Operand.tmp 28], argTypes := #[23, 23] }, _, _, _, _⟩) rfl (fun a w K hS hA hD hK => ?_)
    obtain ⟨D5, d5, e26, ho⟩ : (sfRowG w5.heap.size t.m l).F (a.tmps[26]?.getD undef) w := hD 5 26 rfl (by kernel_rfl) (by kernel_rfl)
    obtain ⟨D7, d7, e28, hg7⟩ : (sfGrs 1 [g]).F (a.tmps[28]?.getD undef) w := hD 7 28 rfl (by kernel_rfl) (by kernel_rfl)
    refine step_gr w5 w hS rfl (.tmp 26) (.tmp 28) rfl _ t.m l ho (ev_tmp e26) D7 1 d7 [g] hg7.lies.1 hg7.lies.2 (ev_tmp e28) (by omega) ?_
    intro v' w' ho' hb' hgr
    obtain ⟨D, d, rfl, _, _⟩ := own_shapeG ho'
    refine hK.out _ _ hb' ⟨D, d, rfl, ho'⟩ (fun j s hj hs hf => ?_)
    simp only [List.contains_iff_mem, List.mem_cons, List.not_mem_nil, or_false] at hj
    rcases hj with rfl | rfl | rfl | rfl | rfl
    · trivial
    · trivial
    · trivial
    · exact (show False from hf).elim
    · obtain ⟨b, e, h0, hx, hh⟩ := hf
      have hne := own_apart ho hh
      have hk := hgr.block b hx.lt (fun e => hne e.symm)
      exact ⟨b, e, h0, hx.same hk, hk.trans hh⟩
  intro a wq hS hA hV
  obtain ⟨D, d, e30, ho8⟩ : (sfTokR w5.heap.size t.tn (t.m + 1) (l ++ [g])).F (a.tmps[30]?.getD undef) wq := hV 9 30 rfl (by kernel_rfl)
  obtain ⟨ub, e6, hub, hx6, hh6⟩ : (sfBoxT w5.heap.size).F (a.tmps[6]?.getD undef) wq := hV 10 6 rfl (by kernel_rfl)
  have eA := hA.eq
  simp only [List.foldl_cons, List.foldl_nil] at eA
  rw [e30, e6] at eA
  generalize a.tmps[23]?.getD undef = v23 at eA
  generalize a.tmps[26]?.getD undef = v26 at eA
  generalize a.tmps[28]?.getD undef = v28 at eA
  generalize a.tmps[29]?.getD undef = v29 at eA
  clear hHeld hA hV e30 e6
  subst eA
  try simp only [Act.put, List.setIfInBounds_toArray, List.set_cons_zero, List.set_cons_succ]
  have hHeld := hS
  have hap := own_apart ho8 hh6
  obtain ⟨hdc, hdm⟩ : t.m + 1 ≤ d ∧ d ≤ maxLen := by
    obtain ⟨A', c', e, h1, h2⟩ := own_shapeG ho8
    injection e with _ _ e
    subst e
    exact ⟨h1, h2⟩
  have hDb : ∀ b' off, D = some ⟨b', off, none⟩ → w5.heap.size ≤ b' ∧ b' ≠ ub := fun b' off hq => by
    subst hq
    exact ⟨(ho8.lt b' rfl).1, fun e => hap (by rw [← e]; rfl)⟩
  have hgr8 : Grants wq wq.heap.size D (t.m + 1) (l ++ [g]) := grants_of_own ho8 (fun x hx => by
    rcases List.mem_append.1 hx with hx | hx
    · exact HT5.out.line.ok x hx
    · rw [List.mem_singleton] at hx; subst hx; exact HGO.out)
  obtain ⟨u0, hu0⟩ : ∃ u : TokZ, (⟨t.tn, D, t.m + 1, d, List.replicate 32 0⟩ : TokZ) = u := ⟨_, rfl⟩
  have L0 : Hid (u0.T.length = 32) := Lib.hid (by rw [← hu0]; rfl)
  have HU0 := Lib.hid hu0
  rw [hu0]
  have HAP := Lib.hid hDb
  have HGR := Lib.hid hgr8
  have HDC := Lib.hid (And.intro hdc hdm)
  have HX6 := Lib.hid hx6
  clear hap hh6 hdc hdm hDb hgr8 hu0 hx6 ho8
  refine Late.end_ (i := 11) (o := ⟨none, Op.store 28 (Operand.tmp 6) (Operand.tmp 30), _, _, _, _⟩) (by kernel_rfl) rfl rfl (fun K hK => ?_)
  rw [if_pos (by rfl)]
  refine wp_store_mid 28 (.tmp 6) (.tmp 30) rfl ub 0 (tv u0).toArray rfl rfl (HX6.out.thereA L0.out) (tok_sizeA L0.out) (tok_one _) ?_
  refine hK.out _ _ ?_
  clear hK K
  try simp only [Act.put]
  refine Late.done (by kernel_rfl) ?_ _
  refine NoPanic.normal ?_
  have hw6 : Hid (wq.setCells ub 0 (tv u0) = wq.setCells ub 0 (tv u0).toArray.toList) := Lib.hid rfl
  have x6 := HX6.out.storeH L0.out hw6
  have b6 := below_storeH hHeld hub hw6
  have z6 := size_storeH hw6
  have gr6 := HGR.out.otherH (fun b' off hq => (HAP.out b' off hq).2) hw6
  generalize wq.setCells ub 0 (tv u0) = w6 at *
  have B6 := Lib.hid b6
  have X6 := Lib.hid x6
  have GR6 := Lib.hid (gr6.more z6)
  have HUB := Lib.hid hub
  clear hw6 x6 b6 gr6 z6 hHeld hS HX6 HGR
  have HX5 := Lib.hid (((HX3.out.grow B5.out).grow B6.out))
  have s6 := B6.out.size
  have ZT : Hid (∀ W, Below w6.heap.size w6 W → Bs W W.heap.size (some ⟨w.heap.size, 2, none⟩) 32 t.T) := Lib.hid (fun W hW => (HX5.out.grow hW).bs HT5.out.bytes (HX5.out.grow hW).lt)
  have CG6 : Hid (∀ W, Below w6.heap.size w6 W → GCell W (w.heap.size + 1) g) := Lib.hid (fun W hW => (HCG.out _ B6.out).below hW (by omega))
  have X6G : Hid (∀ W, Below w6.heap.size w6 W → Box W ub u0) := Lib.hid (fun W hW => X6.out.grow hW)
  go_upto_region 6 with fail
  refine Late.region (fun w' => Below w6.heap.size w6 w') [8] (by kernel_rfl) (Below.refl _ _).drew (fun hHeld => ?_)
  refine Late.take (i := 1) (oi := ⟨some 32, Op.fieldAddr 28 (Operand.tmp 2) 2, _, _, _, _⟩) (v := ?_) rfl (by kernel_rfl) (by kernel_rfl) (by kernel_rfl) (by kernel_rfl) (fun _ _ _ h => h) (Or.inl ⟨by rfl, fun w hSw => ?_⟩) (by assumption) ?_
  rotate_left
  · (have s1 := hSw; go_simp; try with_reducible rfl)
  try simp only [Act.put, List.setIfInBounds_toArray, List.set_cons_zero, List.set_cons_succ]
  refine Late.take (i := 2) (oi := ⟨some 33, Op.slice 26 (Operand.tmp 32) none none none, _, _, _, _⟩) (v := ?_) rfl (by kernel_rfl) (by kernel_rfl) (by kernel_rfl) (by kernel_rfl) (fun _ _ _ h => h) (Or.inl ⟨by rfl, fun w hSw => ?_⟩) (by assumption) ?_
  rotate_left
  · (have s1 := hSw; go_simp; try with_reducible rfl)
  try simp only [Act.put, List.setIfInBounds_toArray, List.set_cons_zero, List.set_cons_succ]
  refine Late.take (i := 4) (oi := ⟨some 35, Op.load 33 (Operand.tmp 3), _, _, _, _⟩) (v := ?_) rfl (by kernel_rfl) (by kernel_rfl) (by kernel_rfl) (by kernel_rfl) (fun _ _ _ h => h) (Or.inl ⟨by rfl, fun w hSw => ?_⟩) (by assumption) ?_
  rotate_left
  · (have s1 := hSw; obtain ⟨q0, q1, q2⟩ := CG6.out _ hSw; go_simp; try with_reducible rfl)
  try simp only [Act.put, List.setIfInBounds_toArray, List.set_cons_zero, List.set_cons_succ]
  refine Late.one (i := 0) (o := ⟨some 31, Op.buildSlice 22 0 #[], _, _, _, _⟩) (by kernel_rfl) rfl (fun K hK => ?_)
  go_simp
  refine hK.out _ _ (hHeld.alloc hHeld.size _) (fun hHeld2 => ?_)
  clear hK K hHeld
  have hHeld := hHeld2
  clear hHeld2
  try simp only [Act.put, List.setIfInBounds_toArray, List.set_cons_zero, List.set_cons_succ]
  refine Late.one (i := 3) (o := ⟨some 34, Op.call { callee := Callee.builtin Builtin.append, args := #[Operand.tmp 31, Operand.tmp 33], argTypes := #[22, 22] }, _, _, _, _⟩) (by kernel_rfl) rfl (fun K hK => ?_)
  have ho1 := own_nil8 w6.drew w6.heap.size (Nat.le_refl _)
  refine step_app (w6.drew.alloc (.cells #[] 5)) rfl (.tmp 31) (.tmp 33) 22 rfl w6.heap.size 5 1 1 Tryd.underlying22 u8_info (by omega) (.slice (some ⟨w6.drew.heap.size, 0, none⟩) 0 0) 0 (vals []) (by rfl) ho1 (some ⟨w.heap.size, 2, none⟩) 32 32 (vals t.T) (by rfl) (ZT.out _ hHeld).lies.1 (ZT.out _ hHeld).lies.2 (vals_one _) (by unfold maxLen; omega) (by omega) hHeld.size ?_
  intro v5 w8 ho5 hg5 _
  have b5 := hHeld.grown hg5 hHeld.size (fun q hq => (ho1.lt q hq).1)
  obtain ⟨D5, c5, rfl, _, _⟩ := own_shape ho5
  refine hK.out _ _ (b5) (fun hHeld2 => ?_)
  clear hK K hHeld
  have hHeld := hHeld2
  clear hHeld2
  try simp only [Act.put, List.setIfInBounds_toArray, List.set_cons_zero, List.set_cons_succ]
  refine Late.one (i := 5) (o := ⟨some 36, Op.call { callee := Callee.value (Operand.func 36), args := #[Operand.tmp 35], argTypes := #[33] }, _, _, _, _⟩) (by kernel_rfl) rfl (fun K hK => ?_)
  go_simp
  refine (refgrant_any g HGO.out w8).mono ?_
  intro e w9 hm9
  obtain ⟨D9, c9, rfl, ho9, b9, _, _⟩ := hm9.n (gN_num g)
  have hz9 := Made.bs ho9 (numsB_bytes _)
  have ho59 := own_below ho5 b9 (Nat.le_refl _)
  refine hK.out _ _ (hHeld.trans (b9.mono hHeld.size)) (fun hHeld2 => ?_)
  clear hK K hHeld
  have hHeld := hHeld2
  clear hHeld2
  try simp only [Act.put, List.setIfInBounds_toArray, List.set_cons_zero, List.set_cons_succ]
  refine Late.one (i := 6) (o := ⟨some 37, Op.call { callee := Callee.value (Operand.func 35), args := #[Operand.tmp 34, Operand.tmp 36], argTypes := #[22, 22] }, _, _, _, _⟩) (by kernel_rfl) rfl (fun K hK => ?_)
  go_simp
  have hz7 : Bs w9 w9.heap.size D5 (0 + 32) t.T := bs_of_own ho59 HT5.out.bytes
  refine (refhsum_any c5 c9 hz7 hz9 (Nat.le_refl _) (Nat.le_refl _) (by omega) (by omega)).mono ?_
  rw [show hmacZ t.T (numsB (gN g)) = N from HN.out]
  rintro e w10 ⟨rfl, b10⟩
  refine hK.out _ _ (hHeld.trans (b10.mono hHeld.size)) (fun hHeld2 => ?_)
  clear hK K hHeld
  have hHeld := hHeld2
  clear hHeld2
  try simp only [Act.put, List.setIfInBounds_toArray, List.set_cons_zero, List.set_cons_succ]
  refine Late.take (i := 7) (oi := ⟨some 38, Op.fieldAddr 28 (Operand.tmp 6) 2, _, _, _, _⟩) (v := ?_) rfl (by kernel_rfl) (by kernel_rfl) (by kernel_rfl) (by kernel_rfl) (fun _ _ _ h => h) (Or.inl ⟨by rfl, fun w hSw => ?_⟩) (by assumption) ?_
  rotate_left
  · (have s1 := hSw; go_simp; try with_reducible rfl)
  try simp only [Act.put, List.setIfInBounds_toArray, List.set_cons_zero, List.set_cons_succ]
  refine Late.end_ (i := 8) (o := ⟨none, Op.store 26 (Operand.tmp 38) (Operand.tmp 37), _, _, _, _⟩) (by kernel_rfl) rfl rfl (fun K hK => ?_)
  have hl32 : (vals N).toArray.size = 32 := by rw [List.size_toArray, vals_len, LN.out]
  rw [if_pos (by rfl)]
  refine wp_store_mid 26 (.tmp 38) (.tmp 37) rfl ub 2 (vals N).toArray rfl rfl (by rw [hl32]; exact (X6G.out _ hHeld).tagThere) (tag_size N LN.out) (all_oneCell_toArray (vals_one N)) ?_
  refine hK.out _ _ ?_
  clear hK K
  try simp only [Act.put]
  refine Late.done (by kernel_rfl) ?_ _
  refine NoPanic.normal ?_
  have he : Hid (w10.setCells ub 2 (vals N) = w10.setCells ub 2 (vals N)) := Lib.hid rfl
  have X11 : Hid (Box (w10.setCells ub 2 (vals N)) ub { u0 with T := N }) := Lib.hid ((X6G.out _ hHeld).setTag LN.out)
  have B11 := Lib.hid (below_storeH (B6.out.trans (hHeld.mono s6)) HUB.out he)
  have GR11 := Lib.hid (((GR6.out.below hHeld).otherH (fun b' off hq => (HAP.out b' off hq).2) he).more (Nat.le_trans hHeld.size (size_storeH he)))
  generalize w10.setCells ub 2 (vals N) = w11 at *
  clear he hHeld X6 X6G GR6
  obtain ⟨u, hu⟩ : ∃ u : TokZ, { u0 with T := N } = u := ⟨_, rfl⟩
  rw [hu] at X11
  obtain ⟨e1, e2, e3, e4, e5⟩ : u.tn = t.tn ∧ u.A = D ∧ u.m = t.m + 1 ∧ u.c = d ∧ u.T = N := by rw [← hu, ← HU0.out]; exact ⟨rfl, rfl, rfl, rfl, rfl⟩
  have LU : Hid (u.T.length = 32) := Lib.hid (by rw [e5]; exact LN.out)
  have K11 : Hid (Tok w11 w11.heap.size u (l ++ [g])) := Lib.hid (by
    refine ⟨LU.out, by rw [e5]; exact BN.out, by rw [e1]; exact HT5.out.tn, ?_, by rw [e3, e4]; exact HDC.out.1, by rw [e4]; exact HDC.out.2⟩
    rw [e2, e3]; exact GR11.out)
  have HPU : Hid (pt u (l ++ [g]) = ⟨t.tn, l ++ [g], N⟩) := Lib.hid (by unfold pt; rw [e1, e5])
  have HUA : Hid (∀ b' off, u.A = some ⟨b', off, none⟩ → w.heap.size + 3 ≤ b') := Lib.hid (fun b' off hq => by rw [e2] at hq; have := (HAP.out b' off hq).1; omega)
  clear hu e1 e2 e3 e4 e5 GR11
  have HR11 := Lib.hid ((HR3.out.grow B5.out).below B11.out (by omega))
  have TH := Lib.hid (HR11.out.thereA LU.out)
  have Q11 := Lib.hid (HB3.out.trans ((B5.out.trans (B11.out.mono s5)).mono HB3.out.size))
  have G5 := LU
  have G6 := LU
  go_wp2_with (first
    | (have g := G5; clear g; refine wpList_load_mid (op := ⟨some 39, .load 28 (.tmp 6), _, _, _, _⟩) rfl 28 (.tmp 6) rfl (ub) 0 rfl (tv u) _ X11.out.range Tryd.underlying28 rfl (tok_size X11.out.len) ?_; clear G5)
    | (have g := G6; clear g; refine wpList_store_as (op := ⟨none, .store 28 (.tmp 4) (.tmp 39), _, _, _, _⟩) rfl 28 (.tmp 4) (.tmp 39) rfl (w.heap.size + 2) 0 (tv u).toArray rfl rfl TH.out (tok_sizeA LU.out) (tok_one _) ?_; intro w12 hw12; clear G6))
  have R12 := HR11.out.storeH LU.out hw12
  have q12 := below_storeH Q11.out (by omega) hw12
  have K12 : Tok w12 w12.heap.size u (l ++ [g]) := by
    have hl := K11.out
    exact ⟨hl.len, hl.bytes, hl.tn, (hl.line.otherH (fun b' off hq => by have := HUA.out b' off hq; omega) hw12).more (size_storeH hw12), hl.mc, hl.cm⟩
  rw [HP.out, HN.out]
  exact bodyPost_ret (v := .tuple #[.agg (tv u).toArray, .int .i64 0]) (results_mid_tmp (p := 4) (u := 5) (ty := 28) rfl _ _ (w.heap.size + 2) 0 (tv u) _ rfl R12.range Tryd.underlying28 rfl (tok_size LU.out)) rfl ⟨u, l ++ [g], rfl, K12, HPU.out, q12, fun b' off hq => by have := HUA.out b' off hq; omega⟩
end Go.Proofs.YtpamgeenknkjcaaDoor
