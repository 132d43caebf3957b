/- token.Attenuate. -/
import Derived.Test.YtmeafjehcckibaaDoorTkB
import Derived.Test.YtmeafjehcckibaaDoorTkM
namespace Go.Proofs.YtmeafjehcckibaaDoor
open Go.ChangeShapes Go.WideShapes Go.ChangeAt Go.RowKit
set_option linter.unusedVariables false
set_option linter.unusedSimpArgs false
open Plain Sha
/-- The cells of a grant's variable. -/
def GCell (W : World) (b : Nat) (g : GrantZ) : Prop := W.cell? ⟨b, 0, none⟩ = some (.int .u8 g.r) ∧ W.cell? ⟨b, 1, none⟩ = some (.int .i64 g.x) ∧ W.cell? ⟨b, 2, none⟩ = some (.int .i64 g.s)
theorem GCell.below {W W' : World} {b B : Nat} {g : GrantZ} (h : GCell W b g) (hb : Below B W W') (hB : b < B) : GCell W' b g :=
  ⟨(hb.cell (p := ⟨b, 0, none⟩) hB).trans h.1, (hb.cell (p := ⟨b, 1, none⟩) hB).trans h.2.1, (hb.cell (p := ⟨b, 2, none⟩) hB).trans h.2.2⟩
theorem gcell_new (w : World) (g : GrantZ) (y : TypeId) (b : Nat) (hb : w.heap.size = b) : GCell (w.alloc (.cells #[.int .u8 g.r, .int .i64 g.x, .int .i64 g.s] y)) b g := by
  subst hb
  have e := heap_alloc_new w (.cells #[.int .u8 g.r, .int .i64 g.x, .int .i64 g.s] y)
  refine ⟨?_, ?_, ?_⟩ <;> (rw [cell_of_row _ _ _ _ _ _ e]; rfl)
set_option maxRecDepth 100000 in
set_option maxHeartbeats 4000000 in
theorem att_any {w : World} {B : Nat} {t : TokZ} {l : List GrantZ} (h : Tok w B t l) (hB : B ≤ w.heap.size) (g : GrantZ) (hg : GOk g) (hF : LaidF w) (hK : LaidK w) :
    Calls Tryd.prog 24 #[.agg (tv t).toArray, .agg #[.int .u8 g.r, .int .i64 g.x, .int .i64 g.s]] w (Gives w (attP (pt t l) g)) := by
  obtain ⟨W3, hW3⟩ : ∃ W, W = ((w.alloc (.cells (tv t).toArray 26)).alloc (.cells #[.int .u8 g.r, .int .i64 g.x, .int .i64 g.s] 44)).alloc (.cells (tv tok0).toArray 26) := ⟨_, rfl⟩
  have s3 : W3.heap.size = w.heap.size + 3 := by rw [hW3]; simp
  have a1 : Below w.heap.size w (w.alloc (.cells (tv t).toArray 26)) := (Below.refl _ _).alloc (Nat.le_refl _) _
  have b3 : Below w.heap.size w W3 := by rw [hW3]; exact (a1.alloc (by simp) _).alloc (by simp; omega) _
  have x3 : Box W3 w.heap.size t := by
    rw [hW3]
    exact ((box_new w t h.len _ _ rfl).grow ((Below.refl _ _).alloc (Nat.le_refl _) _)).grow ((Below.refl _ _).alloc (Nat.le_refl _) _)
  have g3 : GCell W3 (w.heap.size + 1) g := by
    rw [hW3]
    exact (gcell_new _ g 44 (w.heap.size + 1) (by simp)).below ((Below.refl _ _).alloc (Nat.le_refl _) _) (by simp)
  have r3 : Box W3 (w.heap.size + 2) tok0 := by rw [hW3]; exact box_new _ tok0 rep32 _ _ (by simp)
  have HX3 := Lib.hid x3
  have HG3 := Lib.hid g3
  have HR3 := Lib.hid r3
  have HB3 := Lib.hid b3
  have HT3 := Lib.hid (h.belowM b3 hB)
  have HF3 := Lib.hid (hF.below b3 hF.lt)
  have HK3 := Lib.hid (hK.below b3 hK.lt)
  have HGO := Lib.hid hg
  have HW3 := Lib.hid hW3
  have HL : Hid (t.T.length = 32) := Lib.hid h.len
  have hBs : B ≤ W3.heap.size := Nat.le_trans hB b3.size
  clear h hg hF hK hW3 a1 b3 x3 g3 r3
  obtain ⟨q1, hq1⟩ : ∃ q, mayT t.tn l = q := ⟨_, rfl⟩
  obtain ⟨q2, hq2⟩ : ∃ q, mayB g = q := ⟨_, rfl⟩
  have HQ1 := Lib.hid hq1
  have HQ2 := Lib.hid hq2
  have TM := Lib.hid (tmay_val q1 HT3.out hBs hq1)
  clear hq1 hq2
  go_enter Tryd.func24, Tryd.ntmps24
  go_upto_region 1 with fail
  simp only [zTok]
  rw [← HW3.out]
  have G1 := HL
  have G3 := HL
  have G4 := HL
  cases q1
  · have HP : Hid (attP (pt t l) g = (pt0, 2)) := Lib.hid (by unfold attP pt; rw [HQ1.out]; rfl)
    go_wp2_with (first
    | (have g := G1; clear g; refine wpList_load_mid (op := ⟨some 7, .load 26 (.tmp 2), _, _, _, _⟩) rfl 26 (.tmp 2) rfl (w.heap.size) 0 rfl (tv t) _ HX3.out.range Tryd.underlying26 rfl (tok_size HX3.out.len) ?_; clear G1)
    | (go_at_call 16; refine TM.out.mono ?_; rintro e w4 ⟨rfl, hb4⟩; have B4 := Lib.hid hb4; have TH := Lib.hid ((HR3.out.grow hb4).thereA (u := tok0) rep32); clear hb4)
    | (have g := G3; clear g; refine wpList_exec (op := ⟨some 15, .build 26 #[], _, _, _, _⟩) rfl (.agg (tv tok0).toArray) (by kernel_rfl) ?_; clear G3)
    | (have g := G4; clear g; refine wpList_store_as (op := ⟨none, .store 26 (.tmp 4) (.tmp 15), _, _, _, _⟩) rfl 26 (.tmp 4) (.tmp 15) rfl (w.heap.size + 2) 0 (tv tok0).toArray rfl rfl TH.out (tok_sizeA (t := tok0) rep32) (tok_one _) ?_; intro w6 hw6; clear G4))
    have R6 := (HR3.out.grow B4.out).storeH (u := tok0) rep32 hw6
    have q6 := below_storeH (HB3.out.trans (B4.out.mono HB3.out.size)) (by omega) hw6
    rw [HP.out]
    exact bodyPost_ret (v := .tuple #[.agg (tv tok0).toArray, .int .i64 2]) (results_mid_tmp (p := 4) (u := 5) (ty := 26) rfl _ _ (w.heap.size + 2) 0 (tv tok0) _ rfl R6.range Tryd.underlying26 rfl (tok_size (t := tok0) rep32)) rfl (gives_none q6)
  cases q2
  · have HP : Hid (attP (pt t l) g = (pt0, 2)) := Lib.hid (by unfold attP pt; rw [HQ1.out, HQ2.out]; rfl)
    go_wp2_with (first
    | (have g := G1; clear g; refine wpList_load_mid (op := ⟨some 7, .load 26 (.tmp 2), _, _, _, _⟩) rfl 26 (.tmp 2) rfl (w.heap.size) 0 rfl (tv t) _ HX3.out.range Tryd.underlying26 rfl (tok_size HX3.out.len) ?_; clear G1)
    | (go_at_call 16; refine TM.out.mono ?_; rintro e w4 ⟨rfl, hb4⟩; have B4 := Lib.hid hb4; have c4 := HG3.out.below hb4 (by omega); obtain ⟨d0, d1, d2⟩ := c4; clear hb4)
    | (go_at_call 32; refine (may_val g false HQ2.out _).mono ?_; rintro e w5 ⟨rfl, hb5⟩; have B5 := Lib.hid (B4.out.trans (hb5.mono B4.out.size)); have TH := Lib.hid ((HR3.out.grow B5.out).thereA (u := tok0) rep32); have c1 := (HX3.out.grow B5.out).c1; clear hb5 d0 d1 d2)
    | (have g := G3; clear g; refine wpList_exec (op := ⟨some 15, .build 26 #[], _, _, _, _⟩) rfl (.agg (tv tok0).toArray) (by kernel_rfl) ?_; clear G3)
    | (have g := G4; clear g; refine wpList_store_as (op := ⟨none, .store 26 (.tmp 4) (.tmp 15), _, _, _, _⟩) rfl 26 (.tmp 4) (.tmp 15) rfl (w.heap.size + 2) 0 (tv tok0).toArray rfl rfl TH.out (tok_sizeA (t := tok0) rep32) (tok_one _) ?_; intro w6 hw6; clear G4))
    have R6 := (HR3.out.grow B5.out).storeH (u := tok0) rep32 hw6
    have q6 := below_storeH (HB3.out.trans (B5.out.mono HB3.out.size)) (by omega) hw6
    rw [HP.out]
    exact bodyPost_ret (v := .tuple #[.agg (tv tok0).toArray, .int .i64 2]) (results_mid_tmp (p := 4) (u := 5) (ty := 26) rfl _ _ (w.heap.size + 2) 0 (tv tok0) _ rfl R6.range Tryd.underlying26 rfl (tok_size (t := tok0) rep32)) rfl (gives_none q6)
  have hl4 : l.length ≤ 4 := by have := HQ1.out; simp [mayT, lineB] at this; omega
  have hlm : l.length = t.m := HT3.out.line.len
  by_cases hm4 : t.m = 4
  · have HP : Hid (attP (pt t l) g = (pt0, 4)) := Lib.hid (by unfold attP pt; rw [HQ1.out, HQ2.out]; simp [hlm, hm4])
    have hmI : ((t.m : Int) == 4) = true := by simp [hm4]
    clear hm4
    go_wp2_with (first
    | (have g := G1; clear g; refine wpList_load_mid (op := ⟨some 7, .load 26 (.tmp 2), _, _, _, _⟩) rfl 26 (.tmp 2) rfl (w.heap.size) 0 rfl (tv t) _ HX3.out.range Tryd.underlying26 rfl (tok_size HX3.out.len) ?_; clear G1)
    | (go_at_call 16; refine TM.out.mono ?_; rintro e w4 ⟨rfl, hb4⟩; have B4 := Lib.hid hb4; have c4 := HG3.out.below hb4 (by omega); obtain ⟨d0, d1, d2⟩ := c4; clear hb4)
    | (go_at_call 32; refine (may_val g true HQ2.out _).mono ?_; rintro e w5 ⟨rfl, hb5⟩; have B5 := Lib.hid (B4.out.trans (hb5.mono B4.out.size)); have TH := Lib.hid ((HR3.out.grow B5.out).thereA (u := tok0) rep32); have c1 := (HX3.out.grow B5.out).c1; clear hb5 d0 d1 d2)
    | (have g := G3; clear g; refine wpList_exec (op := ⟨some 20, .build 26 #[], _, _, _, _⟩) rfl (.agg (tv tok0).toArray) (by kernel_rfl) ?_; clear G3)
    | (have g := G4; clear g; refine wpList_store_as (op := ⟨none, .store 26 (.tmp 4) (.tmp 20), _, _, _, _⟩) rfl 26 (.tmp 4) (.tmp 20) rfl (w.heap.size + 2) 0 (tv tok0).toArray rfl rfl TH.out (tok_sizeA (t := tok0) rep32) (tok_one _) ?_; intro w6 hw6; clear G4))
    have R6 := (HR3.out.grow B5.out).storeH (u := tok0) rep32 hw6
    have q6 := below_storeH (HB3.out.trans (B5.out.mono HB3.out.size)) (by omega) hw6
    rw [HP.out]
    exact bodyPost_ret (v := .tuple #[.agg (tv tok0).toArray, .int .i64 4]) (results_mid_tmp (p := 4) (u := 5) (ty := 26) rfl _ _ (w.heap.size + 2) 0 (tv tok0) _ rfl R6.range Tryd.underlying26 rfl (tok_size (t := tok0) rep32)) rfl (gives_none q6)
  have HP : Hid (attP (pt t l) g = (⟨t.tn, l ++ [g], nextZ t.T g⟩, 0)) := Lib.hid (by unfold attP pt; rw [HQ1.out, HQ2.out]; simp [hlm, hm4])
  have hmI : ((t.m : Int) == 4) = false := by simp; omega
  have hm3 : t.m ≤ 4 := by omega
  clear hm4
  go_upto_region 5 with (first
    | (have g := G1; clear g; refine wpList_load_mid (op := ⟨some 7, .load 26 (.tmp 2), _, _, _, _⟩) rfl 26 (.tmp 2) rfl (w.heap.size) 0 rfl (tv t) _ HX3.out.range Tryd.underlying26 rfl (tok_size HX3.out.len) ?_; clear G1)
    | (go_at_call 16; refine TM.out.mono ?_; rintro e w4 ⟨rfl, hb4⟩; have B4 := Lib.hid hb4; have c4 := HG3.out.below hb4 (by omega); obtain ⟨d0, d1, d2⟩ := c4; clear hb4)
    | (go_at_call 32; refine (may_val g true HQ2.out _).mono ?_; rintro e w5 ⟨rfl, hb5⟩; have B5 := Lib.hid (B4.out.trans (hb5.mono B4.out.size)); have TH := Lib.hid ((HR3.out.grow B5.out).thereA (u := tok0) rep32); have c1 := (HX3.out.grow B5.out).c1; clear hb5 d0 d1 d2))
  clear TH
  obtain ⟨d0, d1, d2⟩ := HG3.out.below B5.out (by omega)
  have W7b : Hid (Below w5.heap.size w5 ((w5.alloc (.cells #[.int .u8 g.r, .int .i64 g.x, .int .i64 g.s] 44)).alloc (.cells #[.slice t.A t.m t.c, .slice (some ⟨w5.heap.size, 0, none⟩) 1 1] 22))) := Lib.hid (((Below.refl _ _).alloc (Nat.le_refl _) _).alloc (by simp) _)
  have CC := Lib.hid (concat2G (n1 := t.m) (n2 := 1) (w := (w5.alloc (.cells #[.int .u8 g.r, .int .i64 g.x, .int .i64 g.s] 44)).alloc (.cells #[.slice t.A t.m t.c, .slice (some ⟨w5.heap.size, 0, none⟩) 1 1] 22)) (b := w5.heap.size + 1) 2 (by simp)
    (by rw [show w5.heap.size + 1 = (w5.alloc (.cells #[.int .u8 g.r, .int .i64 g.x, .int .i64 g.s] 44)).heap.size by simp, cell_of_row _ _ _ _ _ _ (heap_alloc_new _ _)]; rfl)
    (by rw [show w5.heap.size + 1 = (w5.alloc (.cells #[.int .u8 g.r, .int .i64 g.x, .int .i64 g.s] 44)).heap.size by simp, cell_of_row _ _ _ _ _ _ (heap_alloc_new _ _)]; rfl)
    ((HT3.out.line.belowM B5.out hBs).belowM W7b.out (Nat.le_trans hBs B5.out.size)) ((grants_new w5 [g] 44 _ rfl (fun x hx => by rw [List.mem_singleton] at hx; subst hx; exact HGO.out)).below ((Below.refl _ _).alloc (by simp) _))
    (Nat.le_trans hBs (Nat.le_trans B5.out.size W7b.out.size)) (by simp) (by omega))
  go_upto_region 6 with (go_at_call 33; refine CC.out.mono ?_; rintro e w8 ⟨D, d, rfl, hg8, hd1, hd2, hnew, hb8⟩)
  have B58 : Hid (Below w5.heap.size w5 w8) := Lib.hid (W7b.out.trans (hb8.mono W7b.out.size))
  have B8 : Hid (Below W3.heap.size W3 w8) := Lib.hid (B5.out.trans (B58.out.mono B5.out.size))
  have G8 := Lib.hid hg8
  have G8F : Hid (∀ b' off, D = some ⟨b', off, none⟩ → W3.heap.size ≤ b') := Lib.hid (fun b' off hq => Nat.le_trans (Nat.le_trans B5.out.size W7b.out.size) (hnew b' off hq))
  clear hb8 hg8 hnew CC W7b c1 d0 d1 d2 B58
  have HC0 : Hid (∀ W, Below W3.heap.size W3 W → W.cell? ⟨w.heap.size, 0, none⟩ = some (.int .i64 t.tn)) := Lib.hid (fun W hW => (HX3.out.grow hW).c0)
  have HCG : Hid (∀ W, Below W3.heap.size W3 W → GCell W (w.heap.size + 1) g) := Lib.hid (fun W hW => HG3.out.below hW (by omega))
  obtain ⟨N, hN⟩ : ∃ N, nextZ t.T g = N := ⟨_, rfl⟩
  have LN : Hid (N.length = 32) := Lib.hid (by rw [← hN]; exact nextZ_len _ _)
  have BN : Hid (IsBytes N) := Lib.hid (by rw [← hN]; exact nextZ_bytes _ _)
  have HN := Lib.hid hN
  obtain ⟨u, hu⟩ : ∃ u : TokZ, (⟨t.tn, D, t.m + 1, d, N⟩ : TokZ) = u := ⟨_, rfl⟩
  have LU : Hid (u.T.length = 32) := Lib.hid (by rw [← hu]; exact LN.out)
  have HU := Lib.hid hu
  have hbt := build_tok t.tn D (t.m + 1) d LN.out
  rw [hu] at hbt
  clear hN hu
  have htn := HT3.out.tn
  have hbT := HT3.out.bytes
  refine Late.region (fun w' => Below W3.heap.size W3 w' ∧ Below w8.heap.size w8 w') [8, 9] (by kernel_rfl) ⟨B8.out.drew, (Below.refl _ _).drew⟩ (fun hHeld => ?_)
  refine Late.take (i := 0) (oi := ⟨some 27, Op.fieldAddr 26 (Operand.tmp 2) 0, _, _, _, _⟩) (v := ?_) rfl (by kernel_rfl) (by kernel_rfl) (by kernel_rfl) (by kernel_rfl) (fun _ _ _ h => h) (Or.inl ⟨by rfl, fun w hSw => ?_⟩) (by assumption) ?_
  rotate_left
  · (have s1 := hSw; go_simp; try with_reducible rfl)
  try simp only [Act.put, List.setIfInBounds_toArray, List.set_cons_zero, List.set_cons_succ]
  refine Late.take (i := 1) (oi := ⟨some 28, Op.load 3 (Operand.tmp 27), _, _, _, _⟩) (v := ?_) rfl (by kernel_rfl) (by kernel_rfl) (by kernel_rfl) (by kernel_rfl) (fun _ _ _ h => h) (Or.inl ⟨by rfl, fun w hSw => ?_⟩) (by assumption) ?_
  rotate_left
  · (have s1 := hSw; have c := HC0.out _ hSw.1; go_simp; try with_reducible rfl)
  try simp only [Act.put, List.setIfInBounds_toArray, List.set_cons_zero, List.set_cons_succ]
  refine Late.take (i := 2) (oi := ⟨some 29, Op.move (Operand.tmp 6), _, _, _, _⟩) (v := ?_) rfl (by kernel_rfl) (by kernel_rfl) (by kernel_rfl) (by kernel_rfl) (fun _ _ _ h => h) (Or.inl ⟨by rfl, fun w hSw => ?_⟩) (by assumption) ?_
  rotate_left
  · (have s1 := hSw; go_simp; try with_reducible rfl)
  try simp only [Act.put, List.setIfInBounds_toArray, List.set_cons_zero, List.set_cons_succ]
  refine Late.take (i := 3) (oi := ⟨some 30, Op.fieldAddr 26 (Operand.tmp 2) 2, _, _, _, _⟩) (v := ?_) rfl (by kernel_rfl) (by kernel_rfl) (by kernel_rfl) (by kernel_rfl) (fun _ _ _ h => h) (Or.inl ⟨by rfl, fun w hSw => ?_⟩) (by assumption) ?_
  rotate_left
  · (have s1 := hSw; go_simp; try with_reducible rfl)
  try simp only [Act.put, List.setIfInBounds_toArray, List.set_cons_zero, List.set_cons_succ]
  refine Late.take (i := 4) (oi := ⟨some 31, Op.load 24 (Operand.tmp 30), _, _, _, _⟩) (v := _) rfl (by kernel_rfl) (by kernel_rfl) (by kernel_rfl) (by kernel_rfl) (fun _ _ _ h => h) (yieldsIf_load_mid (by rfl) _ _ rfl _ _ rfl (vals t.T) _ (fun _ h => (HX3.out.grow h.1).tag) Tryd.underlying24 rfl (tag_size t.T HL.out)) (by assumption) ?_
  try simp only [Act.put, List.setIfInBounds_toArray, List.set_cons_zero, List.set_cons_succ]
  refine Late.take (i := 5) (oi := ⟨some 32, Op.load 44 (Operand.tmp 3), _, _, _, _⟩) (v := ?_) rfl (by kernel_rfl) (by kernel_rfl) (by kernel_rfl) (by kernel_rfl) (fun _ _ _ h => h) (Or.inl ⟨by rfl, fun w hSw => ?_⟩) (by assumption) ?_
  rotate_left
  · (have s1 := hSw; obtain ⟨q0, q1, q2⟩ := HCG.out _ hSw.1; go_simp; try with_reducible rfl)
  try simp only [Act.put, List.setIfInBounds_toArray, List.set_cons_zero, List.set_cons_succ]
  refine Late.one (i := 6) (o := ⟨some 33, Op.call { callee := Callee.value (Operand.func 34), args := #[Operand.tmp 31, Operand.tmp 32], argTypes := #[24, 44] }, _, _, _, _⟩) (by kernel_rfl) rfl (fun K hK => ?_)
  go_simp
  refine (next_any HL.out hbT HGO.out (HF3.out.below hHeld.1 HF3.out.lt) (HK3.out.below hHeld.1 HK3.out.lt)).mono ?_
  rw [HN.out]
  rintro e w9 ⟨rfl, b9⟩
  have hH9 := hHeld.1.trans (b9.mono hHeld.1.size)
  have b89 := hHeld.2.trans (b9.mono hHeld.2.size)
  refine hK.out _ _ (⟨hH9, b89⟩) (fun hHeld2 => ?_)
  clear hK K hHeld
  have hHeld := hHeld2
  clear hHeld2
  try simp only [Act.put, List.setIfInBounds_toArray, List.set_cons_zero, List.set_cons_succ]
  refine Late.one (i := 7) (o := ⟨some 34, Op.build 26 #[(0, Operand.tmp 28), (1, Operand.tmp 29), (2, Operand.tmp 33)], _, _, _, _⟩) (by kernel_rfl) rfl (fun K hK => ?_)
  rw [if_pos (by rfl)]
  refine wp_exec (.agg (tv u).toArray) (by simp [execOp, Act.eval, hbt]) ?_
  refine hK.out _ _ (hHeld) (fun hHeld2 => ?_)
  clear hK K hHeld
  have hHeld := hHeld2
  clear hHeld2
  try simp only [Act.put, List.setIfInBounds_toArray, List.set_cons_zero, List.set_cons_succ]
  refine Late.end_ (i := 8) (o := ⟨none, Op.store 26 (Operand.tmp 4) (Operand.tmp 34), _, _, _, _⟩) (by kernel_rfl) rfl rfl (fun K hK => ?_)
  rw [if_pos (by rfl)]
  refine wp_store_mid 26 (.tmp 4) (.tmp 34) rfl (w.heap.size + 2) 0 (tv u).toArray rfl rfl ((HR3.out.grow hHeld.1).thereA LU.out) (tok_sizeA LU.out) (tok_one _) ?_
  refine hK.out _ _ ?_
  clear hK K
  try simp only [Act.put]
  refine Late.end_ (i := 9) (o := ⟨some 5, Op.assign (Operand.const (Value.int IntKind.i64 0)), _, _, _, _⟩) (by kernel_rfl) rfl rfl (fun K hK => ?_)
  go_simp
  refine hK.out _ _ ?_
  clear hK K
  try simp only [Act.put, List.setIfInBounds_toArray, List.set_cons_zero, List.set_cons_succ]
  refine Late.done (by kernel_rfl) ?_ _
  refine NoPanic.normal ?_
  have hw10 : Hid (w9.setCells (w.heap.size + 2) 0 (tv u) = w9.setCells (w.heap.size + 2) 0 (tv u).toArray.toList) := Lib.hid rfl
  have R10 := (HR3.out.grow hHeld.1).storeH LU.out hw10
  have q10 := below_storeH (HB3.out.trans (hHeld.1.mono HB3.out.size)) (by omega) hw10
  have z10 := size_storeH hw10
  have K10 : Tok (w9.setCells (w.heap.size + 2) 0 (tv u)) (w9.setCells (w.heap.size + 2) 0 (tv u)).heap.size u (l ++ [g]) := by
    obtain ⟨e1, e2, e3, e4, e5⟩ : u.tn = t.tn ∧ u.A = D ∧ u.m = t.m + 1 ∧ u.c = d ∧ u.T = N := by rw [← HU.out]; exact ⟨rfl, rfl, rfl, rfl, rfl⟩
    refine ⟨by rw [e5]; exact LN.out, by rw [e5]; exact BN.out, by rw [e1]; exact htn, ?_, by rw [e3, e4]; exact hd1, by rw [e4]; exact hd2⟩
    rw [e2, e3]
    exact ((G8.out.below hHeld.2).otherH (fun b' off hq => by have := G8F.out b' off hq; omega) hw10).more (Nat.le_trans hHeld.2.size z10)
  generalize w9.setCells (w.heap.size + 2) 0 (tv u) = w10 at *
  clear z10 hHeld
  go_wp2
  rw [HP.out, HN.out]
  exact bodyPost_ret (v := .tuple #[.agg (tv u).toArray, .int .i64 0]) (results_mid_tmp (p := 4) (u := 5) (ty := 26) rfl _ _ (w.heap.size + 2) 0 (tv u) _ rfl R10.range Tryd.underlying26 rfl (tok_size LU.out)) rfl ⟨u, l ++ [g], rfl, K10, by rw [← HU.out]; rfl, q10, fun b' off hq => by rw [← HU.out] at hq; have := G8F.out b' off hq; omega⟩
end Go.Proofs.YtmeafjehcckibaaDoor
