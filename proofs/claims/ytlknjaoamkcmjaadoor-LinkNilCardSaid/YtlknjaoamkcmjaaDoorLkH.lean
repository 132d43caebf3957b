/- take: the program's. -/
import Derived.Test.YtlknjaoamkcmjaaDoorLkG
namespace Go.Proofs.YtlknjaoamkcmjaaDoor
open Go.ChangeShapes Go.WideShapes Go.ChangeAt Go.RowKit
set_option linter.unusedVariables false
set_option maxRecDepth 100000
set_option linter.unusedSimpArgs false
open Plain Sha Wn Lk
/-- What take tells. -/
def TakeT (w : World) (b : Nat) (K : Nat → Prop) (r : Int × EdZ) (e : Ending) (w' : World) : Prop := e = .returned (.int .i64 r.1) ∧ ∃ K', EP w' b K' r.2 ∧ Moved K w w' ∧ Newer w K K'
theorem eqB_iffL {a b : List Int} : eqB a b = true ↔ a = b := by unfold eqB; exact decide_eq_true_iff
set_option maxHeartbeats 8000000 in
theorem take_other {w : World} {b : Nat} {K : Nat → Prop} {x : EdZ} (h : EP w b K x) {px : PX} {B : Nat} (hp : PXOk w B px) (hB : B ≤ w.heap.size) (hl : px.n ≤ 65000) (hF : LaidF w) (hK : LaidK w) (hto : px.z.tw ≠ x.who)
    : Calls Tryd.prog 39 #[.pointer (some ⟨b, 0, none⟩), .agg (pc px).toArray] w (TakeT w b K (takeE x px.z)) := by
  obtain ⟨Ar, nr, cr, m, q, E⟩ := h
  have E0 := Lib.hid E
  obtain ⟨g, hg⟩ : ∃ g, w.heap.size = g := ⟨_, rfl⟩
  have HG := Lib.hid hg
  obtain ⟨W1, hW1⟩ : ∃ W, W = w.alloc (.cells (pc px).toArray 26) := ⟨_, rfl⟩
  have V1 := Lib.hid (show VBox W1 g 38 (pc px) by rw [hW1]; exact pbox_new w px hp.ok.tl _ g hg)
  have B1 := Lib.hid (show Below g w W1 by rw [hW1, ← hg]; exact below_one _ _)
  obtain ⟨nb, hnb⟩ : ∃ nb, W1.heap.size = nb := ⟨_, rfl⟩
  have HNB := Lib.hid hnb
  have GN : Hid (nb = g + 1) := Lib.hid (by rw [← hnb, hW1]; simp [hg])
  have HW1 := Lib.hid hW1
  have HP := Lib.hid hp
  have HPO := Lib.hid hp.ok
  have htl := hp.ok.tl
  have PP : Hid (∀ W, Below g w W → PXOk W B px ∧ B ≤ W.heap.size) := Lib.hid (fun W hW => ⟨hp.below hW (by omega), by have := hW.size; omega⟩)
  have LL : Hid (∀ W, Below g w W → LaidF W ∧ LaidK W) := Lib.hid (fun W hW => ⟨hF.below hW (by have := hF.lt; omega), hK.below hW (by have := hK.lt; omega)⟩)
  have LE : Hid (∀ W, Below g w W → EPs W b K x Ar nr cr m q) := Lib.hid (fun W hW => E.grow (by rw [hg]; exact hW))
  have LV : Hid (∀ W, Below nb W1 W → VBox W g 38 (pc px)) := Lib.hid (fun W hW => V1.out.below hW (by have := GN.out; omega))
  have LG : Hid (∀ W, Below nb W1 W → Below g w W) := Lib.hid (fun W hW => B1.out.trans (hW.mono (by have := GN.out; omega)))
  have HTO := Lib.hid hto
  clear hW1 hg hnb hp E hF hK
  have c1 := (LE.out W1.drew (B1.out.drew)).c1
  have k1 : W1.drew.cell? ⟨g, 1, none⟩ = some (.int .i64 px.z.tw) := (pbox_cells V1.out).2.1
  go_enter Tryd.func39, Tryd.ntmps39
  go_upto_region 1 with fail
  rw [← HW1.out, HG.out]
  refine Late.region (fun w' => w' = W1.drew) [] (by kernel_rfl) rfl (fun hHeld => ?_)
  refine Late.take (i := 0) (oi := ⟨some 7, Op.fieldAddr 26 (Operand.tmp 3) 1, _, _, _, _⟩) (v := ?_) rfl (by kernel_rfl) (by kernel_rfl) (by kernel_rfl) (by kernel_rfl) (fun _ _ _ h => h) (Or.inl ⟨by rfl, fun w hSw => ?_⟩) (by assumption) ?_
  rotate_left
  · (have s1 := hSw; go_simp; try with_reducible rfl)
  try simp only [Act.put, List.setIfInBounds_toArray, List.set_cons_zero, List.set_cons_succ]
  refine Late.take (i := 1) (oi := ⟨some 8, Op.load 3 (Operand.tmp 7), _, _, _, _⟩) (v := ?_) rfl (by kernel_rfl) (by kernel_rfl) (by kernel_rfl) (by kernel_rfl) (fun _ _ _ h => h) (Or.inl ⟨by rfl, fun w hSw => ?_⟩) (by assumption) ?_
  rotate_left
  · (have s1 := hSw; subst hSw; go_simp; try with_reducible rfl)
  try simp only [Act.put, List.setIfInBounds_toArray, List.set_cons_zero, List.set_cons_succ]
  refine Late.take (i := 2) (oi := ⟨some 9, Op.move (Operand.tmp 0), _, _, _, _⟩) (v := ?_) rfl (by kernel_rfl) (by kernel_rfl) (by kernel_rfl) (by kernel_rfl) (fun _ _ _ h => h) (Or.inl ⟨by rfl, fun w hSw => ?_⟩) (by assumption) ?_
  rotate_left
  · (have s1 := hSw; go_simp; try with_reducible rfl)
  try simp only [Act.put, List.setIfInBounds_toArray, List.set_cons_zero, List.set_cons_succ]
  refine Late.take (i := 3) (oi := ⟨some 10, Op.nilCheck (Operand.tmp 9), _, _, _, _⟩) (v := ?_) rfl (by kernel_rfl) (by kernel_rfl) (by kernel_rfl) (by kernel_rfl) (fun _ _ _ h => h) (Or.inl ⟨by rfl, fun w hSw => ?_⟩) (by assumption) ?_
  rotate_left
  · (have s1 := hSw; go_simp; try with_reducible rfl)
  try simp only [Act.put, List.setIfInBounds_toArray, List.set_cons_zero, List.set_cons_succ]
  refine Late.take (i := 4) (oi := ⟨some 11, Op.fieldAddr 43 (Operand.tmp 10) 1, _, _, _, _⟩) (v := ?_) rfl (by kernel_rfl) (by kernel_rfl) (by kernel_rfl) (by kernel_rfl) (fun _ _ _ h => h) (Or.inl ⟨by rfl, fun w hSw => ?_⟩) (by assumption) ?_
  rotate_left
  · (have s1 := hSw; go_simp; try with_reducible rfl)
  try simp only [Act.put, List.setIfInBounds_toArray, List.set_cons_zero, List.set_cons_succ]
  refine Late.take (i := 5) (oi := ⟨some 12, Op.load 3 (Operand.tmp 11), _, _, _, _⟩) (v := ?_) rfl (by kernel_rfl) (by kernel_rfl) (by kernel_rfl) (by kernel_rfl) (fun _ _ _ h => h) (Or.inl ⟨by rfl, fun w hSw => ?_⟩) (by assumption) ?_
  rotate_left
  · (have s1 := hSw; subst hSw; go_simp; try with_reducible rfl)
  try simp only [Act.put, List.setIfInBounds_toArray, List.set_cons_zero, List.set_cons_succ]
  refine Late.take (i := 6) (oi := ⟨some 13, Op.binOp BinOp.neq 3 (Operand.tmp 8) (Operand.tmp 12) 3, _, _, _, _⟩) (v := ?_) rfl (by kernel_rfl) (by kernel_rfl) (by kernel_rfl) (by kernel_rfl) (fun _ _ _ h => h) (Or.inl ⟨by rfl, fun w hSw => ?_⟩) (by assumption) ?_
  rotate_left
  · (have s1 := hSw; go_simp; try with_reducible rfl)
  try simp only [Act.put, List.setIfInBounds_toArray, List.set_cons_zero, List.set_cons_succ]
  refine Late.done (by kernel_rfl) ?_ _
  refine NoPanic.normal ?_
  clear hHeld c1 k1
  go_wp2
  go_ret
  have hx : takeE x px.z = (190, x) := by unfold takeE; rw [if_pos HTO.out]
  rw [hx]
  exact ⟨rfl, K, ⟨Ar, nr, cr, m, q, LE.out _ B1.out.drew⟩, (Moved.of_below K (by rw [HG.out]; exact B1.out.drew)), Newer.refl _ _⟩
set_option maxHeartbeats 8000000 in
theorem take_tag {w : World} {b : Nat} {K : Nat → Prop} {x : EdZ} (h : EP w b K x) {px : PX} {B : Nat} (hp : PXOk w B px) (hB : B ≤ w.heap.size) (hl : px.n ≤ 65000) (hF : LaidF w) (hK : LaidK w) (hto : px.z.tw = x.who) (ht : px.z.tag ≠ tagR x.root px.z)
    : Calls Tryd.prog 39 #[.pointer (some ⟨b, 0, none⟩), .agg (pc px).toArray] w (TakeT w b K (takeE x px.z)) := by
  obtain ⟨Ar, nr, cr, m, q, E⟩ := h
  have E0 := Lib.hid E
  obtain ⟨g, hg⟩ : ∃ g, w.heap.size = g := ⟨_, rfl⟩
  have HG := Lib.hid hg
  obtain ⟨W1, hW1⟩ : ∃ W, W = w.alloc (.cells (pc px).toArray 26) := ⟨_, rfl⟩
  have V1 := Lib.hid (show VBox W1 g 38 (pc px) by rw [hW1]; exact pbox_new w px hp.ok.tl _ g hg)
  have B1 := Lib.hid (show Below g w W1 by rw [hW1, ← hg]; exact below_one _ _)
  obtain ⟨nb, hnb⟩ : ∃ nb, W1.heap.size = nb := ⟨_, rfl⟩
  have HNB := Lib.hid hnb
  have GN : Hid (nb = g + 1) := Lib.hid (by rw [← hnb, hW1]; simp [hg])
  have HW1 := Lib.hid hW1
  have HP := Lib.hid hp
  have HPO := Lib.hid hp.ok
  have htl := hp.ok.tl
  have PP : Hid (∀ W, Below g w W → PXOk W B px ∧ B ≤ W.heap.size) := Lib.hid (fun W hW => ⟨hp.below hW (by omega), by have := hW.size; omega⟩)
  have LL : Hid (∀ W, Below g w W → LaidF W ∧ LaidK W) := Lib.hid (fun W hW => ⟨hF.below hW (by have := hF.lt; omega), hK.below hW (by have := hK.lt; omega)⟩)
  have LE : Hid (∀ W, Below g w W → EPs W b K x Ar nr cr m q) := Lib.hid (fun W hW => E.grow (by rw [hg]; exact hW))
  have LV : Hid (∀ W, Below nb W1 W → VBox W g 38 (pc px)) := Lib.hid (fun W hW => V1.out.below hW (by have := GN.out; omega))
  have LG : Hid (∀ W, Below nb W1 W → Below g w W) := Lib.hid (fun W hW => B1.out.trans (hW.mono (by have := GN.out; omega)))
  have HTO := Lib.hid hto
  have HT := Lib.hid ht
  have HTG : Hid (eqB px.z.tag (tagR x.root px.z) = false) := Lib.hid (by cases hh : eqB px.z.tag (tagR x.root px.z) with | false => rfl | true => exact absurd (eqB_iffL.1 hh) ht)
  clear hW1 hg hnb hp E hF hK
  have c1 := (LE.out W1.drew (B1.out.drew)).c1
  have k1 : W1.drew.cell? ⟨g, 1, none⟩ = some (.int .i64 px.z.tw) := (pbox_cells V1.out).2.1
  go_enter Tryd.func39, Tryd.ntmps39
  go_upto_region 1 with fail
  rw [← HW1.out, HG.out]
  refine Late.region (fun w' => w' = W1.drew) [] (by kernel_rfl) rfl (fun hHeld => ?_)
  refine Late.take (i := 0) (oi := ⟨some 7, Op.fieldAddr 26 (Operand.tmp 3) 1, _, _, _, _⟩) (v := ?_) rfl (by kernel_rfl) (by kernel_rfl) (by kernel_rfl) (by kernel_rfl) (fun _ _ _ h => h) (Or.inl ⟨by rfl, fun w hSw => ?_⟩) (by assumption) ?_
  rotate_left
  · (have s1 := hSw; go_simp; try with_reducible rfl)
  try simp only [Act.put, List.setIfInBounds_toArray, List.set_cons_zero, List.set_cons_succ]
  refine Late.take (i := 1) (oi := ⟨some 8, Op.load 3 (Operand.tmp 7), _, _, _, _⟩) (v := ?_) rfl (by kernel_rfl) (by kernel_rfl) (by kernel_rfl) (by kernel_rfl) (fun _ _ _ h => h) (Or.inl ⟨by rfl, fun w hSw => ?_⟩) (by assumption) ?_
  rotate_left
  · (have s1 := hSw; subst hSw; go_simp; try with_reducible rfl)
  try simp only [Act.put, List.setIfInBounds_toArray, List.set_cons_zero, List.set_cons_succ]
  refine Late.take (i := 2) (oi := ⟨some 9, Op.move (Operand.tmp 0), _, _, _, _⟩) (v := ?_) rfl (by kernel_rfl) (by kernel_rfl) (by kernel_rfl) (by kernel_rfl) (fun _ _ _ h => h) (Or.inl ⟨by rfl, fun w hSw => ?_⟩) (by assumption) ?_
  rotate_left
  · (have s1 := hSw; go_simp; try with_reducible rfl)
  try simp only [Act.put, List.setIfInBounds_toArray, List.set_cons_zero, List.set_cons_succ]
  refine Late.take (i := 3) (oi := ⟨some 10, Op.nilCheck (Operand.tmp 9), _, _, _, _⟩) (v := ?_) rfl (by kernel_rfl) (by kernel_rfl) (by kernel_rfl) (by kernel_rfl) (fun _ _ _ h => h) (Or.inl ⟨by rfl, fun w hSw => ?_⟩) (by assumption) ?_
  rotate_left
  · (have s1 := hSw; go_simp; try with_reducible rfl)
  try simp only [Act.put, List.setIfInBounds_toArray, List.set_cons_zero, List.set_cons_succ]
  refine Late.take (i := 4) (oi := ⟨some 11, Op.fieldAddr 43 (Operand.tmp 10) 1, _, _, _, _⟩) (v := ?_) rfl (by kernel_rfl) (by kernel_rfl) (by kernel_rfl) (by kernel_rfl) (fun _ _ _ h => h) (Or.inl ⟨by rfl, fun w hSw => ?_⟩) (by assumption) ?_
  rotate_left
  · (have s1 := hSw; go_simp; try with_reducible rfl)
  try simp only [Act.put, List.setIfInBounds_toArray, List.set_cons_zero, List.set_cons_succ]
  refine Late.take (i := 5) (oi := ⟨some 12, Op.load 3 (Operand.tmp 11), _, _, _, _⟩) (v := ?_) rfl (by kernel_rfl) (by kernel_rfl) (by kernel_rfl) (by kernel_rfl) (fun _ _ _ h => h) (Or.inl ⟨by rfl, fun w hSw => ?_⟩) (by assumption) ?_
  rotate_left
  · (have s1 := hSw; subst hSw; go_simp; try with_reducible rfl)
  try simp only [Act.put, List.setIfInBounds_toArray, List.set_cons_zero, List.set_cons_succ]
  refine Late.take (i := 6) (oi := ⟨some 13, Op.binOp BinOp.neq 3 (Operand.tmp 8) (Operand.tmp 12) 3, _, _, _, _⟩) (v := ?_) rfl (by kernel_rfl) (by kernel_rfl) (by kernel_rfl) (by kernel_rfl) (fun _ _ _ h => h) (Or.inl ⟨by rfl, fun w hSw => ?_⟩) (by assumption) ?_
  rotate_left
  · (have s1 := hSw; go_simp; try with_reducible rfl)
  try simp only [Act.put, List.setIfInBounds_toArray, List.set_cons_zero, List.set_cons_succ]
  refine Late.done (by kernel_rfl) ?_ _
  refine NoPanic.normal ?_
  clear hHeld c1 k1
  go_upto_region 3 with fail
  have B1d : Hid (Below nb W1 W1.drew.drew) := Lib.hid ((Below.refl nb W1).drew.drew)
  refine Late.region (fun w' => Below nb W1 w') [] (by kernel_rfl) B1d.out (fun hHeld => ?_)
  refine Late.take (i := 0) (oi := ⟨some 14, Op.move (Operand.tmp 0), _, _, _, _⟩) (v := ?_) rfl (by kernel_rfl) (by kernel_rfl) (by kernel_rfl) (by kernel_rfl) (fun _ _ _ h => h) (Or.inl ⟨by rfl, fun w hSw => ?_⟩) (by assumption) ?_
  rotate_left
  · (have s1 := hSw; go_simp; try with_reducible rfl)
  try simp only [Act.put, List.setIfInBounds_toArray, List.set_cons_zero, List.set_cons_succ]
  refine Late.take (i := 1) (oi := ⟨some 15, Op.nilCheck (Operand.tmp 14), _, _, _, _⟩) (v := ?_) rfl (by kernel_rfl) (by kernel_rfl) (by kernel_rfl) (by kernel_rfl) (fun _ _ _ h => h) (Or.inl ⟨by rfl, fun w hSw => ?_⟩) (by assumption) ?_
  rotate_left
  · (have s1 := hSw; go_simp; try with_reducible rfl)
  try simp only [Act.put, List.setIfInBounds_toArray, List.set_cons_zero, List.set_cons_succ]
  refine Late.take (i := 2) (oi := ⟨some 16, Op.fieldAddr 43 (Operand.tmp 15) 0, _, _, _, _⟩) (v := ?_) rfl (by kernel_rfl) (by kernel_rfl) (by kernel_rfl) (by kernel_rfl) (fun _ _ _ h => h) (Or.inl ⟨by rfl, fun w hSw => ?_⟩) (by assumption) ?_
  rotate_left
  · (have s1 := hSw; go_simp; try with_reducible rfl)
  try simp only [Act.put, List.setIfInBounds_toArray, List.set_cons_zero, List.set_cons_succ]
  refine Late.take (i := 3) (oi := ⟨some 17, Op.load 22 (Operand.tmp 16), _, _, _, _⟩) (v := ?_) rfl (by kernel_rfl) (by kernel_rfl) (by kernel_rfl) (by kernel_rfl) (fun _ _ _ h => h) (Or.inl ⟨by rfl, fun w hSw => ?_⟩) (by assumption) ?_
  rotate_left
  · (have s1 := hSw; have d0 := (LE.out _ (LG.out _ hSw)).c0; go_simp; try with_reducible rfl)
  try simp only [Act.put, List.setIfInBounds_toArray, List.set_cons_zero, List.set_cons_succ]
  refine Late.take (i := 4) (oi := ⟨some 18, Op.load 26 (Operand.tmp 3), _, _, _, _⟩) (v := _) rfl (by kernel_rfl) (by kernel_rfl) (by kernel_rfl) (by kernel_rfl) (fun _ _ _ h => h) (yieldsIf_load_mid (by rfl) _ _ rfl _ _ rfl (pc px) _ (fun W hW => (LV.out W hW).range) Tryd.underlying26 rfl (p_size htl)) (by assumption) ?_
  try simp only [Act.put, List.setIfInBounds_toArray, List.set_cons_zero, List.set_cons_succ]
  refine Late.one (i := 5) (o := ⟨some 19, Op.call { callee := Callee.value (Operand.func 12), args := #[Operand.tmp 17, Operand.tmp 18], argTypes := #[22, 26] }, _, _, _, _⟩) (by kernel_rfl) rfl (fun K hK => ?_)
  go_simp
  obtain ⟨l1, l2⟩ := LL.out _ (LG.out _ hHeld)
  obtain ⟨l3, l4⟩ := PP.out _ (LG.out _ hHeld)
  have lE := LE.out _ (LG.out _ hHeld)
  refine (right_any cr lE.root (Nat.le_refl _) lE.rn l3 l4 hl l1 l2).mono ?_
  rw [HTG.out]
  rintro e w3 ⟨rfl, hb⟩
  have hb3 := hHeld.trans (hb.mono (by have := hHeld.size; have := HNB.out; omega))
  clear hb l1 l2 l3 l4 lE
  refine hK.out _ _ (hb3) (fun hHeld2 => ?_)
  clear hK K hHeld
  have hHeld := hHeld2
  clear hHeld2
  try simp only [Act.put, List.setIfInBounds_toArray, List.set_cons_zero, List.set_cons_succ]
  refine Late.take (i := 6) (oi := ⟨some 20, Op.unOp UnOp.not 4 (Operand.tmp 19), _, _, _, _⟩) (v := ?_) rfl (by kernel_rfl) (by kernel_rfl) (by kernel_rfl) (by kernel_rfl) (fun _ _ _ h => h) (Or.inl ⟨by rfl, fun w hSw => ?_⟩) (by assumption) ?_
  rotate_left
  · (have s1 := hSw; go_simp; try with_reducible rfl)
  try simp only [Act.put, List.setIfInBounds_toArray, List.set_cons_zero, List.set_cons_succ]
  refine Late.done (by kernel_rfl) ?_ _
  refine NoPanic.normal ?_
  have B3 := Lib.hid (LG.out _ hHeld)
  clear hHeld
  go_wp2
  go_ret
  have hx : takeE x px.z = (91, x) := by unfold takeE; rw [if_neg (fun h => h HTO.out), if_pos HT.out]
  rw [hx]
  exact ⟨rfl, K, ⟨Ar, nr, cr, m, q, LE.out _ B3.out⟩, (Moved.of_below K (by rw [HG.out]; exact B3.out)), Newer.refl _ _⟩
set_option maxHeartbeats 8000000 in
theorem take_yes {w : World} {b : Nat} {K : Nat → Prop} {x : EdZ} (h : EP w b K x) {px : PX} {B : Nat} (hp : PXOk w B px) (hB : B ≤ w.heap.size) (hl : px.n ≤ 65000) (hF : LaidF w) (hK : LaidK w) (hto : px.z.tw = x.who) (ht : px.z.tag = tagR x.root px.z)
    : Calls Tryd.prog 39 #[.pointer (some ⟨b, 0, none⟩), .agg (pc px).toArray] w (TakeT w b K (takeE x px.z)) := by
  obtain ⟨Ar, nr, cr, m, q, E⟩ := h
  have E0 := Lib.hid E
  obtain ⟨g, hg⟩ : ∃ g, w.heap.size = g := ⟨_, rfl⟩
  have HG := Lib.hid hg
  obtain ⟨W1, hW1⟩ : ∃ W, W = w.alloc (.cells (pc px).toArray 26) := ⟨_, rfl⟩
  have V1 := Lib.hid (show VBox W1 g 38 (pc px) by rw [hW1]; exact pbox_new w px hp.ok.tl _ g hg)
  have B1 := Lib.hid (show Below g w W1 by rw [hW1, ← hg]; exact below_one _ _)
  obtain ⟨nb, hnb⟩ : ∃ nb, W1.heap.size = nb := ⟨_, rfl⟩
  have HNB := Lib.hid hnb
  have GN : Hid (nb = g + 1) := Lib.hid (by rw [← hnb, hW1]; simp [hg])
  have HW1 := Lib.hid hW1
  have HP := Lib.hid hp
  have HPO := Lib.hid hp.ok
  have htl := hp.ok.tl
  have PP : Hid (∀ W, Below g w W → PXOk W B px ∧ B ≤ W.heap.size) := Lib.hid (fun W hW => ⟨hp.below hW (by omega), by have := hW.size; omega⟩)
  have LL : Hid (∀ W, Below g w W → LaidF W ∧ LaidK W) := Lib.hid (fun W hW => ⟨hF.below hW (by have := hF.lt; omega), hK.below hW (by have := hK.lt; omega)⟩)
  have LE : Hid (∀ W, Below g w W → EPs W b K x Ar nr cr m q) := Lib.hid (fun W hW => E.grow (by rw [hg]; exact hW))
  have LV : Hid (∀ W, Below nb W1 W → VBox W g 38 (pc px)) := Lib.hid (fun W hW => V1.out.below hW (by have := GN.out; omega))
  have LG : Hid (∀ W, Below nb W1 W → Below g w W) := Lib.hid (fun W hW => B1.out.trans (hW.mono (by have := GN.out; omega)))
  have HTO := Lib.hid hto
  have HT := Lib.hid ht
  have HTG : Hid (eqB px.z.tag (tagR x.root px.z) = true) := Lib.hid (eqB_iffL.2 ht)
  clear hW1 hg hnb hp E hF hK
  have c1 := (LE.out W1.drew (B1.out.drew)).c1
  have k1 : W1.drew.cell? ⟨g, 1, none⟩ = some (.int .i64 px.z.tw) := (pbox_cells V1.out).2.1
  go_enter Tryd.func39, Tryd.ntmps39
  go_upto_region 1 with fail
  rw [← HW1.out, HG.out]
  refine Late.region (fun w' => w' = W1.drew) [] (by kernel_rfl) rfl (fun hHeld => ?_)
  refine Late.take (i := 0) (oi := ⟨some 7, Op.fieldAddr 26 (Operand.tmp 3) 1, _, _, _, _⟩) (v := ?_) rfl (by kernel_rfl) (by kernel_rfl) (by kernel_rfl) (by kernel_rfl) (fun _ _ _ h => h) (Or.inl ⟨by rfl, fun w hSw => ?_⟩) (by assumption) ?_
  rotate_left
  · (have s1 := hSw; go_simp; try with_reducible rfl)
  try simp only [Act.put, List.setIfInBounds_toArray, List.set_cons_zero, List.set_cons_succ]
  refine Late.take (i := 1) (oi := ⟨some 8, Op.load 3 (Operand.tmp 7), _, _, _, _⟩) (v := ?_) rfl (by kernel_rfl) (by kernel_rfl) (by kernel_rfl) (by kernel_rfl) (fun _ _ _ h => h) (Or.inl ⟨by rfl, fun w hSw => ?_⟩) (by assumption) ?_
  rotate_left
  · (have s1 := hSw; subst hSw; go_simp; try with_reducible rfl)
  try simp only [Act.put, List.setIfInBounds_toArray, List.set_cons_zero, List.set_cons_succ]
  refine Late.take (i := 2) (oi := ⟨some 9, Op.move (Operand.tmp 0), _, _, _, _⟩) (v := ?_) rfl (by kernel_rfl) (by kernel_rfl) (by kernel_rfl) (by kernel_rfl) (fun _ _ _ h => h) (Or.inl ⟨by rfl, fun w hSw => ?_⟩) (by assumption) ?_
  rotate_left
  · (have s1 := hSw; go_simp; try with_reducible rfl)
  try simp only [Act.put, List.setIfInBounds_toArray, List.set_cons_zero, List.set_cons_succ]
  refine Late.take (i := 3) (oi := ⟨some 10, Op.nilCheck (Operand.tmp 9), _, _, _, _⟩) (v := ?_) rfl (by kernel_rfl) (by kernel_rfl) (by kernel_rfl) (by kernel_rfl) (fun _ _ _ h => h) (Or.inl ⟨by rfl, fun w hSw => ?_⟩) (by assumption) ?_
  rotate_left
  · (have s1 := hSw; go_simp; try with_reducible rfl)
  try simp only [Act.put, List.setIfInBounds_toArray, List.set_cons_zero, List.set_cons_succ]
  refine Late.take (i := 4) (oi := ⟨some 11, Op.fieldAddr 43 (Operand.tmp 10) 1, _, _, _, _⟩) (v := ?_) rfl (by kernel_rfl) (by kernel_rfl) (by kernel_rfl) (by kernel_rfl) (fun _ _ _ h => h) (Or.inl ⟨by rfl, fun w hSw => ?_⟩) (by assumption) ?_
  rotate_left
  · (have s1 := hSw; go_simp; try with_reducible rfl)
  try simp only [Act.put, List.setIfInBounds_toArray, List.set_cons_zero, List.set_cons_succ]
  refine Late.take (i := 5) (oi := ⟨some 12, Op.load 3 (Operand.tmp 11), _, _, _, _⟩) (v := ?_) rfl (by kernel_rfl) (by kernel_rfl) (by kernel_rfl) (by kernel_rfl) (fun _ _ _ h => h) (Or.inl ⟨by rfl, fun w hSw => ?_⟩) (by assumption) ?_
  rotate_left
  · (have s1 := hSw; subst hSw; go_simp; try with_reducible rfl)
  try simp only [Act.put, List.setIfInBounds_toArray, List.set_cons_zero, List.set_cons_succ]
  refine Late.take (i := 6) (oi := ⟨some 13, Op.binOp BinOp.neq 3 (Operand.tmp 8) (Operand.tmp 12) 3, _, _, _, _⟩) (v := ?_) rfl (by kernel_rfl) (by kernel_rfl) (by kernel_rfl) (by kernel_rfl) (fun _ _ _ h => h) (Or.inl ⟨by rfl, fun w hSw => ?_⟩) (by assumption) ?_
  rotate_left
  · (have s1 := hSw; go_simp; try with_reducible rfl)
  try simp only [Act.put, List.setIfInBounds_toArray, List.set_cons_zero, List.set_cons_succ]
  refine Late.done (by kernel_rfl) ?_ _
  refine NoPanic.normal ?_
  clear hHeld c1 k1
  go_upto_region 3 with fail
  have B1d : Hid (Below nb W1 W1.drew.drew) := Lib.hid ((Below.refl nb W1).drew.drew)
  refine Late.region (fun w' => Below nb W1 w') [] (by kernel_rfl) B1d.out (fun hHeld => ?_)
  refine Late.take (i := 0) (oi := ⟨some 14, Op.move (Operand.tmp 0), _, _, _, _⟩) (v := ?_) rfl (by kernel_rfl) (by kernel_rfl) (by kernel_rfl) (by kernel_rfl) (fun _ _ _ h => h) (Or.inl ⟨by rfl, fun w hSw => ?_⟩) (by assumption) ?_
  rotate_left
  · (have s1 := hSw; go_simp; try with_reducible rfl)
  try simp only [Act.put, List.setIfInBounds_toArray, List.set_cons_zero, List.set_cons_succ]
  refine Late.take (i := 1) (oi := ⟨some 15, Op.nilCheck (Operand.tmp 14), _, _, _, _⟩) (v := ?_) rfl (by kernel_rfl) (by kernel_rfl) (by kernel_rfl) (by kernel_rfl) (fun _ _ _ h => h) (Or.inl ⟨by rfl, fun w hSw => ?_⟩) (by assumption) ?_
  rotate_left
  · (have s1 := hSw; go_simp; try with_reducible rfl)
  try simp only [Act.put, List.setIfInBounds_toArray, List.set_cons_zero, List.set_cons_succ]
  refine Late.take (i := 2) (oi := ⟨some 16, Op.fieldAddr 43 (Operand.tmp 15) 0, _, _, _, _⟩) (v := ?_) rfl (by kernel_rfl) (by kernel_rfl) (by kernel_rfl) (by kernel_rfl) (fun _ _ _ h => h) (Or.inl ⟨by rfl, fun w hSw => ?_⟩) (by assumption) ?_
  rotate_left
  · (have s1 := hSw; go_simp; try with_reducible rfl)
  try simp only [Act.put, List.setIfInBounds_toArray, List.set_cons_zero, List.set_cons_succ]
  refine Late.take (i := 3) (oi := ⟨some 17, Op.load 22 (Operand.tmp 16), _, _, _, _⟩) (v := ?_) rfl (by kernel_rfl) (by kernel_rfl) (by kernel_rfl) (by kernel_rfl) (fun _ _ _ h => h) (Or.inl ⟨by rfl, fun w hSw => ?_⟩) (by assumption) ?_
  rotate_left
  · (have s1 := hSw; have d0 := (LE.out _ (LG.out _ hSw)).c0; go_simp; try with_reducible rfl)
  try simp only [Act.put, List.setIfInBounds_toArray, List.set_cons_zero, List.set_cons_succ]
  refine Late.take (i := 4) (oi := ⟨some 18, Op.load 26 (Operand.tmp 3), _, _, _, _⟩) (v := _) rfl (by kernel_rfl) (by kernel_rfl) (by kernel_rfl) (by kernel_rfl) (fun _ _ _ h => h) (yieldsIf_load_mid (by rfl) _ _ rfl _ _ rfl (pc px) _ (fun W hW => (LV.out W hW).range) Tryd.underlying26 rfl (p_size htl)) (by assumption) ?_
  try simp only [Act.put, List.setIfInBounds_toArray, List.set_cons_zero, List.set_cons_succ]
  refine Late.one (i := 5) (o := ⟨some 19, Op.call { callee := Callee.value (Operand.func 12), args := #[Operand.tmp 17, Operand.tmp 18], argTypes := #[22, 26] }, _, _, _, _⟩) (by kernel_rfl) rfl (fun K hK => ?_)
  go_simp
  obtain ⟨l1, l2⟩ := LL.out _ (LG.out _ hHeld)
  obtain ⟨l3, l4⟩ := PP.out _ (LG.out _ hHeld)
  have lE := LE.out _ (LG.out _ hHeld)
  refine (right_any cr lE.root (Nat.le_refl _) lE.rn l3 l4 hl l1 l2).mono ?_
  rw [HTG.out]
  rintro e w3 ⟨rfl, hb⟩
  have hb3 := hHeld.trans (hb.mono (by have := hHeld.size; have := HNB.out; omega))
  clear hb l1 l2 l3 l4 lE
  refine hK.out _ _ (hb3) (fun hHeld2 => ?_)
  clear hK K hHeld
  have hHeld := hHeld2
  clear hHeld2
  try simp only [Act.put, List.setIfInBounds_toArray, List.set_cons_zero, List.set_cons_succ]
  refine Late.take (i := 6) (oi := ⟨some 20, Op.unOp UnOp.not 4 (Operand.tmp 19), _, _, _, _⟩) (v := ?_) rfl (by kernel_rfl) (by kernel_rfl) (by kernel_rfl) (by kernel_rfl) (fun _ _ _ h => h) (Or.inl ⟨by rfl, fun w hSw => ?_⟩) (by assumption) ?_
  rotate_left
  · (have s1 := hSw; go_simp; try with_reducible rfl)
  try simp only [Act.put, List.setIfInBounds_toArray, List.set_cons_zero, List.set_cons_succ]
  refine Late.done (by kernel_rfl) ?_ _
  refine NoPanic.normal ?_
  have B3 := Lib.hid hHeld
  clear hHeld
  obtain ⟨f0, _, f2, _, _, _⟩ := pbox_cells (LV.out _ B3.out)
  go_upto_region 6 with (show wpList _ _ _ (⟨none, .store 71 (.tmp 5) (.tmp 25), _, _, _, _⟩ :: _) _ _; refine wpList_store_as (op := ⟨none, .store 71 (.tmp 5) (.tmp 25), _, _, _, _⟩) rfl 71 (.tmp 5) (.tmp 25) rfl (w3.heap.size) 0 #[.int .i64 px.z.fr, .int .i64 px.z.ep] rfl rfl (vthere (zbt_new w3 w3.heap.size rfl) (us := [.int .i64 px.z.fr, .int .i64 px.z.ep]) rfl) bt_size (bt_one px.z.fr px.z.ep) ?_; intro w5 hw5)
  clear f0 f2
  obtain ⟨V5, B5⟩ := vstored (zbt_new w3 w3.heap.size rfl) (us := [.int .i64 px.z.fr, .int .i64 px.z.ep]) rfl hw5 (Nat.le_refl _) (below_one w3 _)
  obtain ⟨g5, hg5⟩ : ∃ g, w3.heap.size = g := ⟨_, rfl⟩
  rw [hg5] at V5 B5 ⊢
  have B5t : Below nb W1 w5 := B3.out.trans (B5.mono (by rw [← hg5]; have := B3.out.size; have := HNB.out; omega))
  obtain ⟨nc, hnc⟩ : ∃ nc, w5.heap.size = nc := ⟨_, rfl⟩
  have HNC := Lib.hid hnc
  have NN : Hid (g5 < nc ∧ nb ≤ g5) := Lib.hid ⟨by rw [← hnc]; exact V5.lt, by rw [← hg5]; have := B3.out.size; have := HNB.out; omega⟩
  have BT5 := Lib.hid B5t
  have V5' := Lib.hid V5
  have LT5 : Hid (∀ W, Below nc w5 W → Below nb W1 W) := Lib.hid (fun W hW => B5t.trans (hW.mono (by have := NN.out; omega)))
  have LE5 : Hid (∀ W, Below nc w5 W → EPs W b K x Ar nr cr m q) := Lib.hid (fun W hW => LE.out W (LG.out W (LT5.out W hW)))
  have LB5 : Hid (∀ W, Below nc w5 W → VBox W g5 2 [.int .i64 px.z.fr, .int .i64 px.z.ep]) := Lib.hid (fun W hW => V5'.out.below hW NN.out.1)
  obtain ⟨s, hs⟩ : ∃ s, x.sent px.z.fr px.z.ep = s := ⟨_, rfl⟩
  obtain ⟨kq, hkq⟩ : ∃ k, q px.z.fr px.z.ep = k := ⟨_, rfl⟩
  have HSS := Lib.hid hs
  have HKQ := Lib.hid hkq
  have LK5 : Hid (∀ W, Below nc w5 W → (Instr.lookup 41 (.map (some m)) (kyv px.z.fr px.z.ep) false).run Tryd.prog W = .ok (kev s kq) W) := Lib.hid (fun W hW => by
    have := run_lookupL (LE5.out W hW).map HPO.out.fr HPO.out.ep
    rwa [HSS.out, HKQ.out] at this)
  have P5 : Hid (Below nc w5 w5) := Lib.hid (Below.refl _ _)
  clear hw5 V5 B5 B5t hnc hg5 hs hkq
  refine Late.region (fun w' => Below nc w5 w') [] (by kernel_rfl) P5.out.drew (fun hHeld => ?_)
  refine Late.take (i := 0) (oi := ⟨some 26, Op.move (Operand.tmp 0), _, _, _, _⟩) (v := ?_) rfl (by kernel_rfl) (by kernel_rfl) (by kernel_rfl) (by kernel_rfl) (fun _ _ _ h => h) (Or.inl ⟨by rfl, fun w hSw => ?_⟩) (by assumption) ?_
  rotate_left
  · (have s1 := hSw; go_simp; try with_reducible rfl)
  try simp only [Act.put, List.setIfInBounds_toArray, List.set_cons_zero, List.set_cons_succ]
  refine Late.take (i := 1) (oi := ⟨some 27, Op.nilCheck (Operand.tmp 26), _, _, _, _⟩) (v := ?_) rfl (by kernel_rfl) (by kernel_rfl) (by kernel_rfl) (by kernel_rfl) (fun _ _ _ h => h) (Or.inl ⟨by rfl, fun w hSw => ?_⟩) (by assumption) ?_
  rotate_left
  · (have s1 := hSw; go_simp; try with_reducible rfl)
  try simp only [Act.put, List.setIfInBounds_toArray, List.set_cons_zero, List.set_cons_succ]
  refine Late.take (i := 2) (oi := ⟨some 28, Op.fieldAddr 43 (Operand.tmp 27) 3, _, _, _, _⟩) (v := ?_) rfl (by kernel_rfl) (by kernel_rfl) (by kernel_rfl) (by kernel_rfl) (fun _ _ _ h => h) (Or.inl ⟨by rfl, fun w hSw => ?_⟩) (by assumption) ?_
  rotate_left
  · (have s1 := hSw; go_simp; try with_reducible rfl)
  try simp only [Act.put, List.setIfInBounds_toArray, List.set_cons_zero, List.set_cons_succ]
  refine Late.take (i := 3) (oi := ⟨some 29, Op.load 41 (Operand.tmp 28), _, _, _, _⟩) (v := ?_) rfl (by kernel_rfl) (by kernel_rfl) (by kernel_rfl) (by kernel_rfl) (fun _ _ _ h => h) (Or.inl ⟨by rfl, fun w hSw => ?_⟩) (by assumption) ?_
  rotate_left
  · (have s1 := hSw; have d3 := (LE5.out _ hSw).c3; have d4 := (LB5.out _ hSw).at1 (i := 0) (v := .int .i64 px.z.fr) rfl; have d5 := (LB5.out _ hSw).at1 (i := 1) (v := .int .i64 px.z.ep) rfl; go_simp; try with_reducible rfl)
  try simp only [Act.put, List.setIfInBounds_toArray, List.set_cons_zero, List.set_cons_succ]
  refine Late.take (i := 4) (oi := ⟨some 30, Op.load 71 (Operand.tmp 5), _, _, _, _⟩) (v := ?_) rfl (by kernel_rfl) (by kernel_rfl) (by kernel_rfl) (by kernel_rfl) (fun _ _ _ h => h) (Or.inl ⟨by rfl, fun w hSw => ?_⟩) (by assumption) ?_
  rotate_left
  · (have s1 := hSw; have d3 := (LE5.out _ hSw).c3; have d4 := (LB5.out _ hSw).at1 (i := 0) (v := .int .i64 px.z.fr) rfl; have d5 := (LB5.out _ hSw).at1 (i := 1) (v := .int .i64 px.z.ep) rfl; go_simp; try with_reducible rfl)
  try simp only [Act.put, List.setIfInBounds_toArray, List.set_cons_zero, List.set_cons_succ]
  refine Late.take (i := 5) (oi := ⟨some 31, Op.lookup 41 (Operand.tmp 29) (Operand.tmp 30) false, _, _, _, _⟩) (v := kev s kq) rfl (by kernel_rfl) (by kernel_rfl) (by kernel_rfl) (by kernel_rfl) (fun _ _ _ h => h) (Or.inl ⟨by rfl, fun w hSw => ?_⟩) (by assumption) ?_
  · (unfold execOp; simp only [Act.eval]; have hl := LK5.out _ hSw; simp [kyv] at hl; simp [hl])
  try simp only [Act.put, List.setIfInBounds_toArray, List.set_cons_zero, List.set_cons_succ]
  refine Late.one (i := 6) (o := ⟨some 6, Op.alloc 74, _, _, _, _⟩) (by kernel_rfl) rfl (fun K hK => ?_)
  go_simp
  refine hK.out _ _ ((hHeld.alloc (by have := hHeld.size; have := HNC.out; omega) _)) (fun hHeld2 => ?_)
  clear hK K hHeld
  have hHeld := hHeld2
  clear hHeld2
  try simp only [Act.put, List.setIfInBounds_toArray, List.set_cons_zero, List.set_cons_succ]
  refine Late.one (i := 7) (o := ⟨none, Op.store 74 (Operand.tmp 6) (Operand.tmp 31), _, _, _, _⟩) (by kernel_rfl) rfl (fun K hK => ?_)
  rw [if_pos (by rfl)]
  refine wp_store_mid 74 (.tmp 6) (.tmp 31) rfl w5.heap.size 0 (kc s kq).toArray rfl rfl (vthere ((zkp_new w5 w5.heap.size rfl).same (w' := (w5.alloc (.cells #[.int .i64 0, .pointer none] 74)).drew) rfl) (us := kc s kq) rfl) kp_size (kc_one s kq) ?_
  obtain ⟨w6, hw6⟩ : ∃ W, W = (w5.alloc (.cells #[.int .i64 0, .pointer none] 74)).drew.setCells w5.heap.size 0 (kc s kq).toArray.toList := ⟨_, rfl⟩
  rw [← hw6]
  have V6 : VBox w6 w5.heap.size 2 (kc s kq) := ((zkp_new w5 w5.heap.size rfl).same (w' := (w5.alloc (.cells #[.int .i64 0, .pointer none] 74)).drew) rfl).store rfl (Lib.hid hw6)
  have B6 : Below nc w5 w6 := by rw [hw6]; exact below_setCells (by rw [HNC.out]; exact Nat.le_refl _) _ _ _ hHeld
  clear hw6
  refine hK.out _ _ (B6) (fun hHeld2 => ?_)
  clear hK K hHeld
  have hHeld := hHeld2
  clear hHeld2
  try simp only [Act.put, List.setIfInBounds_toArray, List.set_cons_zero, List.set_cons_succ]
  refine Late.done (by kernel_rfl) ?_ _
  refine NoPanic.normal ?_
  rw [HNC.out] at V6 ⊢
  have V6' := Lib.hid V6
  have B6' := Lib.hid hHeld
  have SZ6 : Hid (nc < w6.heap.size) := Lib.hid V6.lt
  have k1 := V6.at1 (i := 1) (v := .pointer (kq.map fun k => ⟨k, 0, none⟩)) rfl
  have kf1 := V6.fr1 (i := 1) (by omega)
  clear V6 hHeld
  cases kq with
  | none =>
    go_upto_region 9 with (go_at_call 58; refine (new_any_wn _).mono ?_; rintro e w7 ⟨rfl, hwb, hbl, hsz⟩; have W7 := Lib.hid (Win.mk hwb wIn_none); have BB7 := Lib.hid hbl; have SZ7 := Lib.hid hsz; have k1' := (V6'.out.below hbl SZ6.out).at1 (i := 1) (v := .pointer none) rfl; have kf1' := (V6'.out.below hbl SZ6.out).fr1 (i := 1) (by omega); clear hwb hbl hsz)
    obtain ⟨p, hp⟩ : ∃ p, w6.heap.size = p := ⟨_, rfl⟩
    rw [hp] at W7
    obtain ⟨w8, hw8⟩ : ∃ W, W = w7.setCell ⟨nc, 1, none⟩ (.pointer (some ⟨p, 0, none⟩)) := ⟨_, rfl⟩
    try rw [hp]
    rw [← hw8]
    have SP : Hid (nc < p ∧ w7.heap.size = p + 1) := Lib.hid ⟨by rw [← hp]; exact SZ6.out, by rw [← hp]; exact SZ7.out⟩
    have V8 := Lib.hid (show VBox w8 nc 2 (kc s (some p)) by rw [hw8]; exact (V6'.out.below BB7.out SZ6.out).set1 (i := 1) (by omega) (.pointer (some ⟨p, 0, none⟩)))
    have BL8 := Lib.hid (show Below nc w5 w8 by rw [hw8]; exact (B6'.out.trans (BB7.out.mono (by have := SZ6.out; omega))).setCell (p := ⟨nc, 1, none⟩) (Nat.le_refl _) _)
    have W8 := Lib.hid (show Win w8 p (x.wb px.z.fr px.z.ep) (x.ws px.z.fr px.z.ep) by
      obtain ⟨h1, h2⟩ := E0.out.none_ _ _ HKQ.out
      rw [h1, h2]
      exact ⟨W7.out.x.same (by rw [hw8]; exact Below.heap_setCell _ _ _ _ (by show p ≠ nc; have := SP.out; omega)), wIn_none⟩)
    have hK8 : ∀ k, K k → k < g := fun k hk => by have := E0.out.lt k hk; have := HG.out; omega
    have gp : Hid (g < p) := Lib.hid (by have := SP.out; have := NN.out; have := GN.out; omega)
    have PM : Hid (p ≠ m) := Lib.hid (by have := hK8 m E0.out.Km; have := gp.out; omega)
    have HPQ : Hid (q px.z.fr px.z.ep = some p ∨ (q px.z.fr px.z.ep = none ∧ ¬ K p ∧ p < w8.drew.heap.size)) := Lib.hid (.inr ⟨HKQ.out, fun h => by have := hK8 p h; have := gp.out; omega, by show p < w8.heap.size; rw [hw8]; have := SP.out; simp [World.setCell]; omega⟩)
    have PK : Hid (∀ k, k = p → K k ∨ w.heap.size ≤ k) := Lib.hid (fun k hk => .inr (by have := gp.out; have := HG.out; omega))
    clear hw8 hp k1 kf1 k1' kf1' hK8 W7 BB7 SZ7
    have E8 := Lib.hid (LE5.out _ BL8.out)
    have VB8 := Lib.hid (LB5.out _ BL8.out)
    have VP8 := Lib.hid (LV.out _ (LT5.out _ BL8.out))
    obtain ⟨w9, hrun, hmap, hgr⟩ := run_updateL (w := w8.drew) E8.out.drew.map HPO.out.fr HPO.out.ep (kev s (some p))
    have HR := Lib.hid hmap
    have HGR := Lib.hid hgr
    have d3 := E8.out.drew.c3
    have d4 : w8.drew.cell? ⟨g5, 0, none⟩ = some (.int .i64 px.z.fr) := VB8.out.at1 rfl
    have d5 : w8.drew.cell? ⟨g5, 1, none⟩ = some (.int .i64 px.z.ep) := VB8.out.at1 rfl
    have d6 : w8.drew.cell? ⟨nc, 0, none⟩ = some (.int .i64 s) := V8.out.at1 rfl
    have d7 : w8.drew.cell? ⟨nc, 1, none⟩ = some (.pointer (some ⟨p, 0, none⟩)) := V8.out.at1 rfl
    clear hmap hgr
    refine Late.region (fun w' => w' = w8.drew) [6] (by kernel_rfl) rfl (fun hHeld => ?_)
    refine Late.take (i := 0) (oi := ⟨some 37, Op.move (Operand.tmp 0), _, _, _, _⟩) (v := ?_) rfl (by kernel_rfl) (by kernel_rfl) (by kernel_rfl) (by kernel_rfl) (fun _ _ _ h => h) (Or.inl ⟨by rfl, fun w hSw => ?_⟩) (by assumption) ?_
    rotate_left
    · (have s1 := hSw; go_simp; try with_reducible rfl)
    try simp only [Act.put, List.setIfInBounds_toArray, List.set_cons_zero, List.set_cons_succ]
    refine Late.take (i := 1) (oi := ⟨some 38, Op.nilCheck (Operand.tmp 37), _, _, _, _⟩) (v := ?_) rfl (by kernel_rfl) (by kernel_rfl) (by kernel_rfl) (by kernel_rfl) (fun _ _ _ h => h) (Or.inl ⟨by rfl, fun w hSw => ?_⟩) (by assumption) ?_
    rotate_left
    · (have s1 := hSw; go_simp; try with_reducible rfl)
    try simp only [Act.put, List.setIfInBounds_toArray, List.set_cons_zero, List.set_cons_succ]
    refine Late.take (i := 2) (oi := ⟨some 39, Op.fieldAddr 43 (Operand.tmp 38) 3, _, _, _, _⟩) (v := ?_) rfl (by kernel_rfl) (by kernel_rfl) (by kernel_rfl) (by kernel_rfl) (fun _ _ _ h => h) (Or.inl ⟨by rfl, fun w hSw => ?_⟩) (by assumption) ?_
    rotate_left
    · (have s1 := hSw; go_simp; try with_reducible rfl)
    try simp only [Act.put, List.setIfInBounds_toArray, List.set_cons_zero, List.set_cons_succ]
    refine Late.take (i := 3) (oi := ⟨some 40, Op.load 41 (Operand.tmp 39), _, _, _, _⟩) (v := ?_) rfl (by kernel_rfl) (by kernel_rfl) (by kernel_rfl) (by kernel_rfl) (fun _ _ _ h => h) (Or.inl ⟨by rfl, fun w hSw => ?_⟩) (by assumption) ?_
    rotate_left
    · (have s1 := hSw; subst hSw; go_simp; try with_reducible rfl)
    try simp only [Act.put, List.setIfInBounds_toArray, List.set_cons_zero, List.set_cons_succ]
    refine Late.take (i := 4) (oi := ⟨some 41, Op.load 71 (Operand.tmp 5), _, _, _, _⟩) (v := ?_) rfl (by kernel_rfl) (by kernel_rfl) (by kernel_rfl) (by kernel_rfl) (fun _ _ _ h => h) (Or.inl ⟨by rfl, fun w hSw => ?_⟩) (by assumption) ?_
    rotate_left
    · (have s1 := hSw; subst hSw; go_simp; try with_reducible rfl)
    try simp only [Act.put, List.setIfInBounds_toArray, List.set_cons_zero, List.set_cons_succ]
    refine Late.take (i := 5) (oi := ⟨some 42, Op.load 74 (Operand.tmp 6), _, _, _, _⟩) (v := ?_) rfl (by kernel_rfl) (by kernel_rfl) (by kernel_rfl) (by kernel_rfl) (fun _ _ _ h => h) (Or.inl ⟨by rfl, fun w hSw => ?_⟩) (by assumption) ?_
    rotate_left
    · (have s1 := hSw; subst hSw; go_simp; try with_reducible rfl)
    try simp only [Act.put, List.setIfInBounds_toArray, List.set_cons_zero, List.set_cons_succ]
    refine Late.end_ (i := 6) (o := ⟨none, Op.mapUpdate 41 (Operand.tmp 40) (Operand.tmp 41) (Operand.tmp 42), _, _, _, _⟩) (by kernel_rfl) rfl rfl (fun K hK => ?_)
    rw [if_pos (by rfl)]
    refine wp_skipL (exec_updateL hrun rfl rfl rfl rfl) ?_
    refine hK.out _ _ ?_
    clear hK K
    try simp only [Act.put]
    refine Late.done (by kernel_rfl) ?_ _
    refine NoPanic.normal ?_
    have hm8 := Lib.hid (E8.out.lt m E8.out.Km)
    have hmg : Hid (m < g) := Lib.hid (by have := E0.out.lt m E0.out.Km; have := HG.out; omega)
    have e6 : w9.cell? ⟨nc, 1, none⟩ = some (.pointer (some ⟨p, 0, none⟩)) := (World.cell?_of_block (a := ⟨nc, 1, none⟩) (HGR.out.block nc (by show nc < w8.heap.size; exact V8.out.lt) (fun e => by injection e with e; have := hmg.out; have := NN.out; have := GN.out; omega))).trans d7
    have VP9 := Lib.hid (VP8.out.same (HGR.out.block g (by show g < w8.heap.size; exact VP8.out.lt) (fun e => by injection e with e; have := hmg.out; omega)))
    obtain ⟨_, _, _, f3, f4, _⟩ := pbox_cells VP9.out
    clear d3 d4 d5 d6 d7 hrun
    obtain ⟨er, wb', ws', htz⟩ : ∃ a b c, takeZ (x.wb px.z.fr px.z.ep) (x.ws px.z.fr px.z.ep) px.z.bo px.z.sq = (a, b, c) := ⟨_, _, _, rfl⟩
    have W9 := Lib.hid (Win.apart (W8.out.drew) HGR.out PM.out)
    have TV := Lib.hid (take_val W9.out HPO.out.bo HPO.out.sq htz)
    have HTZ := Lib.hid htz
    clear htz
    go_wp2_with (go_at_call 59; refine TV.out.mono ?_; rintro e w10 ⟨rfl, hw, hgt⟩; have W10 := Lib.hid hw; have G10 := Lib.hid hgt; clear hw hgt)
    go_ret
    have hx : takeE x px.z = (er, { x with wb := upd x.wb px.z.fr px.z.ep wb', ws := upd x.ws px.z.fr px.z.ep ws' }) := by unfold takeE; rw [if_neg (fun h => h HTO.out), if_neg (fun h => h HT.out), HTZ.out]
    rw [hx]
    have EZ := E8.out.drew.take HPQ.out HGR.out (by rw [HSS.out]; exact HR.out) W10.out G10.out
    refine ⟨rfl, _, ⟨Ar, nr, cr, m, _, EZ⟩, ⟨?_, ?_, ?_, ?_, ?_⟩, ?_⟩
    · rw [G10.out.os, HGR.out.os]; exact (LG.out _ (LT5.out _ BL8.out)).os
    · rw [G10.out.tape, HGR.out.tape]; exact (LG.out _ (LT5.out _ BL8.out)).tape
    · rw [G10.out.output, HGR.out.output]; exact (LG.out _ (LT5.out _ BL8.out)).output
    · exact Nat.le_trans (LG.out _ (LT5.out _ BL8.out)).size (Nat.le_trans HGR.out.size G10.out.size)
    · intro k hk hn
      have h8 := (LG.out _ (LT5.out _ BL8.out))
      have hl8 : k < w8.heap.size := Nat.lt_of_lt_of_le hk h8.size
      rw [G10.out.block k (Nat.lt_of_lt_of_le hl8 HGR.out.size) (fun e => by injection e with e; exact (PK.out k e).elim (fun h => hn h) (fun h => by omega)),
        HGR.out.block k hl8 (fun e => by injection e with e; exact hn (e ▸ E0.out.Km))]
      exact h8.block k (by have := HG.out; omega)
    · rintro k (hk | hk)
      · exact .inl hk
      · exact PK.out k hk
  | some p =>
    go_upto_region 9 with fail
    obtain ⟨w8, hw8⟩ : ∃ W, W = w6 := ⟨_, rfl⟩
    rw [← hw8]
    have V8 := Lib.hid (show VBox w8 nc 2 (kc s (some p)) by rw [hw8]; exact V6'.out)
    have BL8 := Lib.hid (show Below nc w5 w8 by rw [hw8]; exact B6'.out)
    have hwn := E0.out.win _ _ p HKQ.out
    have W8 := Lib.hid (show Win w8 p (x.wb px.z.fr px.z.ep) (x.ws px.z.fr px.z.ep) from ((LE5.out _ BL8.out).win _ _ p HKQ.out).1)
    have PM : Hid (p ≠ m) := Lib.hid hwn.2.2.2
    have HPQ : Hid (q px.z.fr px.z.ep = some p ∨ (q px.z.fr px.z.ep = none ∧ ¬ K p ∧ p < w8.drew.heap.size)) := Lib.hid (.inl HKQ.out)
    have PK : Hid (∀ k, k = p → K k ∨ w.heap.size ≤ k) := Lib.hid (fun k hk => .inl (hk ▸ hwn.2.1))
    clear hw8 k1 kf1 hwn
    have E8 := Lib.hid (LE5.out _ BL8.out)
    have VB8 := Lib.hid (LB5.out _ BL8.out)
    have VP8 := Lib.hid (LV.out _ (LT5.out _ BL8.out))
    obtain ⟨w9, hrun, hmap, hgr⟩ := run_updateL (w := w8.drew) E8.out.drew.map HPO.out.fr HPO.out.ep (kev s (some p))
    have HR := Lib.hid hmap
    have HGR := Lib.hid hgr
    have d3 := E8.out.drew.c3
    have d4 : w8.drew.cell? ⟨g5, 0, none⟩ = some (.int .i64 px.z.fr) := VB8.out.at1 rfl
    have d5 : w8.drew.cell? ⟨g5, 1, none⟩ = some (.int .i64 px.z.ep) := VB8.out.at1 rfl
    have d6 : w8.drew.cell? ⟨nc, 0, none⟩ = some (.int .i64 s) := V8.out.at1 rfl
    have d7 : w8.drew.cell? ⟨nc, 1, none⟩ = some (.pointer (some ⟨p, 0, none⟩)) := V8.out.at1 rfl
    clear hmap hgr
    refine Late.region (fun w' => w' = w8.drew) [6] (by kernel_rfl) rfl (fun hHeld => ?_)
    refine Late.take (i := 0) (oi := ⟨some 37, Op.move (Operand.tmp 0), _, _, _, _⟩) (v := ?_) rfl (by kernel_rfl) (by kernel_rfl) (by kernel_rfl) (by kernel_rfl) (fun _ _ _ h => h) (Or.inl ⟨by rfl, fun w hSw => ?_⟩) (by assumption) ?_
    rotate_left
    · (have s1 := hSw; go_simp; try with_reducible rfl)
    try simp only [Act.put, List.setIfInBounds_toArray, List.set_cons_zero, List.set_cons_succ]
    refine Late.take (i := 1) (oi := ⟨some 38, Op.nilCheck (Operand.tmp 37), _, _, _, _⟩) (v := ?_) rfl (by kernel_rfl) (by kernel_rfl) (by kernel_rfl) (by kernel_rfl) (fun _ _ _ h => h) (Or.inl ⟨by rfl, fun w hSw => ?_⟩) (by assumption) ?_
    rotate_left
    · (have s1 := hSw; go_simp; try with_reducible rfl)
    try simp only [Act.put, List.setIfInBounds_toArray, List.set_cons_zero, List.set_cons_succ]
    refine Late.take (i := 2) (oi := ⟨some 39, Op.fieldAddr 43 (Operand.tmp 38) 3, _, _, _, _⟩) (v := ?_) rfl (by kernel_rfl) (by kernel_rfl) (by kernel_rfl) (by kernel_rfl) (fun _ _ _ h => h) (Or.inl ⟨by rfl, fun w hSw => ?_⟩) (by assumption) ?_
    rotate_left
    · (have s1 := hSw; go_simp; try with_reducible rfl)
    try simp only [Act.put, List.setIfInBounds_toArray, List.set_cons_zero, List.set_cons_succ]
    refine Late.take (i := 3) (oi := ⟨some 40, Op.load 41 (Operand.tmp 39), _, _, _, _⟩) (v := ?_) rfl (by kernel_rfl) (by kernel_rfl) (by kernel_rfl) (by kernel_rfl) (fun _ _ _ h => h) (Or.inl ⟨by rfl, fun w hSw => ?_⟩) (by assumption) ?_
    rotate_left
    · (have s1 := hSw; subst hSw; go_simp; try with_reducible rfl)
    try simp only [Act.put, List.setIfInBounds_toArray, List.set_cons_zero, List.set_cons_succ]
    refine Late.take (i := 4) (oi := ⟨some 41, Op.load 71 (Operand.tmp 5), _, _, _, _⟩) (v := ?_) rfl (by kernel_rfl) (by kernel_rfl) (by kernel_rfl) (by kernel_rfl) (fun _ _ _ h => h) (Or.inl ⟨by rfl, fun w hSw => ?_⟩) (by assumption) ?_
    rotate_left
    · (have s1 := hSw; subst hSw; go_simp; try with_reducible rfl)
    try simp only [Act.put, List.setIfInBounds_toArray, List.set_cons_zero, List.set_cons_succ]
    refine Late.take (i := 5) (oi := ⟨some 42, Op.load 74 (Operand.tmp 6), _, _, _, _⟩) (v := ?_) rfl (by kernel_rfl) (by kernel_rfl) (by kernel_rfl) (by kernel_rfl) (fun _ _ _ h => h) (Or.inl ⟨by rfl, fun w hSw => ?_⟩) (by assumption) ?_
    rotate_left
    · (have s1 := hSw; subst hSw; go_simp; try with_reducible rfl)
    try simp only [Act.put, List.setIfInBounds_toArray, List.set_cons_zero, List.set_cons_succ]
    refine Late.end_ (i := 6) (o := ⟨none, Op.mapUpdate 41 (Operand.tmp 40) (Operand.tmp 41) (Operand.tmp 42), _, _, _, _⟩) (by kernel_rfl) rfl rfl (fun K hK => ?_)
    rw [if_pos (by rfl)]
    refine wp_skipL (exec_updateL hrun rfl rfl rfl rfl) ?_
    refine hK.out _ _ ?_
    clear hK K
    try simp only [Act.put]
    refine Late.done (by kernel_rfl) ?_ _
    refine NoPanic.normal ?_
    have hm8 := Lib.hid (E8.out.lt m E8.out.Km)
    have hmg : Hid (m < g) := Lib.hid (by have := E0.out.lt m E0.out.Km; have := HG.out; omega)
    have e6 : w9.cell? ⟨nc, 1, none⟩ = some (.pointer (some ⟨p, 0, none⟩)) := (World.cell?_of_block (a := ⟨nc, 1, none⟩) (HGR.out.block nc (by show nc < w8.heap.size; exact V8.out.lt) (fun e => by injection e with e; have := hmg.out; have := NN.out; have := GN.out; omega))).trans d7
    have VP9 := Lib.hid (VP8.out.same (HGR.out.block g (by show g < w8.heap.size; exact VP8.out.lt) (fun e => by injection e with e; have := hmg.out; omega)))
    obtain ⟨_, _, _, f3, f4, _⟩ := pbox_cells VP9.out
    clear d3 d4 d5 d6 d7 hrun
    obtain ⟨er, wb', ws', htz⟩ : ∃ a b c, takeZ (x.wb px.z.fr px.z.ep) (x.ws px.z.fr px.z.ep) px.z.bo px.z.sq = (a, b, c) := ⟨_, _, _, rfl⟩
    have W9 := Lib.hid (Win.apart (W8.out.drew) HGR.out PM.out)
    have TV := Lib.hid (take_val W9.out HPO.out.bo HPO.out.sq htz)
    have HTZ := Lib.hid htz
    clear htz
    go_wp2_with (go_at_call 59; refine TV.out.mono ?_; rintro e w10 ⟨rfl, hw, hgt⟩; have W10 := Lib.hid hw; have G10 := Lib.hid hgt; clear hw hgt)
    go_ret
    have hx : takeE x px.z = (er, { x with wb := upd x.wb px.z.fr px.z.ep wb', ws := upd x.ws px.z.fr px.z.ep ws' }) := by unfold takeE; rw [if_neg (fun h => h HTO.out), if_neg (fun h => h HT.out), HTZ.out]
    rw [hx]
    have EZ := E8.out.drew.take HPQ.out HGR.out (by rw [HSS.out]; exact HR.out) W10.out G10.out
    refine ⟨rfl, _, ⟨Ar, nr, cr, m, _, EZ⟩, ⟨?_, ?_, ?_, ?_, ?_⟩, ?_⟩
    · rw [G10.out.os, HGR.out.os]; exact (LG.out _ (LT5.out _ BL8.out)).os
    · rw [G10.out.tape, HGR.out.tape]; exact (LG.out _ (LT5.out _ BL8.out)).tape
    · rw [G10.out.output, HGR.out.output]; exact (LG.out _ (LT5.out _ BL8.out)).output
    · exact Nat.le_trans (LG.out _ (LT5.out _ BL8.out)).size (Nat.le_trans HGR.out.size G10.out.size)
    · intro k hk hn
      have h8 := (LG.out _ (LT5.out _ BL8.out))
      have hl8 : k < w8.heap.size := Nat.lt_of_lt_of_le hk h8.size
      rw [G10.out.block k (Nat.lt_of_lt_of_le hl8 HGR.out.size) (fun e => by injection e with e; exact (PK.out k e).elim (fun h => hn h) (fun h => by omega)),
        HGR.out.block k hl8 (fun e => by injection e with e; exact hn (e ▸ E0.out.Km))]
      exact h8.block k (by have := HG.out; omega)
    · rintro k (hk | hk)
      · exact .inl hk
      · exact PK.out k hk
theorem take_anyL {w : World} {b : Nat} {K : Nat → Prop} {x : EdZ} (h : EP w b K x) {px : PX} {B : Nat} (hp : PXOk w B px) (hB : B ≤ w.heap.size) (hl : px.n ≤ 65000) (hF : LaidF w) (hK : LaidK w) :
    Calls Tryd.prog 39 #[.pointer (some ⟨b, 0, none⟩), .agg (pc px).toArray] w (TakeT w b K (takeE x px.z)) := by
  by_cases hto : px.z.tw = x.who
  · by_cases ht : px.z.tag = tagR x.root px.z
    · exact take_yes h hp hB hl hF hK hto ht
    · exact take_tag h hp hB hl hF hK hto ht
  · exact take_other h hp hB hl hF hK hto
end Go.Proofs.YtlknjaoamkcmjaaDoor
