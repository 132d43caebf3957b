/- A packet's head, its right tag, sealed, its bytes: the program's. -/
import Derived.Test.YtlknjaoamkcmjaaDoorLkB
namespace Go.Proofs.YtlknjaoamkcmjaaDoor
open Go.ChangeShapes Go.WideShapes Go.ChangeAt Go.RowKit
set_option linter.unusedVariables false
set_option maxRecDepth 100000
set_option linter.unusedSimpArgs false
open Plain Sha Wn Lk
/-- What a head's writer holds at last. -/
theorem st_head (p : PkZ) (h : p.body.length ≤ 65000) : wPut (wPut (wPut (wPut (wPut (wPut (some []) (n64 p.fr)) (n64 p.tw)) (n64 p.ep)) (n64 p.bo)) (n64 p.sq)) (bytesF p.body) = some (headF p) := by
  have hl := headF_len p
  unfold headF at hl ⊢
  simp only [List.length_append] at hl
  rw [wPut_yes [] (n64 p.fr) (by simp only [List.length_nil]; omega), List.nil_append]
  iterate 5 rw [wPut_yes _ _ (by (try simp only [List.length_append]); omega)]
/-- What head tells: a writer that holds it. -/
def HeadT (w : World) (zs : List Int) (e : Ending) (w' : World) : Prop := ∃ nb g, e = .returned (.pointer (some ⟨nb, 0, none⟩)) ∧ Wr w' nb g (some zs) ∧ Below w.heap.size w w' ∧ w.heap.size ≤ nb
set_option maxHeartbeats 4000000 in
theorem head_any {w : World} {B : Nat} {x : PX} (h : PXOk w B x) (hB : B ≤ w.heap.size) (hl : x.n ≤ 65000) : Calls Tryd.prog 35 #[.agg (pc x).toArray] w (HeadT w (headF x.z)) := by
  obtain ⟨W1, hW1⟩ : ∃ W, W = w.alloc (.cells (pc x).toArray 26) := ⟨_, rfl⟩
  have b1 := Lib.hid (show Below w.heap.size w W1 by rw [hW1]; exact below_one _ _)
  obtain ⟨g, hg⟩ : ∃ g, w.heap.size = g := ⟨_, rfl⟩
  have HG := Lib.hid hg
  have V1 := Lib.hid (show VBox W1 g 38 (pc x) by rw [hW1]; exact pbox_new w x h.ok.tl _ g hg)
  obtain ⟨nb, hnb⟩ : ∃ nb, W1.heap.size = nb := ⟨_, rfl⟩
  have Z1 := Lib.hid hnb
  have HN : Hid (nb = g + 1) := Lib.hid (by rw [← hnb, hW1, ← hg]; simp)
  have HW1 := Lib.hid hW1
  have HH := Lib.hid h
  have hbl : x.n ≤ 140737488355328 := by omega
  have HB1 : Hid (B ≤ g) := Lib.hid (by rw [← hg]; exact hB)
  have HST := Lib.hid (st_head x.z (by rw [h.body.len]; exact hl))
  have hfr := h.ok.fr
  have hto := h.ok.tw
  have hep := h.ok.ep
  have hbo := h.ok.bo
  have hsq := h.ok.sq
  unfold InL at hfr hto hep hbo hsq
  have HC := Lib.hid (show ∀ W, Below nb W1 W → W.cell? ⟨g, 0, none⟩ = some (.int .i64 x.z.fr) ∧ W.cell? ⟨g, 1, none⟩ = some (.int .i64 x.z.tw) ∧ W.cell? ⟨g, 2, none⟩ = some (.int .i64 x.z.ep) ∧ W.cell? ⟨g, 3, none⟩ = some (.int .i64 x.z.bo) ∧ W.cell? ⟨g, 4, none⟩ = some (.int .i64 x.z.sq) ∧ W.cell? ⟨g, 5, none⟩ = some (.slice x.A x.n x.c) from fun W hW => pbox_cells (V1.out.below hW (by rw [HN.out]; omega)))
  have HB : Hid (B ≤ nb) := Lib.hid (by have := HB1.out; have := HN.out; omega)
  have HT : Hid (∀ W, Below nb W1 W → Bs W B x.A x.n x.z.body) := Lib.hid (fun W hW => HH.out.body.belowM (b1.out.trans (hW.mono (by rw [HG.out, HN.out]; omega))) (by rw [HG.out]; exact HB1.out))
  have HT2 : Hid (∀ W, Below nb W1 W → B ≤ W.heap.size) := Lib.hid (fun W hW => by have := hW.size; have := HB.out; have := Z1.out; omega)
  have P1 : Hid (Below nb W1 W1) := Lib.hid (Below.refl _ _)
  clear hW1 hg h hB hnb
  go_enter Tryd.func35, Tryd.ntmps35
  go_upto_region 1 with fail
  rw [← HW1.out, HG.out]
  refine Late.region (fun w' => Below nb W1 w') [] (by kernel_rfl) P1.out.drew (fun hHeld => ?_)
  refine Late.take (i := 1) (oi := ⟨some 4, Op.fieldAddr 26 (Operand.tmp 1) 0, _, _, _, _⟩) (v := ?_) rfl (by kernel_rfl) (by kernel_rfl) (by kernel_rfl) (by kernel_rfl) (fun _ _ _ h => h) (Or.inl ⟨by rfl, fun w hSw => ?_⟩) (by assumption) ?_
  rotate_left
  · (have s1 := hSw; go_simp; try with_reducible rfl)
  try simp only [Act.put, List.setIfInBounds_toArray, List.set_cons_zero, List.set_cons_succ]
  refine Late.take (i := 2) (oi := ⟨some 5, Op.load 3 (Operand.tmp 4), _, _, _, _⟩) (v := ?_) rfl (by kernel_rfl) (by kernel_rfl) (by kernel_rfl) (by kernel_rfl) (fun _ _ _ h => h) (Or.inl ⟨by rfl, fun w hSw => ?_⟩) (by assumption) ?_
  rotate_left
  · (have s1 := hSw; obtain ⟨d0, d1, d2, d3, d4, d5⟩ := HC.out _ hSw; go_simp; try with_reducible rfl)
  try simp only [Act.put, List.setIfInBounds_toArray, List.set_cons_zero, List.set_cons_succ]
  refine Late.take (i := 4) (oi := ⟨some 7, Op.fieldAddr 26 (Operand.tmp 1) 1, _, _, _, _⟩) (v := ?_) rfl (by kernel_rfl) (by kernel_rfl) (by kernel_rfl) (by kernel_rfl) (fun _ _ _ h => h) (Or.inl ⟨by rfl, fun w hSw => ?_⟩) (by assumption) ?_
  rotate_left
  · (have s1 := hSw; go_simp; try with_reducible rfl)
  try simp only [Act.put, List.setIfInBounds_toArray, List.set_cons_zero, List.set_cons_succ]
  refine Late.take (i := 5) (oi := ⟨some 8, Op.load 3 (Operand.tmp 7), _, _, _, _⟩) (v := ?_) rfl (by kernel_rfl) (by kernel_rfl) (by kernel_rfl) (by kernel_rfl) (fun _ _ _ h => h) (Or.inl ⟨by rfl, fun w hSw => ?_⟩) (by assumption) ?_
  rotate_left
  · (have s1 := hSw; obtain ⟨d0, d1, d2, d3, d4, d5⟩ := HC.out _ hSw; go_simp; try with_reducible rfl)
  try simp only [Act.put, List.setIfInBounds_toArray, List.set_cons_zero, List.set_cons_succ]
  refine Late.take (i := 7) (oi := ⟨some 10, Op.fieldAddr 26 (Operand.tmp 1) 2, _, _, _, _⟩) (v := ?_) rfl (by kernel_rfl) (by kernel_rfl) (by kernel_rfl) (by kernel_rfl) (fun _ _ _ h => h) (Or.inl ⟨by rfl, fun w hSw => ?_⟩) (by assumption) ?_
  rotate_left
  · (have s1 := hSw; go_simp; try with_reducible rfl)
  try simp only [Act.put, List.setIfInBounds_toArray, List.set_cons_zero, List.set_cons_succ]
  refine Late.take (i := 8) (oi := ⟨some 11, Op.load 3 (Operand.tmp 10), _, _, _, _⟩) (v := ?_) rfl (by kernel_rfl) (by kernel_rfl) (by kernel_rfl) (by kernel_rfl) (fun _ _ _ h => h) (Or.inl ⟨by rfl, fun w hSw => ?_⟩) (by assumption) ?_
  rotate_left
  · (have s1 := hSw; obtain ⟨d0, d1, d2, d3, d4, d5⟩ := HC.out _ hSw; go_simp; try with_reducible rfl)
  try simp only [Act.put, List.setIfInBounds_toArray, List.set_cons_zero, List.set_cons_succ]
  refine Late.take (i := 10) (oi := ⟨some 13, Op.fieldAddr 26 (Operand.tmp 1) 3, _, _, _, _⟩) (v := ?_) rfl (by kernel_rfl) (by kernel_rfl) (by kernel_rfl) (by kernel_rfl) (fun _ _ _ h => h) (Or.inl ⟨by rfl, fun w hSw => ?_⟩) (by assumption) ?_
  rotate_left
  · (have s1 := hSw; go_simp; try with_reducible rfl)
  try simp only [Act.put, List.setIfInBounds_toArray, List.set_cons_zero, List.set_cons_succ]
  refine Late.take (i := 11) (oi := ⟨some 14, Op.load 3 (Operand.tmp 13), _, _, _, _⟩) (v := ?_) rfl (by kernel_rfl) (by kernel_rfl) (by kernel_rfl) (by kernel_rfl) (fun _ _ _ h => h) (Or.inl ⟨by rfl, fun w hSw => ?_⟩) (by assumption) ?_
  rotate_left
  · (have s1 := hSw; obtain ⟨d0, d1, d2, d3, d4, d5⟩ := HC.out _ hSw; go_simp; try with_reducible rfl)
  try simp only [Act.put, List.setIfInBounds_toArray, List.set_cons_zero, List.set_cons_succ]
  refine Late.take (i := 13) (oi := ⟨some 16, Op.fieldAddr 26 (Operand.tmp 1) 4, _, _, _, _⟩) (v := ?_) rfl (by kernel_rfl) (by kernel_rfl) (by kernel_rfl) (by kernel_rfl) (fun _ _ _ h => h) (Or.inl ⟨by rfl, fun w hSw => ?_⟩) (by assumption) ?_
  rotate_left
  · (have s1 := hSw; go_simp; try with_reducible rfl)
  try simp only [Act.put, List.setIfInBounds_toArray, List.set_cons_zero, List.set_cons_succ]
  refine Late.take (i := 14) (oi := ⟨some 17, Op.load 3 (Operand.tmp 16), _, _, _, _⟩) (v := ?_) rfl (by kernel_rfl) (by kernel_rfl) (by kernel_rfl) (by kernel_rfl) (fun _ _ _ h => h) (Or.inl ⟨by rfl, fun w hSw => ?_⟩) (by assumption) ?_
  rotate_left
  · (have s1 := hSw; obtain ⟨d0, d1, d2, d3, d4, d5⟩ := HC.out _ hSw; go_simp; try with_reducible rfl)
  try simp only [Act.put, List.setIfInBounds_toArray, List.set_cons_zero, List.set_cons_succ]
  refine Late.take (i := 16) (oi := ⟨some 19, Op.fieldAddr 26 (Operand.tmp 1) 5, _, _, _, _⟩) (v := ?_) rfl (by kernel_rfl) (by kernel_rfl) (by kernel_rfl) (by kernel_rfl) (fun _ _ _ h => h) (Or.inl ⟨by rfl, fun w hSw => ?_⟩) (by assumption) ?_
  rotate_left
  · (have s1 := hSw; go_simp; try with_reducible rfl)
  try simp only [Act.put, List.setIfInBounds_toArray, List.set_cons_zero, List.set_cons_succ]
  refine Late.take (i := 17) (oi := ⟨some 20, Op.load 22 (Operand.tmp 19), _, _, _, _⟩) (v := ?_) rfl (by kernel_rfl) (by kernel_rfl) (by kernel_rfl) (by kernel_rfl) (fun _ _ _ h => h) (Or.inl ⟨by rfl, fun w hSw => ?_⟩) (by assumption) ?_
  rotate_left
  · (have s1 := hSw; obtain ⟨d0, d1, d2, d3, d4, d5⟩ := HC.out _ hSw; go_simp; try with_reducible rfl)
  try simp only [Act.put, List.setIfInBounds_toArray, List.set_cons_zero, List.set_cons_succ]
  refine Late.one (i := 0) (o := ⟨some 3, Op.call { callee := Callee.value (Operand.func 54), args := #[], argTypes := #[] }, _, _, _, _⟩) (by kernel_rfl) rfl (fun K hK => ?_)
  go_simp
  refine (newwriter_at W1.drew nb Z1.out).mono ?_
  rintro e w3 ⟨rfl, r0, b0, z0⟩
  have hb0 := hHeld.trans b0
  refine hK.out _ _ (hb0) (fun hHeld2 => ?_)
  clear hK K hHeld
  have hHeld := hHeld2
  clear hHeld2
  try simp only [Act.put, List.setIfInBounds_toArray, List.set_cons_zero, List.set_cons_succ]
  refine Late.one (i := 3) (o := ⟨some 6, Op.call { callee := Callee.value (Operand.func 55), args := #[Operand.tmp 3, Operand.tmp 5], argTypes := #[65, 3] }, _, _, _, _⟩) (by kernel_rfl) rfl (fun K hK => ?_)
  go_simp
  refine (int_wr r0 x.z.fr hfr.1 hfr.2).mono ?_
  rintro e w4 ⟨rfl, g1, r1, o1, f1⟩
  have hb1 := hHeld.trans (Wr.below r0 o1 (Nat.le_refl _))
  refine hK.out _ _ (hb1) (fun hHeld2 => ?_)
  clear hK K hHeld
  have hHeld := hHeld2
  clear hHeld2
  try simp only [Act.put, List.setIfInBounds_toArray, List.set_cons_zero, List.set_cons_succ]
  refine Late.one (i := 6) (o := ⟨some 9, Op.call { callee := Callee.value (Operand.func 55), args := #[Operand.tmp 6, Operand.tmp 8], argTypes := #[65, 3] }, _, _, _, _⟩) (by kernel_rfl) rfl (fun K hK => ?_)
  go_simp
  refine (int_wr r1 x.z.tw hto.1 hto.2).mono ?_
  rintro e w5 ⟨rfl, g2, r2, o2, f2⟩
  have hb2 := hHeld.trans (Wr.below r1 o2 (Nat.le_refl _))
  refine hK.out _ _ (hb2) (fun hHeld2 => ?_)
  clear hK K hHeld
  have hHeld := hHeld2
  clear hHeld2
  try simp only [Act.put, List.setIfInBounds_toArray, List.set_cons_zero, List.set_cons_succ]
  refine Late.one (i := 9) (o := ⟨some 12, Op.call { callee := Callee.value (Operand.func 55), args := #[Operand.tmp 9, Operand.tmp 11], argTypes := #[65, 3] }, _, _, _, _⟩) (by kernel_rfl) rfl (fun K hK => ?_)
  go_simp
  refine (int_wr r2 x.z.ep hep.1 hep.2).mono ?_
  rintro e w6 ⟨rfl, g3, r3, o3, f3⟩
  have hb3 := hHeld.trans (Wr.below r2 o3 (Nat.le_refl _))
  refine hK.out _ _ (hb3) (fun hHeld2 => ?_)
  clear hK K hHeld
  have hHeld := hHeld2
  clear hHeld2
  try simp only [Act.put, List.setIfInBounds_toArray, List.set_cons_zero, List.set_cons_succ]
  refine Late.one (i := 12) (o := ⟨some 15, Op.call { callee := Callee.value (Operand.func 55), args := #[Operand.tmp 12, Operand.tmp 14], argTypes := #[65, 3] }, _, _, _, _⟩) (by kernel_rfl) rfl (fun K hK => ?_)
  go_simp
  refine (int_wr r3 x.z.bo hbo.1 hbo.2).mono ?_
  rintro e w7 ⟨rfl, g4, r4, o4, f4⟩
  have hb4 := hHeld.trans (Wr.below r3 o4 (Nat.le_refl _))
  refine hK.out _ _ (hb4) (fun hHeld2 => ?_)
  clear hK K hHeld
  have hHeld := hHeld2
  clear hHeld2
  try simp only [Act.put, List.setIfInBounds_toArray, List.set_cons_zero, List.set_cons_succ]
  refine Late.one (i := 15) (o := ⟨some 18, Op.call { callee := Callee.value (Operand.func 55), args := #[Operand.tmp 15, Operand.tmp 17], argTypes := #[65, 3] }, _, _, _, _⟩) (by kernel_rfl) rfl (fun K hK => ?_)
  go_simp
  refine (int_wr r4 x.z.sq hsq.1 hsq.2).mono ?_
  rintro e w8 ⟨rfl, g5, r5, o5, f5⟩
  have hb5 := hHeld.trans (Wr.below r4 o5 (Nat.le_refl _))
  refine hK.out _ _ (hb5) (fun hHeld2 => ?_)
  clear hK K hHeld
  have hHeld := hHeld2
  clear hHeld2
  try simp only [Act.put, List.setIfInBounds_toArray, List.set_cons_zero, List.set_cons_succ]
  refine Late.one (i := 18) (o := ⟨some 21, Op.call { callee := Callee.value (Operand.func 56), args := #[Operand.tmp 18, Operand.tmp 20], argTypes := #[65, 22] }, _, _, _, _⟩) (by kernel_rfl) rfl (fun K hK => ?_)
  go_simp
  refine (bytes_wr r5 x.c (HT.out _ hHeld) (HT2.out _ hHeld) hbl (Wr.apart r5 (HT.out _ hHeld) HB.out)).mono ?_
  rintro e w9 ⟨rfl, g6, r6, o6, f6⟩
  have hb6 := hHeld.trans (Wr.below r5 o6 (Nat.le_refl _))
  refine hK.out _ _ (hb6) (fun hHeld2 => ?_)
  clear hK K hHeld
  have hHeld := hHeld2
  clear hHeld2
  try simp only [Act.put, List.setIfInBounds_toArray, List.set_cons_zero, List.set_cons_succ]
  refine Late.take (i := 19) (oi := ⟨some 2, Op.assign (Operand.tmp 21), _, _, _, _⟩) (v := ?_) rfl (by kernel_rfl) (by kernel_rfl) (by kernel_rfl) (by kernel_rfl) (fun _ _ _ h => h) (Or.inl ⟨by rfl, fun w hSw => ?_⟩) (by assumption) ?_
  rotate_left
  · (have s1 := hSw; go_simp; try with_reducible rfl)
  try simp only [Act.put, List.setIfInBounds_toArray, List.set_cons_zero, List.set_cons_succ]
  refine Late.done (by kernel_rfl) ?_ _
  refine NoPanic.normal ?_
  have HR := Lib.hid r6
  have BZ := Lib.hid (b1.out.trans (hHeld.mono (by rw [HG.out, HN.out]; omega)))
  clear hHeld
  go_wp2
  go_ret
  exact ⟨nb, _, rfl, by rw [← HST.out]; exact HR.out, BZ.out, by rw [HG.out, HN.out]; omega⟩
theorem ns3 (w : World) (a b c : Int) (t : TypeId) (g : Nat) (hg : w.heap.size = g) (ha : InL a) (hb : InL b) (hc : InL c) : Ns (w.alloc (.cells #[.int .i64 a, .int .i64 b, .int .i64 c] t)) (g + 1) (some ⟨g, 0, none⟩) 3 [a, b, c] := by
  subst hg
  unfold InL at ha hb hc
  refine ⟨rfl, fun j hj => ?_, fun _ => ⟨w.heap.size, 0, rfl, by omega, fun j hj => ?_⟩⟩
  · have : j = 0 ∨ j = 1 ∨ j = 2 := by omega
    rcases this with rfl | rfl | rfl <;> assumption
  · rw [cell_of_row _ _ _ _ _ _ (heap_alloc_new w _), Nat.zero_add]
    have : j = 0 ∨ j = 1 ∨ j = 2 := by omega
    rcases this with rfl | rfl | rfl <;> rfl
/-- A new tag's cells. -/
def zTg : Array Value := (vals (List.replicate 32 0)).toArray
theorem zTg_size : zTg.size = 32 := by unfold zTg; rw [List.size_toArray, vals_len]; rfl
theorem zTg_ne : ¬ zTg = #[] := fun h => by have := zTg_size; rw [h] at this; simp at this
theorem zTk (w : World) : (zeroValue 24).run Tryd.prog w = .ok (.agg zTg) w := by
  obtain ⟨i, hi, hz, hs, hb⟩ := info_parts (show (Tryd.prog.info? 24).map (fun i => (i.zero, i.size, i.bytes)) = some (some (.agg (vals (List.replicate 32 0)).toArray), 32, 32) by kernel_rfl)
  simp [zeroValue, run_typeInfo w hi, hz, zTg]
/-- What tells a tag alone. -/
def TagT (w : World) (T : List Int) (e : Ending) (w' : World) : Prop := e = .returned (.agg (vals T).toArray) ∧ Below w.heap.size w w'
theorem z32_box (w : World) (g : Nat) (hg : w.heap.size = g) : VBox (w.alloc (.cells zTg 24)) g 32 (vals (List.replicate 32 0)) := vbox_new _ _ _ _ _ hg (by rw [vals_len]; rfl) (by omega)
set_option maxHeartbeats 4000000 in
theorem righttag_any {w : World} {B Br n : Nat} (c : Nat) {A : Option Addr} {root : List Int} {x : PX} (hr : Bs w Br A n root) (hBr : Br ≤ w.heap.size) (hn : n ≤ 3000) (h : PXOk w B x) (hB : B ≤ w.heap.size) (hl : x.n ≤ 65000) (hF : LaidF w) (hK : LaidK w) :
    Calls Tryd.prog 27 #[.slice A n c, .agg (pc x).toArray] w (TagT w (tagR root x.z)) := by
  obtain ⟨W0, hW0⟩ : ∃ W, W = w.alloc (.cells (pc x).toArray 26) := ⟨_, rfl⟩
  obtain ⟨W1, hW1⟩ : ∃ W, W = W0.alloc (.cells zTg 24) := ⟨_, rfl⟩
  obtain ⟨g, hg⟩ : ∃ g, w.heap.size = g := ⟨_, rfl⟩
  have hg0 : W0.heap.size = g + 1 := by rw [hW0, ← hg]; simp
  have hg1 : W1.heap.size = g + 2 := by rw [hW1]; simp [hg0]
  have b0 : Below w.heap.size w W0 := by rw [hW0]; exact below_one _ _
  have b1 : Below w.heap.size w W1 := b0.trans ((show Below W0.heap.size W0 W1 by rw [hW1]; exact below_one _ _).mono b0.size)
  have B1 := Lib.hid b1
  have V0' : VBox W0 g 38 (pc x) := by rw [hW0]; exact pbox_new w x h.ok.tl _ g hg
  have V0 := Lib.hid (show VBox W1 g 38 (pc x) by rw [hW1]; exact V0'.same (Below.heap_alloc _ _ _ (by rw [hg0]; omega)))
  have V1 := Lib.hid (show VBox W1 (g + 1) 32 (vals (List.replicate 32 0)) by rw [hW1]; exact z32_box W0 (g + 1) hg0)
  have HG := Lib.hid hg
  have HG1 := Lib.hid hg1
  have HW : Hid (W1 = (w.alloc (.cells (pc x).toArray 26)).alloc (.cells zTg 24)) := Lib.hid (by rw [hW1, hW0])
  have LF : Hid (∀ W, Below w.heap.size w W → LaidF W) := Lib.hid (fun W hW => hF.below hW hF.lt)
  have LK : Hid (∀ W, Below w.heap.size w W → LaidK W) := Lib.hid (fun W hW => hK.below hW hK.lt)
  have HR : Hid (∀ W, Below w.heap.size w W → Bs W Br A n root ∧ Br ≤ W.heap.size) := Lib.hid (fun W hW => ⟨hr.belowM hW hBr, Nat.le_trans hBr hW.size⟩)
  obtain ⟨T, hT⟩ : ∃ T, tagR root x.z = T := ⟨_, rfl⟩
  have lT : Hid (T.length = 32) := Lib.hid (by rw [← hT]; exact tagR_len _ _)
  have HE : Hid (hmacZ (deriveZ root linkS [x.z.fr, x.z.tw, x.z.ep]) (headF x.z) = T) := Lib.hid hT
  have HHL : Hid ((headF x.z).length ≤ 65536) := Lib.hid (by rw [headF_len, h.body.len]; omega)
  have HHB := Lib.hid (headF_bytes (p := x.z) h.ok.body)
  have hfr := h.ok.fr
  have hto := h.ok.tw
  have hep := h.ok.ep
  have HX := Lib.hid (head_any (w := W1) (h.below b1 hB) (Nat.le_trans hB b1.size) hl)
  have HTL := Lib.hid h.ok.tl
  rw [hT]
  clear hW0 hW1 hg hg0 hg1 b0 b1 hr hBr h hB hT hF hK V0'
  have zk := zTk
  have zs := zTg_size
  have zn := zTg_ne
  go_enter Tryd.func27, Tryd.ntmps27
  go_upto_region 1 with fail
  rw [← HW.out, HG.out]
  clear zk zs zn
  go_upto_region 2 with (first
      | (show wpList _ _ _ (⟨some 8, .load 26 (.tmp 3), _, _, _, _⟩ :: _) _ _; refine wpList_load_mid (op := ⟨some 8, .load 26 (.tmp 3), _, _, _, _⟩) rfl 26 (.tmp 3) rfl (g) 0 rfl (pc x) _ (V0.out.range) Tryd.underlying26 rfl (p_size HTL.out) ?_)
      | (go_at_call 35; refine (HX.out).mono ?_; rintro e w2 ⟨nb, gw, rfl, hr, hb, hnb⟩; have R2 := Lib.hid hr; have B2 := Lib.hid hb; clear hr hb)
      | (go_at_call 37; refine (done_ok R2.out).mono ?_; rintro e w3 ⟨u, rfl, hu, hb⟩; obtain ⟨D, d, rfl, ho, hd1, hd2⟩ := hu; have B3 := Lib.hid (B2.out.trans (hb.mono B2.out.size)); have Z3 := Lib.hid (bs_of_own ho HHB.out); clear hb ho))
  have BT3 := Lib.hid (B1.out.trans (B3.out.mono B1.out.size))
  obtain ⟨d0, d1, d2, _, _, _⟩ := pbox_cells (V0.out.below B3.out (by have := HG1.out; omega))
  go_wp2_with fail
  have b4 : Below w3.heap.size w3 (w3.alloc (.cells #[.int .i64 x.z.fr, .int .i64 x.z.tw, .int .i64 x.z.ep] 3)) := below_one _ _
  have s4 : (w3.alloc (.cells #[.int .i64 x.z.fr, .int .i64 x.z.tw, .int .i64 x.z.ep] 3)).heap.size = w3.heap.size + 1 := by simp
  have bt4 := BT3.out.trans (b4.mono BT3.out.size)
  have c4 := B3.out.trans (b4.mono B3.out.size)
  refine (hderive_any c 3 linkS (HR.out _ bt4).1 (ns3 w3 _ _ _ 3 _ rfl hfr hto hep) (HR.out _ bt4).2 (by rw [s4]; omega) (by omega) (by decide) (by omega) (LF.out _ bt4) (LK.out _ bt4)).mono ?_
  rintro e w5 ⟨gk, rfl, hr5, hle, hlt, hb5⟩
  have BT5 := Lib.hid (bt4.trans (hb5.mono bt4.size))
  have B5 := Lib.hid (c4.trans (hb5.mono c4.size))
  have Z5 := Lib.hid ((Z3.out.belowM b4 (Nat.le_refl _)).belowM hb5 (by rw [s4]; omega))
  have S5 := Lib.hid (show w3.heap.size ≤ w5.heap.size from Nat.le_trans b4.size hb5.size)
  have K5 := Lib.hid (hr5.bs (deriveZ_bytes _ _ _) hlt (n := 32) (deriveZ_len _ _ _).symm)
  clear b4 s4 bt4 c4 hr5 hle hlt hb5 d0 d1 d2
  go_wp2_with fail
  refine (hsum_any 32 d K5.out Z5.out (Nat.le_refl _) S5.out (by omega) (by have := HHL.out; omega) (LF.out _ BT5.out) (LK.out _ BT5.out)).mono ?_
  rw [HE.out]
  rintro e w6 ⟨rfl, hb6⟩
  have BT6 := Lib.hid (BT5.out.trans (hb6.mono BT5.out.size))
  have V6 := Lib.hid ((V1.out.below (B5.out.trans (hb6.mono B5.out.size)) (by have := HG1.out; omega)))
  have VT := Lib.hid (vthere V6.out (us := vals T) (by rw [vals_len]; exact lT.out))
  clear hb6 K5 Z5
  go_wp2_with (show wpList _ _ _ (⟨none, .store 24 (.tmp 4) (.tmp 23), _, _, _, _⟩ :: _) _ _; refine wpList_store_as (op := ⟨none, .store 24 (.tmp 4) (.tmp 23), _, _, _, _⟩) rfl 24 (.tmp 4) (.tmp 23) rfl (g + 1) 0 (vals T).toArray rfl rfl (VT.out) (tag_size T lT.out) (all_oneCell_toArray (vals_one T)) ?_; intro w9 hw9)
  obtain ⟨V9, b9⟩ := vstored V6.out (us := vals T) (by rw [vals_len]; exact lT.out) hw9 (by rw [HG.out]; omega) BT6.out
  exact bodyPost_ret (v := .agg (vals T).toArray) (results_mid (p := 4) (ty := 24) rfl _ _ (g + 1) 0 (vals T) _ rfl V9.range Tryd.underlying24 rfl (tag_size T lT.out)) rfl ⟨rfl, b9⟩
end Go.Proofs.YtlknjaoamkcmjaaDoor
