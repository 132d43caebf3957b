/- What is written of a message: the program's. Printed by gen_msj.py. -/
import Derived.Test.YtfihiandifnkpaaMsI
namespace Go.Proofs.Ytfihiandifnkpaa
open Go.ChangeShapes Go.WideShapes Go.ChangeAt Go.RowKit
set_option linter.unusedVariables false
set_option maxRecDepth 100000
set_option linter.unusedSimpArgs false
open Plain Sha Ms
namespace Ms
def ownP (m : MsgZ) : List (List Int) :=
  if m.kind = 1 ∨ m.kind = 6 then [n64 m.client, n64 m.id, bytesF m.body]
  else if m.kind = 2 then appP m.upto m.frm m.es
  else if m.kind = 3 then [n64 m.hav, n64 m.don]
  else if m.kind = 4 then confP m.ep m.ms
  else [n64 m.since]
end Ms
theorem ownP_flat (m : MsgZ) : (ownP m).flatten = ownF m := by
  unfold ownP ownF
  split
  · simp
  · split
    · exact appP_flat _ _ _
    · split
      · simp
      · split
        · exact confP_flat _ _
        · simp
theorem bytesF_lenM (zs : List Int) : (bytesF zs).length = 4 + zs.length := by unfold bytesF; rw [List.length_append, putZ_len]
theorem restF_len (e : EntZ) : (restF e).length = 28 + e.body.length := by
  unfold restF
  simp only [List.length_append, n64_len', bytesF_lenM]
  omega
theorem memF_len (m : MemZ) : (memF m).length = 17 := by
  unfold memF
  simp only [List.length_append, n64_len', List.length_cons, List.length_nil]
theorem esF_len : ∀ (l : List EntZ), (∀ e, e ∈ l → e.body.length ≤ 1024) → (esF l).length ≤ l.length * 1052
  | [], _ => by simp [esF]
  | a :: l, h => by
    have ih := esF_len l (fun e he => h e (List.mem_cons_of_mem _ he))
    have ha := h a List.mem_cons_self
    unfold esF at ih ⊢
    rw [List.flatMap_cons, List.length_append, restF_len, List.length_cons]
    omega
theorem msF_len : ∀ (l : List MemZ), (msF l).length = l.length * 17
  | [] => rfl
  | a :: l => by
    have ih := msF_len l
    unfold msF at ih ⊢
    rw [List.flatMap_cons, List.length_append, memF_len, ih, List.length_cons]
    omega
theorem app_small {u f : Int} {es : List EntZ} (h : appB u f es = true) : es.length ≤ 4 ∧ ∀ e, e ∈ es → entB e = true := by
  unfold appB at h
  simp only [Bool.and_eq_true, decide_eq_true_eq] at h
  refine ⟨h.1.2, fun e he => ?_⟩
  obtain ⟨k, hk, rfl⟩ := List.mem_iff_getElem.1 he
  have := allT_yes.1 h.2 k hk
  unfold rowB at this
  simp only [Bool.and_eq_true] at this
  have h2 := this.2
  rw [List.getD_eq_getElem?_getD, List.getElem?_eq_getElem hk] at h2
  exact h2
theorem ent_small {e : EntZ} (h : entB e = true) : e.body.length ≤ 1024 := by
  unfold entB at h
  simp only [Bool.and_eq_true, decide_eq_true_eq] at h
  exact h.2
theorem conf_small {e : Int} {ms : List MemZ} (h : confB e ms = true) : ms.length ≤ 5 := by
  unfold confB at h
  simp only [Bool.and_eq_true, decide_eq_true_eq] at h
  exact h.1.2
theorem mayM_parts {z : MsgZ} (h : mayM z = true) : kindB z.kind = true ∧ noneB (othM z) = true ∧ askM z = true := by
  unfold mayM at h
  simp only [Bool.and_eq_true] at h
  exact ⟨h.1.1, h.1.2, h.2⟩
/-- The forms of messages that may be are short. -/
theorem formM_short {z : MsgZ} (h : mayM z = true) : (formM z).length ≤ 20100 := by
  obtain ⟨hk, _, ha⟩ := mayM_parts h
  unfold askM at ha
  unfold formM ownF
  rw [List.length_append]
  by_cases h1 : z.kind = 1 ∨ z.kind = 6
  · rw [if_pos h1] at ha ⊢
    simp only [Bool.and_eq_true, decide_eq_true_eq] at ha
    simp only [List.length_append, n64_len', bytesF_lenM, List.length_cons, List.length_nil]
    omega
  · rw [if_neg h1] at ha ⊢
    by_cases h2 : z.kind = 2
    · rw [if_pos h2] at ha ⊢
      obtain ⟨a, b⟩ := app_small ha
      have := esF_len z.es (fun e he => ent_small (b e he))
      simp only [List.length_append, n64_len', List.length_cons, List.length_nil]
      omega
    · rw [if_neg h2] at ha ⊢
      by_cases h3 : z.kind = 3
      · rw [if_pos h3]
        simp only [List.length_append, n64_len', List.length_cons, List.length_nil]
        omega
      · rw [if_neg h3] at ha ⊢
        by_cases h4 : z.kind = 4
        · rw [if_pos h4] at ha ⊢
          have := conf_small ha
          unfold confF
          simp only [List.length_append, n64_len', msF_len, List.length_cons, List.length_nil]
          omega
        · rw [if_neg h4]
          simp only [n64_len', List.length_cons, List.length_nil]
          omega
set_option maxHeartbeats 4000000 in
theorem wk1_any {w : World} {b : Nat} {g0 : Option Nat} {st : Option (List Int)} (r : Wr w b g0 st) {B : Nat} {x : MX} (h : MXOk w B x) (hB : B ≤ b) (hn : x.n ≤ 140737488355328) : Calls Try.prog 92 #[.pointer (some ⟨b, 0, none⟩), .agg (mc x).toArray] w (Puts w b g0 (wPuts st [n64 x.client, n64 x.id, bytesF x.body])) := by
  have hBw : B ≤ w.heap.size := by have := r.lt; omega
  have HX := Lib.hid h
  clear h
  obtain ⟨W1, hW1⟩ : ∃ W, W = w.alloc (.cells (mc x).toArray 28) := ⟨_, rfl⟩
  have b1 := Lib.hid (show Below w.heap.size w W1 by rw [hW1]; exact below_one _ _)
  obtain ⟨g, hg⟩ : ∃ g, w.heap.size = g := ⟨_, rfl⟩
  have Hg := Lib.hid hg
  have V1 := Lib.hid (show VBox W1 g 12 (mc x) by rw [hW1]; exact vbox_new _ _ _ _ _ hg rfl (by omega))
  have z1 := Lib.hid (show W1.heap.size = g + 1 by rw [hW1]; simp [hg])
  have HW1 := Lib.hid hW1
  clear hW1 hg
  have RW := Lib.hid (show Wr W1 b g0 st by rw [HW1.out]; exact r.grown (grown_alloc w _ none) (by simp) (by simp))
  have NE := Lib.hid (show g ≠ b ∧ some g ≠ g0 from ⟨by have := r.lt; have := Hg.out; omega, fun e => by have := (r.own g e.symm).2; have := Hg.out; omega⟩)
  have GA : Hid (w.grownBy W1 none) := Lib.hid (by rw [HW1.out]; exact grown_alloc w _ none)
  have HT : Hid (∀ W, Wrote W1 W b g0 → Bs W B x.A x.n x.body ∧ B ≤ W.heap.size) := Lib.hid (fun W hW => ⟨Bs.wrote ((HX.out.body.belowM b1.out hBw)) hW (Wr.apart RW.out (HX.out.body.belowM b1.out hBw) hB) (Nat.le_trans hBw b1.out.size), Nat.le_trans hBw (Nat.le_trans b1.out.size hW.size)⟩)
  have HC := Lib.hid (show ∀ W, Wrote W1 W b g0 → _ from fun W hW => ((V1.out.same (hW.block g V1.out.lt NE.out.1 NE.out.2)).m))
  have HD0 := Lib.hid (show Wrote W1 W1.drew b g0 from Wrote.of_grown (grown_drewN W1 1 none) (.inl rfl))
  have hc := HX.out.client
  have hi := HX.out.id
  unfold InM at hc hi
  have F0 : Fresh W1 g0 g0 := .inl rfl
  go_enter Try.func92, Try.ntmps92
  go_upto_region 1 with fail
  rw [← HW1.out, Hg.out]
  refine Late.region (fun w' => Wrote W1 w' b g0) [] (by kernel_rfl) HD0.out (fun hHeld => ?_)
  refine Late.take (i := 0) (oi := ⟨some 5, Op.move (Operand.tmp 0), _, _, _, _⟩) (v := ?_) rfl (by kernel_rfl) (by kernel_rfl) (by kernel_rfl) (by kernel_rfl) (fun _ _ _ h => h) (Or.inl ⟨by rfl, fun w hSw => ?_⟩) (by assumption) ?_
  rotate_left
  · (have s1 := hSw; go_simp; try with_reducible rfl)
  try simp only [Act.put, List.setIfInBounds_toArray, List.set_cons_zero, List.set_cons_succ]
  refine Late.take (i := 1) (oi := ⟨some 6, Op.fieldAddr 28 (Operand.tmp 3) 1, _, _, _, _⟩) (v := ?_) rfl (by kernel_rfl) (by kernel_rfl) (by kernel_rfl) (by kernel_rfl) (fun _ _ _ h => h) (Or.inl ⟨by rfl, fun w hSw => ?_⟩) (by assumption) ?_
  rotate_left
  · (have s1 := hSw; go_simp; try with_reducible rfl)
  try simp only [Act.put, List.setIfInBounds_toArray, List.set_cons_zero, List.set_cons_succ]
  refine Late.take (i := 2) (oi := ⟨some 7, Op.load 3 (Operand.tmp 6), _, _, _, _⟩) (v := ?_) rfl (by kernel_rfl) (by kernel_rfl) (by kernel_rfl) (by kernel_rfl) (fun _ _ _ h => h) (Or.inl ⟨by rfl, fun w hSw => ?_⟩) (by assumption) ?_
  rotate_left
  · (have s1 := hSw; obtain ⟨d0, d1, d2, d3, d4, d5, d6, d7, d8, d9, d10, d11⟩ := HC.out _ hSw; go_simp; try with_reducible rfl)
  try simp only [Act.put, List.setIfInBounds_toArray, List.set_cons_zero, List.set_cons_succ]
  refine Late.take (i := 4) (oi := ⟨some 9, Op.fieldAddr 28 (Operand.tmp 3) 2, _, _, _, _⟩) (v := ?_) rfl (by kernel_rfl) (by kernel_rfl) (by kernel_rfl) (by kernel_rfl) (fun _ _ _ h => h) (Or.inl ⟨by rfl, fun w hSw => ?_⟩) (by assumption) ?_
  rotate_left
  · (have s1 := hSw; go_simp; try with_reducible rfl)
  try simp only [Act.put, List.setIfInBounds_toArray, List.set_cons_zero, List.set_cons_succ]
  refine Late.take (i := 5) (oi := ⟨some 10, Op.load 3 (Operand.tmp 9), _, _, _, _⟩) (v := ?_) rfl (by kernel_rfl) (by kernel_rfl) (by kernel_rfl) (by kernel_rfl) (fun _ _ _ h => h) (Or.inl ⟨by rfl, fun w hSw => ?_⟩) (by assumption) ?_
  rotate_left
  · (have s1 := hSw; obtain ⟨d0, d1, d2, d3, d4, d5, d6, d7, d8, d9, d10, d11⟩ := HC.out _ hSw; go_simp; try with_reducible rfl)
  try simp only [Act.put, List.setIfInBounds_toArray, List.set_cons_zero, List.set_cons_succ]
  refine Late.take (i := 7) (oi := ⟨some 12, Op.fieldAddr 28 (Operand.tmp 3) 3, _, _, _, _⟩) (v := ?_) rfl (by kernel_rfl) (by kernel_rfl) (by kernel_rfl) (by kernel_rfl) (fun _ _ _ h => h) (Or.inl ⟨by rfl, fun w hSw => ?_⟩) (by assumption) ?_
  rotate_left
  · (have s1 := hSw; go_simp; try with_reducible rfl)
  try simp only [Act.put, List.setIfInBounds_toArray, List.set_cons_zero, List.set_cons_succ]
  refine Late.take (i := 8) (oi := ⟨some 13, Op.load 22 (Operand.tmp 12), _, _, _, _⟩) (v := ?_) rfl (by kernel_rfl) (by kernel_rfl) (by kernel_rfl) (by kernel_rfl) (fun _ _ _ h => h) (Or.inl ⟨by rfl, fun w hSw => ?_⟩) (by assumption) ?_
  rotate_left
  · (have s1 := hSw; obtain ⟨d0, d1, d2, d3, d4, d5, d6, d7, d8, d9, d10, d11⟩ := HC.out _ hSw; go_simp; try with_reducible rfl)
  try simp only [Act.put, List.setIfInBounds_toArray, List.set_cons_zero, List.set_cons_succ]
  refine Late.one (i := 3) (o := ⟨some 8, Op.call { callee := Callee.value (Operand.func 59), args := #[Operand.tmp 5, Operand.tmp 7], argTypes := #[44, 3] }, _, _, _, _⟩) (by kernel_rfl) rfl (fun K hK => ?_)
  go_simp
  refine (int_wr RW.out.drew x.client hc.1 hc.2).mono ?_
  rintro e w3 ⟨rfl, g1, r1, o1, f1⟩
  have F1 := Fresh.trans F0 f1 hHeld.size
  have hb1 := Wrote.trans hHeld o1 F0
  refine hK.out _ _ (hb1) (fun hHeld2 => ?_)
  clear hK K hHeld
  have hHeld := hHeld2
  clear hHeld2
  try simp only [Act.put, List.setIfInBounds_toArray, List.set_cons_zero, List.set_cons_succ]
  refine Late.one (i := 6) (o := ⟨some 11, Op.call { callee := Callee.value (Operand.func 59), args := #[Operand.tmp 8, Operand.tmp 10], argTypes := #[44, 3] }, _, _, _, _⟩) (by kernel_rfl) rfl (fun K hK => ?_)
  go_simp
  refine (int_wr r1 x.id hi.1 hi.2).mono ?_
  rintro e w4 ⟨rfl, g2, r2, o2, f2⟩
  have F2 := Fresh.trans F1 f2 hHeld.size
  have hb2 := Wrote.trans hHeld o2 F1
  refine hK.out _ _ (hb2) (fun hHeld2 => ?_)
  clear hK K hHeld
  have hHeld := hHeld2
  clear hHeld2
  try simp only [Act.put, List.setIfInBounds_toArray, List.set_cons_zero, List.set_cons_succ]
  refine Late.one (i := 9) (o := ⟨some 14, Op.call { callee := Callee.value (Operand.func 81), args := #[Operand.tmp 11, Operand.tmp 13], argTypes := #[44, 22] }, _, _, _, _⟩) (by kernel_rfl) rfl (fun K hK => ?_)
  go_simp
  refine (bytes_wr r2 x.c (HT.out _ hHeld).1 (HT.out _ hHeld).2 hn (Wr.apart r2 (HT.out _ hHeld).1 hB)).mono ?_
  rintro e w5 ⟨rfl, g3, r3, o3, f3⟩
  have F3 := Fresh.trans F2 f3 hHeld.size
  have hb3 := Wrote.trans hHeld o3 F2
  refine hK.out _ _ (hb3) (fun hHeld2 => ?_)
  clear hK K hHeld
  have hHeld := hHeld2
  clear hHeld2
  try simp only [Act.put, List.setIfInBounds_toArray, List.set_cons_zero, List.set_cons_succ]
  refine Late.take (i := 10) (oi := ⟨some 4, Op.assign (Operand.tmp 14), _, _, _, _⟩) (v := ?_) rfl (by kernel_rfl) (by kernel_rfl) (by kernel_rfl) (by kernel_rfl) (fun _ _ _ h => h) (Or.inl ⟨by rfl, fun w hSw => ?_⟩) (by assumption) ?_
  rotate_left
  · (have s1 := hSw; go_simp; try with_reducible rfl)
  try simp only [Act.put, List.setIfInBounds_toArray, List.set_cons_zero, List.set_cons_succ]
  refine Late.done (by kernel_rfl) ?_ _
  refine NoPanic.normal ?_
  go_wp2
  go_ret
  exact Puts.from GA.out ⟨rfl, g3, r3, hHeld, F3⟩
set_option maxHeartbeats 4000000 in
theorem wk3_any {w : World} {b : Nat} {g0 : Option Nat} {st : Option (List Int)} (r : Wr w b g0 st) {B : Nat} {x : MX} (h : MXOk w B x) (hB : B ≤ b) : Calls Try.prog 100 #[.pointer (some ⟨b, 0, none⟩), .agg (mc x).toArray] w (Puts w b g0 (wPuts st [n64 x.hav, n64 x.don])) := by
  have hBw : B ≤ w.heap.size := by have := r.lt; omega
  have HX := Lib.hid h
  clear h
  obtain ⟨W1, hW1⟩ : ∃ W, W = w.alloc (.cells (mc x).toArray 28) := ⟨_, rfl⟩
  have b1 := Lib.hid (show Below w.heap.size w W1 by rw [hW1]; exact below_one _ _)
  obtain ⟨g, hg⟩ : ∃ g, w.heap.size = g := ⟨_, rfl⟩
  have Hg := Lib.hid hg
  have V1 := Lib.hid (show VBox W1 g 12 (mc x) by rw [hW1]; exact vbox_new _ _ _ _ _ hg rfl (by omega))
  have z1 := Lib.hid (show W1.heap.size = g + 1 by rw [hW1]; simp [hg])
  have HW1 := Lib.hid hW1
  clear hW1 hg
  have RW := Lib.hid (show Wr W1 b g0 st by rw [HW1.out]; exact r.grown (grown_alloc w _ none) (by simp) (by simp))
  have NE := Lib.hid (show g ≠ b ∧ some g ≠ g0 from ⟨by have := r.lt; have := Hg.out; omega, fun e => by have := (r.own g e.symm).2; have := Hg.out; omega⟩)
  have GA : Hid (w.grownBy W1 none) := Lib.hid (by rw [HW1.out]; exact grown_alloc w _ none)
  have HC := Lib.hid (show ∀ W, Wrote W1 W b g0 → _ from fun W hW => ((V1.out.same (hW.block g V1.out.lt NE.out.1 NE.out.2)).m))
  have HD0 := Lib.hid (show Wrote W1 W1.drew b g0 from Wrote.of_grown (grown_drewN W1 1 none) (.inl rfl))
  have hc := HX.out.hav
  have hi := HX.out.don
  unfold InM at hc hi
  have F0 : Fresh W1 g0 g0 := .inl rfl
  go_enter Try.func100, Try.ntmps100
  go_upto_region 1 with fail
  rw [← HW1.out, Hg.out]
  refine Late.region (fun w' => Wrote W1 w' b g0) [] (by kernel_rfl) HD0.out (fun hHeld => ?_)
  refine Late.take (i := 0) (oi := ⟨some 5, Op.move (Operand.tmp 0), _, _, _, _⟩) (v := ?_) rfl (by kernel_rfl) (by kernel_rfl) (by kernel_rfl) (by kernel_rfl) (fun _ _ _ h => h) (Or.inl ⟨by rfl, fun w hSw => ?_⟩) (by assumption) ?_
  rotate_left
  · (have s1 := hSw; go_simp; try with_reducible rfl)
  try simp only [Act.put, List.setIfInBounds_toArray, List.set_cons_zero, List.set_cons_succ]
  refine Late.take (i := 1) (oi := ⟨some 6, Op.fieldAddr 28 (Operand.tmp 3) 7, _, _, _, _⟩) (v := ?_) rfl (by kernel_rfl) (by kernel_rfl) (by kernel_rfl) (by kernel_rfl) (fun _ _ _ h => h) (Or.inl ⟨by rfl, fun w hSw => ?_⟩) (by assumption) ?_
  rotate_left
  · (have s1 := hSw; go_simp; try with_reducible rfl)
  try simp only [Act.put, List.setIfInBounds_toArray, List.set_cons_zero, List.set_cons_succ]
  refine Late.take (i := 2) (oi := ⟨some 7, Op.load 3 (Operand.tmp 6), _, _, _, _⟩) (v := ?_) rfl (by kernel_rfl) (by kernel_rfl) (by kernel_rfl) (by kernel_rfl) (fun _ _ _ h => h) (Or.inl ⟨by rfl, fun w hSw => ?_⟩) (by assumption) ?_
  rotate_left
  · (have s1 := hSw; obtain ⟨d0, d1, d2, d3, d4, d5, d6, d7, d8, d9, d10, d11⟩ := HC.out _ hSw; go_simp; try with_reducible rfl)
  try simp only [Act.put, List.setIfInBounds_toArray, List.set_cons_zero, List.set_cons_succ]
  refine Late.take (i := 4) (oi := ⟨some 9, Op.fieldAddr 28 (Operand.tmp 3) 8, _, _, _, _⟩) (v := ?_) rfl (by kernel_rfl) (by kernel_rfl) (by kernel_rfl) (by kernel_rfl) (fun _ _ _ h => h) (Or.inl ⟨by rfl, fun w hSw => ?_⟩) (by assumption) ?_
  rotate_left
  · (have s1 := hSw; go_simp; try with_reducible rfl)
  try simp only [Act.put, List.setIfInBounds_toArray, List.set_cons_zero, List.set_cons_succ]
  refine Late.take (i := 5) (oi := ⟨some 10, Op.load 3 (Operand.tmp 9), _, _, _, _⟩) (v := ?_) rfl (by kernel_rfl) (by kernel_rfl) (by kernel_rfl) (by kernel_rfl) (fun _ _ _ h => h) (Or.inl ⟨by rfl, fun w hSw => ?_⟩) (by assumption) ?_
  rotate_left
  · (have s1 := hSw; obtain ⟨d0, d1, d2, d3, d4, d5, d6, d7, d8, d9, d10, d11⟩ := HC.out _ hSw; go_simp; try with_reducible rfl)
  try simp only [Act.put, List.setIfInBounds_toArray, List.set_cons_zero, List.set_cons_succ]
  refine Late.one (i := 3) (o := ⟨some 8, Op.call { callee := Callee.value (Operand.func 59), args := #[Operand.tmp 5, Operand.tmp 7], argTypes := #[44, 3] }, _, _, _, _⟩) (by kernel_rfl) rfl (fun K hK => ?_)
  go_simp
  refine (int_wr RW.out.drew x.hav hc.1 hc.2).mono ?_
  rintro e w3 ⟨rfl, g1, r1, o1, f1⟩
  have F1 := Fresh.trans F0 f1 hHeld.size
  have hb1 := Wrote.trans hHeld o1 F0
  refine hK.out _ _ (hb1) (fun hHeld2 => ?_)
  clear hK K hHeld
  have hHeld := hHeld2
  clear hHeld2
  try simp only [Act.put, List.setIfInBounds_toArray, List.set_cons_zero, List.set_cons_succ]
  refine Late.one (i := 6) (o := ⟨some 11, Op.call { callee := Callee.value (Operand.func 59), args := #[Operand.tmp 8, Operand.tmp 10], argTypes := #[44, 3] }, _, _, _, _⟩) (by kernel_rfl) rfl (fun K hK => ?_)
  go_simp
  refine (int_wr r1 x.don hi.1 hi.2).mono ?_
  rintro e w4 ⟨rfl, g2, r2, o2, f2⟩
  have F2 := Fresh.trans F1 f2 hHeld.size
  have hb2 := Wrote.trans hHeld o2 F1
  refine hK.out _ _ (hb2) (fun hHeld2 => ?_)
  clear hK K hHeld
  have hHeld := hHeld2
  clear hHeld2
  try simp only [Act.put, List.setIfInBounds_toArray, List.set_cons_zero, List.set_cons_succ]
  refine Late.take (i := 7) (oi := ⟨some 4, Op.assign (Operand.tmp 11), _, _, _, _⟩) (v := ?_) rfl (by kernel_rfl) (by kernel_rfl) (by kernel_rfl) (by kernel_rfl) (fun _ _ _ h => h) (Or.inl ⟨by rfl, fun w hSw => ?_⟩) (by assumption) ?_
  rotate_left
  · (have s1 := hSw; go_simp; try with_reducible rfl)
  try simp only [Act.put, List.setIfInBounds_toArray, List.set_cons_zero, List.set_cons_succ]
  refine Late.done (by kernel_rfl) ?_ _
  refine NoPanic.normal ?_
  go_wp2
  go_ret
  exact Puts.from GA.out ⟨rfl, g2, r2, hHeld, F2⟩
set_option maxHeartbeats 4000000 in
theorem wk4_any {w : World} {b : Nat} {g0 : Option Nat} {st : Option (List Int)} (r : Wr w b g0 st) {B : Nat} {x : MX} (h : MXOk w B x) (hB : B ≤ b) (hn : x.mn ≤ 140737488355328) : Calls Try.prog 104 #[.pointer (some ⟨b, 0, none⟩), .agg (mc x).toArray] w (Puts w b g0 (wPuts st (confP x.ep x.ms))) := by
  have hBw : B ≤ w.heap.size := by have := r.lt; omega
  obtain ⟨W1, hW1⟩ : ∃ W, W = w.alloc (.cells (mc x).toArray 28) := ⟨_, rfl⟩
  have b1 := Lib.hid (show Below w.heap.size w W1 by rw [hW1]; exact below_one _ _)
  obtain ⟨g, hg⟩ : ∃ g, w.heap.size = g := ⟨_, rfl⟩
  have Hg := Lib.hid hg
  have V1 := Lib.hid (show VBox W1 g 12 (mc x) by rw [hW1]; exact vbox_new _ _ _ _ _ hg rfl (by omega))
  have z1 := Lib.hid (show W1.heap.size = g + 1 by rw [hW1]; simp [hg])
  have HW1 := Lib.hid hW1
  obtain ⟨q0, q1, q2, q3, q4, q5, q6, q7, q8, q9, q10, q11⟩ := V1.out.m
  clear hW1 hg
  have RW := Lib.hid (show Wr W1 b g0 st by rw [HW1.out]; exact r.grown (grown_alloc w _ none) (by simp) (by simp))
  have NE := Lib.hid (show g ≠ b ∧ some g ≠ g0 from ⟨by have := r.lt; have := Hg.out; omega, fun e => by have := (r.own g e.symm).2; have := Hg.out; omega⟩)
  have GA : Hid (w.grownBy W1 none) := Lib.hid (by rw [HW1.out]; exact grown_alloc w _ none)
  have CP := Lib.hid (putconf_any RW.out x.mcp x.ep h.ep (h.ms.below b1.out hBw) hB hn)
  clear h
  go_enter Try.func104, Try.ntmps104
  go_upto_region 1 with fail
  rw [← HW1.out, Hg.out]
  go_wp2_with (go_at_call 23; refine CP.out.mono ?_; rintro e w8 ⟨rfl, g3, r3, o3, f3⟩)
  go_ret
  exact Puts.from GA.out ⟨rfl, g3, r3, o3, f3⟩
set_option maxHeartbeats 4000000 in
theorem wk5_any {w : World} {b : Nat} {g0 : Option Nat} {st : Option (List Int)} (r : Wr w b g0 st) {B : Nat} {x : MX} (h : MXOk w B x) (hB : B ≤ b) : Calls Try.prog 108 #[.pointer (some ⟨b, 0, none⟩), .agg (mc x).toArray] w (Puts w b g0 (wPuts st [n64 x.since])) := by
  have hBw : B ≤ w.heap.size := by have := r.lt; omega
  obtain ⟨W1, hW1⟩ : ∃ W, W = w.alloc (.cells (mc x).toArray 28) := ⟨_, rfl⟩
  have b1 := Lib.hid (show Below w.heap.size w W1 by rw [hW1]; exact below_one _ _)
  obtain ⟨g, hg⟩ : ∃ g, w.heap.size = g := ⟨_, rfl⟩
  have Hg := Lib.hid hg
  have V1 := Lib.hid (show VBox W1 g 12 (mc x) by rw [hW1]; exact vbox_new _ _ _ _ _ hg rfl (by omega))
  have z1 := Lib.hid (show W1.heap.size = g + 1 by rw [hW1]; simp [hg])
  have HW1 := Lib.hid hW1
  obtain ⟨q0, q1, q2, q3, q4, q5, q6, q7, q8, q9, q10, q11⟩ := V1.out.m
  clear hW1 hg
  have RW := Lib.hid (show Wr W1 b g0 st by rw [HW1.out]; exact r.grown (grown_alloc w _ none) (by simp) (by simp))
  have NE := Lib.hid (show g ≠ b ∧ some g ≠ g0 from ⟨by have := r.lt; have := Hg.out; omega, fun e => by have := (r.own g e.symm).2; have := Hg.out; omega⟩)
  have GA : Hid (w.grownBy W1 none) := Lib.hid (by rw [HW1.out]; exact grown_alloc w _ none)
  have hs := h.since
  unfold InM at hs
  have CP := Lib.hid (int_wr RW.out x.since hs.1 hs.2)
  clear h
  go_enter Try.func108, Try.ntmps108
  go_upto_region 1 with fail
  rw [← HW1.out, Hg.out]
  go_wp2_with (go_at_call 59; refine CP.out.mono ?_; rintro e w8 ⟨rfl, g3, r3, o3, f3⟩)
  go_ret
  exact Puts.from GA.out ⟨rfl, g3, r3, o3, f3⟩
/-- What a Kind's function writes. -/
def WriteK (F : FuncId) (x : MX) (B : Nat) : Prop := ∀ (W : World) (b : Nat) (g : Option Nat) (st : Option (List Int)), Wr W b g st → MXOk W B x → B ≤ b → Calls Try.prog F #[.pointer (some ⟨b, 0, none⟩), .agg (mc x).toArray] W (Puts W b g (wPuts st (ownP x.z)))
section
variable {w : World} {B : Nat} {x : MX}
theorem ownP_1 (h : x.kind = 1 ∨ x.kind = 6) : ownP x.z = [n64 x.client, n64 x.id, bytesF x.body] := by
  unfold ownP
  rw [if_pos (show x.z.kind = 1 ∨ x.z.kind = 6 from h)]
  rfl
theorem ownP_2 (h : x.kind = 2) : ownP x.z = appP x.upto x.frm (x.es.map EX.z) := by
  have hk : x.z.kind = 2 := h
  unfold ownP
  simp only [hk]
  rfl
theorem ownP_3 (h : x.kind = 3) : ownP x.z = [n64 x.hav, n64 x.don] := by
  have hk : x.z.kind = 3 := h
  unfold ownP
  simp only [hk]
  rfl
theorem ownP_4 (h : x.kind = 4) : ownP x.z = confP x.ep x.ms := by
  have hk : x.z.kind = 4 := h
  unfold ownP
  simp only [hk]
  rfl
theorem ownP_5 (h : x.kind = 5) : ownP x.z = [n64 x.since] := by
  have hk : x.z.kind = 5 := h
  unfold ownP
  simp only [hk]
  rfl
theorem writek_1 (hk : x.kind = 1 ∨ x.kind = 6) (ha : askM x.z = true) : WriteK 92 x B := fun W b g st r h hB => by
  rw [ownP_1 hk]
  rw [askM_1 hk h.body.len] at ha
  simp only [Bool.and_eq_true, decide_eq_true_eq] at ha
  exact wk1_any r h hB (by omega)
theorem writek_2 (hk : x.kind = 2) (ha : askM x.z = true) : WriteK 96 x B := fun W b g st r h hB => by
  rw [ownP_2 hk]
  rw [askM_2 hk] at ha
  obtain ⟨h1, h2⟩ := app_small ha
  rw [List.length_map, h.es.row.len] at h1
  exact putapp_any r h hB (by omega) (fun y hy => by
    have := ent_small (h2 y.z (List.mem_map_of_mem hy))
    have h3 : y.body.length ≤ 1024 := this
    rw [(h.es.ok y hy).body.len] at h3
    omega)
theorem writek_3 (hk : x.kind = 3) : WriteK 100 x B := fun W b g st r h hB => by
  rw [ownP_3 hk]
  exact wk3_any r h hB
theorem writek_4 (hk : x.kind = 4) (ha : askM x.z = true) : WriteK 104 x B := fun W b g st r h hB => by
  rw [ownP_4 hk]
  rw [askM_4 hk] at ha
  have h1 := conf_small ha
  rw [h.ms.row.len] at h1
  exact wk4_any r h hB (by omega)
theorem writek_5 (hk : x.kind = 5) : WriteK 108 x B := fun W b g st r h hB => by
  rw [ownP_5 hk]
  exact wk5_any r h hB
end
theorem may_kind {x : MX} (h : mayM x.z = true) : kindB x.kind = true := (mayM_parts h).1
/-- What Print tells: a form, or an error. -/
def PrintsM (w : World) (b : Bool) (zs : List Int) (e : Ending) (w' : World) : Prop := ∃ u, e = .returned (.tuple #[u, .int .i64 (if b then 0 else 2)]) ∧ IsList u w' w.heap.size (if b then zs else []) ∧ Below w.heap.size w w'
set_option maxHeartbeats 8000000 in
theorem print_no {w : World} {B : Nat} {x : MX} (h : MXOk w B x) (hB : B ≤ w.heap.size) (hm : mayM x.z = false) : Calls Try.prog 12 #[.agg (mc x).toArray] w (PrintsM w false (formM x.z)) := by
  obtain ⟨W1, hW1⟩ : ∃ W, W = w.alloc (.cells (mc x).toArray 28) := ⟨_, rfl⟩
  have b1 := Lib.hid (show Below w.heap.size w W1 by rw [hW1]; exact below_one _ _)
  obtain ⟨g, hg⟩ : ∃ g, w.heap.size = g := ⟨_, rfl⟩
  have Hg := Lib.hid hg
  have V1 := Lib.hid (show VBox W1 g 12 (mc x) by rw [hW1]; exact vbox_new _ _ _ _ _ hg rfl (by omega))
  have z1 := Lib.hid (show W1.heap.size = g + 1 by rw [hW1]; simp [hg])
  have HW1 := Lib.hid hW1
  clear hW1 hg
  have MM := Lib.hid (may_any false ((h.below b1.out hB).more (Nat.le_trans hB b1.out.size)) (Nat.le_refl _) hm)
  clear h hm
  go_enter Try.func12, Try.ntmps12
  go_upto_region 1 with fail
  rw [← HW1.out, Hg.out]
  go_wp2_with (first
        | (with_reducible show wpList _ _ _ (⟨some 6, .load 28 (.tmp 1), _, _, _, _⟩ :: _) _ _; refine wpList_load_mid (op := ⟨some 6, .load 28 (.tmp 1), _, _, _, _⟩) rfl 28 (.tmp 1) rfl (g) (0) rfl (mc x) _ (V1.out.range) Try.underlying28 rfl (m_size _) ?_)
        | (go_at_call 13; refine MM.out.mono ?_; rintro e w2 ⟨rfl, hb⟩; have B2 := Lib.hid hb; clear hb))
  go_ret2
  exact ⟨.slice none 0 0, rfl, isList_nil _ _, b1.out.trans (B2.out.mono b1.out.size)⟩
set_option maxHeartbeats 8000000 in
theorem print_yes1 {w : World} {B : Nat} {x : MX} (h : MXOk w B x) (hB : B ≤ w.heap.size) (hm : mayM x.z = true) (hk : x.kind = 1) : Calls Try.prog 12 #[.agg (mc x).toArray] w (PrintsM w true (formM x.z)) := by
  obtain ⟨W1, hW1⟩ : ∃ W, W = w.alloc (.cells (mc x).toArray 28) := ⟨_, rfl⟩
  have b1 := Lib.hid (show Below w.heap.size w W1 by rw [hW1]; exact below_one _ _)
  obtain ⟨g, hg⟩ : ∃ g, w.heap.size = g := ⟨_, rfl⟩
  have Hg := Lib.hid hg
  have V1 := Lib.hid (show VBox W1 g 12 (mc x) by rw [hW1]; exact vbox_new _ _ _ _ _ hg rfl (by omega))
  have z1 := Lib.hid (show W1.heap.size = g + 1 by rw [hW1]; simp [hg])
  have HW1 := Lib.hid hW1
  clear hW1 hg
  have MM := Lib.hid (may_any true ((h.below b1.out hB).more (Nat.le_trans hB b1.out.size)) (Nat.le_refl _) hm)
  have ha := (mayM_parts hm).2.2
  have WK := Lib.hid (show WriteK 92 x B from writek_1 (.inl hk) ha)
  have hkr := h.kind
  have HST : Hid (wPuts (wPut (some []) [x.kind]) (ownP x.z) = some (formM x.z)) := Lib.hid (by
    have hl := formM_short hm
    rw [show wPut (some []) [x.kind] = some [x.kind] from wPut_yes [] _ (by simp), wPuts_some _ _ (by rw [ownP_flat]; exact Nat.le_trans hl (by omega)), ownP_flat]
    rfl)
  have KO := Lib.hid (fun W => show Calls Try.prog 41 #[.int .u8 x.kind] W (fun e w' => e = .returned (.tuple #[.agg #[.func (.func 90) #[] #[], .func (.func 91) #[] #[], .func (.func 92) #[] #[], .func (.func 93) #[] #[]], .bool true]) ∧ Below W.heap.size W w') from by have := kindof_any x.kind W; rw [may_kind hm, hk] at this; rw [hk]; exact this)
  have hst := fun (f : Fn) (p : Addr) (W : World) => run_store Try.prog W p (.func f #[] #[]) .plain rfl
  have HH := Lib.hid h
  have HB0 := Lib.hid hB
  clear h hm ha hk hB
  go_enter Try.func12, Try.ntmps12
  go_upto_region 1 with fail
  rw [← HW1.out, Hg.out]
  go_upto_region 3 with (first
        | (with_reducible show wpList _ _ _ (⟨some 6, .load 28 (.tmp 1), _, _, _, _⟩ :: _) _ _; refine wpList_load_mid (op := ⟨some 6, .load 28 (.tmp 1), _, _, _, _⟩) rfl 28 (.tmp 1) rfl (g) (0) rfl (mc x) _ (V1.out.range) Try.underlying28 rfl (m_size _) ?_)
        | (go_at_call 13; refine MM.out.mono ?_; rintro e w2 ⟨rfl, hb⟩; have B2 := Lib.hid hb; clear hb))
  have V2 := Lib.hid (V1.out.grow B2.out)
  obtain ⟨q0, _⟩ := V2.out.m
  go_upto_region 4 with (go_at_call 41; refine (KO.out _).mono ?_; rintro e w4 ⟨rfl, hb⟩; have B4 := Lib.hid hb; have V4 := Lib.hid (V2.out.grow hb); clear hb)
  obtain ⟨w5, hw5⟩ : ∃ W, W = w4.alloc (.cells #[.func (.func 90) #[] #[], .func (.func 91) #[] #[], .func (.func 92) #[] #[], .func (.func 93) #[] #[]] 71) := ⟨_, rfl⟩
  have b5 := Lib.hid (show Below w4.heap.size w4 w5 by rw [hw5]; exact below_one _ _)
  have V5 := Lib.hid (show VBox w5 g 12 (mc x) by rw [hw5]; exact V4.out.grow (below_one _ _))
  have K5 := Lib.hid (show VBox w5 w4.heap.size 4 kc1 by rw [hw5]; exact vbox_new w4 kc1 _ _ 4 rfl rfl (by omega))
  obtain ⟨g5, hg5⟩ : ∃ b, w4.heap.size = b := ⟨_, rfl⟩
  have z5 : w5.heap.size = g5 + 1 := by rw [hw5, ← hg5]; simp
  have B5 := Lib.hid (b1.out.trans ((B2.out.trans ((B4.out.trans (b5.out.mono B4.out.size)).mono B2.out.size)).mono b1.out.size))
  rw [← hw5, hg5]
  rw [hg5] at K5
  obtain ⟨nb, hnb⟩ : ∃ b, w5.heap.size = b := ⟨_, rfl⟩
  have Z5 := Lib.hid hnb
  have HNB : Hid (w.heap.size ≤ nb) := Lib.hid (by rw [← hnb]; exact B5.out.size)
  have HBn : Hid (B ≤ nb) := Lib.hid (Nat.le_trans HB0.out HNB.out)
  have HC := Lib.hid (show ∀ W, Below nb w5 W → (_ ∧ (W.cell? ⟨g5, 2, none⟩ = some (.func (.func 92) #[] #[]))) from fun W hW => ⟨(V5.out.below hW (by rw [← hnb]; exact V5.out.lt)).m, (K5.out.below hW (by rw [← hnb]; exact K5.out.lt)).at1 (i := 2) rfl⟩)
  have HX := Lib.hid (show ∀ W, Below nb w5 W → MXOk W B x from fun W hW => HH.out.below (B5.out.trans (hW.mono HNB.out)) HB0.out)
  have P5 : Hid (Below nb w5 w5) := Lib.hid (Below.refl _ _)
  clear hnb hw5 hg5 z5 hst q0
  refine Late.region (fun w' => Below nb w5 w') [] (by kernel_rfl) P5.out.drew (fun hHeld => ?_)
  refine Late.take (i := 0) (oi := ⟨some 15, Op.fieldAddr 71 (Operand.tmp 4) 2, _, _, _, _⟩) (v := ?_) rfl (by kernel_rfl) (by kernel_rfl) (by kernel_rfl) (by kernel_rfl) (fun _ _ _ h => h) (Or.inl ⟨by rfl, fun w hSw => ?_⟩) (by assumption) ?_
  rotate_left
  · (have s1 := hSw; go_simp; try with_reducible rfl)
  try simp only [Act.put, List.setIfInBounds_toArray, List.set_cons_zero, List.set_cons_succ]
  refine Late.take (i := 1) (oi := ⟨some 16, Op.load 68 (Operand.tmp 15), _, _, _, _⟩) (v := ?_) rfl (by kernel_rfl) (by kernel_rfl) (by kernel_rfl) (by kernel_rfl) (fun _ _ _ h => h) (Or.inl ⟨by rfl, fun w hSw => ?_⟩) (by assumption) ?_
  rotate_left
  · (have s1 := hSw; obtain ⟨d0, d1, d2, d3, d4, d5, d6, d7, d8, d9, d10, d11⟩ := (HC.out _ hSw).1; have t2 := (HC.out _ hSw).2; go_simp; try with_reducible rfl)
  try simp only [Act.put, List.setIfInBounds_toArray, List.set_cons_zero, List.set_cons_succ]
  refine Late.take (i := 3) (oi := ⟨some 18, Op.fieldAddr 28 (Operand.tmp 1) 0, _, _, _, _⟩) (v := ?_) rfl (by kernel_rfl) (by kernel_rfl) (by kernel_rfl) (by kernel_rfl) (fun _ _ _ h => h) (Or.inl ⟨by rfl, fun w hSw => ?_⟩) (by assumption) ?_
  rotate_left
  · (have s1 := hSw; go_simp; try with_reducible rfl)
  try simp only [Act.put, List.setIfInBounds_toArray, List.set_cons_zero, List.set_cons_succ]
  refine Late.take (i := 4) (oi := ⟨some 19, Op.load 5 (Operand.tmp 18), _, _, _, _⟩) (v := ?_) rfl (by kernel_rfl) (by kernel_rfl) (by kernel_rfl) (by kernel_rfl) (fun _ _ _ h => h) (Or.inl ⟨by rfl, fun w hSw => ?_⟩) (by assumption) ?_
  rotate_left
  · (have s1 := hSw; obtain ⟨d0, d1, d2, d3, d4, d5, d6, d7, d8, d9, d10, d11⟩ := (HC.out _ hSw).1; have t2 := (HC.out _ hSw).2; go_simp; try with_reducible rfl)
  try simp only [Act.put, List.setIfInBounds_toArray, List.set_cons_zero, List.set_cons_succ]
  refine Late.take (i := 6) (oi := ⟨some 21, Op.load 28 (Operand.tmp 1), _, _, _, _⟩) (v := ?_) rfl (by kernel_rfl) (by kernel_rfl) (by kernel_rfl) (by kernel_rfl) (fun _ _ _ h => h) (Or.inl ⟨by rfl, fun w hSw => ?_⟩) (by assumption) ?_
  rotate_left
  · (have s1 := hSw; obtain ⟨d0, d1, d2, d3, d4, d5, d6, d7, d8, d9, d10, d11⟩ := (HC.out _ hSw).1; have t2 := (HC.out _ hSw).2; go_simp; try with_reducible rfl)
  try simp only [Act.put, List.setIfInBounds_toArray, List.set_cons_zero, List.set_cons_succ]
  refine Late.one (i := 2) (o := ⟨some 17, Op.call { callee := Callee.value (Operand.func 21), args := #[], argTypes := #[] }, _, _, _, _⟩) (by kernel_rfl) rfl (fun K hK => ?_)
  go_simp
  refine (newwriter_at w5.drew nb Z5.out).mono ?_
  rintro e w6 ⟨rfl, r0, b0, z0⟩
  have hb0 := hHeld.trans b0
  refine hK.out _ _ (hb0) (fun hHeld2 => ?_)
  clear hK K hHeld
  have hHeld := hHeld2
  clear hHeld2
  try simp only [Act.put, List.setIfInBounds_toArray, List.set_cons_zero, List.set_cons_succ]
  refine Late.one (i := 5) (o := ⟨some 20, Op.call { callee := Callee.value (Operand.func 42), args := #[Operand.tmp 17, Operand.tmp 19], argTypes := #[44, 5] }, _, _, _, _⟩) (by kernel_rfl) rfl (fun K hK => ?_)
  go_simp
  refine (byte_wr r0 x.kind hkr.1 hkr.2).mono ?_
  rintro e w7 ⟨rfl, g1, r1, o1, f1⟩
  have hb1 := hHeld.trans ((Wr.below r0 o1 (Nat.le_refl _)).mono (Nat.le_refl _))
  refine hK.out _ _ (hb1) (fun hHeld2 => ?_)
  clear hK K hHeld
  have hHeld := hHeld2
  clear hHeld2
  try simp only [Act.put, List.setIfInBounds_toArray, List.set_cons_zero, List.set_cons_succ]
  refine Late.one (i := 7) (o := ⟨some 22, Op.call { callee := Callee.value (Operand.tmp 16), args := #[Operand.tmp 20, Operand.tmp 21], argTypes := #[44, 28] }, _, _, _, _⟩) (by kernel_rfl) rfl (fun K hK => ?_)
  go_simp
  refine (WK.out _ _ _ _ r1 (HX.out _ hHeld) HBn.out).mono ?_
  rintro e w8 ⟨rfl, g2, r2, o2, f2⟩
  have hb2 := hHeld.trans ((Wr.below r1 o2 (Nat.le_refl _)).mono (Nat.le_refl _))
  refine hK.out _ _ (hb2) (fun hHeld2 => ?_)
  clear hK K hHeld
  have hHeld := hHeld2
  clear hHeld2
  try simp only [Act.put, List.setIfInBounds_toArray, List.set_cons_zero, List.set_cons_succ]
  refine Late.one (i := 8) (o := ⟨some 23, Op.call { callee := Callee.value (Operand.func 22), args := #[Operand.tmp 22], argTypes := #[44] }, _, _, _, _⟩) (by kernel_rfl) rfl (fun K hK => ?_)
  have r2b : Wr w8 nb g2 (some (formM x.z)) := by rw [← HST.out]; exact r2
  go_simp
  refine (done_ok r2b).mono ?_
  rintro e w9 ⟨u, rfl, hu, b9⟩
  have hz8 : w.heap.size ≤ w8.heap.size := by have := r2b.lt; have := HNB.out; omega
  have hb9 := hHeld.trans (b9.mono (by have := r2b.lt; omega))
  refine hK.out _ _ (hb9) (fun hHeld2 => ?_)
  clear hK K hHeld
  have hHeld := hHeld2
  clear hHeld2
  try simp only [Act.put, List.setIfInBounds_toArray, List.set_cons_zero, List.set_cons_succ]
  refine Late.take (i := 9) (oi := ⟨some 24, Op.extract (Operand.tmp 23) 0, _, _, _, _⟩) (v := ?_) rfl (by kernel_rfl) (by kernel_rfl) (by kernel_rfl) (by kernel_rfl) (fun _ _ _ h => h) (Or.inl ⟨by rfl, fun w hSw => ?_⟩) (by assumption) ?_
  rotate_left
  · (have s1 := hSw; go_simp; try with_reducible rfl)
  try simp only [Act.put, List.setIfInBounds_toArray, List.set_cons_zero, List.set_cons_succ]
  refine Late.take (i := 10) (oi := ⟨some 25, Op.extract (Operand.tmp 23) 1, _, _, _, _⟩) (v := ?_) rfl (by kernel_rfl) (by kernel_rfl) (by kernel_rfl) (by kernel_rfl) (fun _ _ _ h => h) (Or.inl ⟨by rfl, fun w hSw => ?_⟩) (by assumption) ?_
  rotate_left
  · (have s1 := hSw; go_simp; try with_reducible rfl)
  try simp only [Act.put, List.setIfInBounds_toArray, List.set_cons_zero, List.set_cons_succ]
  refine Late.take (i := 11) (oi := ⟨some 2, Op.assign (Operand.tmp 24), _, _, _, _⟩) (v := ?_) rfl (by kernel_rfl) (by kernel_rfl) (by kernel_rfl) (by kernel_rfl) (fun _ _ _ h => h) (Or.inl ⟨by rfl, fun w hSw => ?_⟩) (by assumption) ?_
  rotate_left
  · (have s1 := hSw; go_simp; try with_reducible rfl)
  try simp only [Act.put, List.setIfInBounds_toArray, List.set_cons_zero, List.set_cons_succ]
  refine Late.take (i := 12) (oi := ⟨some 3, Op.assign (Operand.tmp 25), _, _, _, _⟩) (v := ?_) rfl (by kernel_rfl) (by kernel_rfl) (by kernel_rfl) (by kernel_rfl) (fun _ _ _ h => h) (Or.inl ⟨by rfl, fun w hSw => ?_⟩) (by assumption) ?_
  rotate_left
  · (have s1 := hSw; go_simp; try with_reducible rfl)
  try simp only [Act.put, List.setIfInBounds_toArray, List.set_cons_zero, List.set_cons_succ]
  refine Late.done (by kernel_rfl) ?_ _
  refine NoPanic.normal ?_
  have HU := Lib.hid hu
  have BZ8 := Lib.hid hz8
  have BZ := Lib.hid (B5.out.trans (hHeld.mono HNB.out))
  clear hHeld hu
  go_wp2
  go_ret2
  obtain ⟨D, c, e1, e2, e3⟩ := HU.out
  exact ⟨u, rfl, ⟨D, c, e1, own_base e2 BZ8.out, e3⟩, BZ.out⟩
set_option maxHeartbeats 8000000 in
theorem print_yes2 {w : World} {B : Nat} {x : MX} (h : MXOk w B x) (hB : B ≤ w.heap.size) (hm : mayM x.z = true) (hk : x.kind = 2) : Calls Try.prog 12 #[.agg (mc x).toArray] w (PrintsM w true (formM x.z)) := by
  obtain ⟨W1, hW1⟩ : ∃ W, W = w.alloc (.cells (mc x).toArray 28) := ⟨_, rfl⟩
  have b1 := Lib.hid (show Below w.heap.size w W1 by rw [hW1]; exact below_one _ _)
  obtain ⟨g, hg⟩ : ∃ g, w.heap.size = g := ⟨_, rfl⟩
  have Hg := Lib.hid hg
  have V1 := Lib.hid (show VBox W1 g 12 (mc x) by rw [hW1]; exact vbox_new _ _ _ _ _ hg rfl (by omega))
  have z1 := Lib.hid (show W1.heap.size = g + 1 by rw [hW1]; simp [hg])
  have HW1 := Lib.hid hW1
  clear hW1 hg
  have MM := Lib.hid (may_any true ((h.below b1.out hB).more (Nat.le_trans hB b1.out.size)) (Nat.le_refl _) hm)
  have ha := (mayM_parts hm).2.2
  have WK := Lib.hid (show WriteK 96 x B from writek_2 hk ha)
  have hkr := h.kind
  have HST : Hid (wPuts (wPut (some []) [x.kind]) (ownP x.z) = some (formM x.z)) := Lib.hid (by
    have hl := formM_short hm
    rw [show wPut (some []) [x.kind] = some [x.kind] from wPut_yes [] _ (by simp), wPuts_some _ _ (by rw [ownP_flat]; exact Nat.le_trans hl (by omega)), ownP_flat]
    rfl)
  have KO := Lib.hid (fun W => show Calls Try.prog 41 #[.int .u8 x.kind] W (fun e w' => e = .returned (.tuple #[.agg #[.func (.func 94) #[] #[], .func (.func 95) #[] #[], .func (.func 96) #[] #[], .func (.func 97) #[] #[]], .bool true]) ∧ Below W.heap.size W w') from by have := kindof_any x.kind W; rw [may_kind hm, hk] at this; rw [hk]; exact this)
  have hst := fun (f : Fn) (p : Addr) (W : World) => run_store Try.prog W p (.func f #[] #[]) .plain rfl
  have HH := Lib.hid h
  have HB0 := Lib.hid hB
  clear h hm ha hk hB
  go_enter Try.func12, Try.ntmps12
  go_upto_region 1 with fail
  rw [← HW1.out, Hg.out]
  go_upto_region 3 with (first
        | (with_reducible show wpList _ _ _ (⟨some 6, .load 28 (.tmp 1), _, _, _, _⟩ :: _) _ _; refine wpList_load_mid (op := ⟨some 6, .load 28 (.tmp 1), _, _, _, _⟩) rfl 28 (.tmp 1) rfl (g) (0) rfl (mc x) _ (V1.out.range) Try.underlying28 rfl (m_size _) ?_)
        | (go_at_call 13; refine MM.out.mono ?_; rintro e w2 ⟨rfl, hb⟩; have B2 := Lib.hid hb; clear hb))
  have V2 := Lib.hid (V1.out.grow B2.out)
  obtain ⟨q0, _⟩ := V2.out.m
  go_upto_region 4 with (go_at_call 41; refine (KO.out _).mono ?_; rintro e w4 ⟨rfl, hb⟩; have B4 := Lib.hid hb; have V4 := Lib.hid (V2.out.grow hb); clear hb)
  obtain ⟨w5, hw5⟩ : ∃ W, W = w4.alloc (.cells #[.func (.func 94) #[] #[], .func (.func 95) #[] #[], .func (.func 96) #[] #[], .func (.func 97) #[] #[]] 71) := ⟨_, rfl⟩
  have b5 := Lib.hid (show Below w4.heap.size w4 w5 by rw [hw5]; exact below_one _ _)
  have V5 := Lib.hid (show VBox w5 g 12 (mc x) by rw [hw5]; exact V4.out.grow (below_one _ _))
  have K5 := Lib.hid (show VBox w5 w4.heap.size 4 kc2 by rw [hw5]; exact vbox_new w4 kc2 _ _ 4 rfl rfl (by omega))
  obtain ⟨g5, hg5⟩ : ∃ b, w4.heap.size = b := ⟨_, rfl⟩
  have z5 : w5.heap.size = g5 + 1 := by rw [hw5, ← hg5]; simp
  have B5 := Lib.hid (b1.out.trans ((B2.out.trans ((B4.out.trans (b5.out.mono B4.out.size)).mono B2.out.size)).mono b1.out.size))
  rw [← hw5, hg5]
  rw [hg5] at K5
  obtain ⟨nb, hnb⟩ : ∃ b, w5.heap.size = b := ⟨_, rfl⟩
  have Z5 := Lib.hid hnb
  have HNB : Hid (w.heap.size ≤ nb) := Lib.hid (by rw [← hnb]; exact B5.out.size)
  have HBn : Hid (B ≤ nb) := Lib.hid (Nat.le_trans HB0.out HNB.out)
  have HC := Lib.hid (show ∀ W, Below nb w5 W → (_ ∧ (W.cell? ⟨g5, 2, none⟩ = some (.func (.func 96) #[] #[]))) from fun W hW => ⟨(V5.out.below hW (by rw [← hnb]; exact V5.out.lt)).m, (K5.out.below hW (by rw [← hnb]; exact K5.out.lt)).at1 (i := 2) rfl⟩)
  have HX := Lib.hid (show ∀ W, Below nb w5 W → MXOk W B x from fun W hW => HH.out.below (B5.out.trans (hW.mono HNB.out)) HB0.out)
  have P5 : Hid (Below nb w5 w5) := Lib.hid (Below.refl _ _)
  clear hnb hw5 hg5 z5 hst q0
  refine Late.region (fun w' => Below nb w5 w') [] (by kernel_rfl) P5.out.drew (fun hHeld => ?_)
  refine Late.take (i := 0) (oi := ⟨some 15, Op.fieldAddr 71 (Operand.tmp 4) 2, _, _, _, _⟩) (v := ?_) rfl (by kernel_rfl) (by kernel_rfl) (by kernel_rfl) (by kernel_rfl) (fun _ _ _ h => h) (Or.inl ⟨by rfl, fun w hSw => ?_⟩) (by assumption) ?_
  rotate_left
  · (have s1 := hSw; go_simp; try with_reducible rfl)
  try simp only [Act.put, List.setIfInBounds_toArray, List.set_cons_zero, List.set_cons_succ]
  refine Late.take (i := 1) (oi := ⟨some 16, Op.load 68 (Operand.tmp 15), _, _, _, _⟩) (v := ?_) rfl (by kernel_rfl) (by kernel_rfl) (by kernel_rfl) (by kernel_rfl) (fun _ _ _ h => h) (Or.inl ⟨by rfl, fun w hSw => ?_⟩) (by assumption) ?_
  rotate_left
  · (have s1 := hSw; obtain ⟨d0, d1, d2, d3, d4, d5, d6, d7, d8, d9, d10, d11⟩ := (HC.out _ hSw).1; have t2 := (HC.out _ hSw).2; go_simp; try with_reducible rfl)
  try simp only [Act.put, List.setIfInBounds_toArray, List.set_cons_zero, List.set_cons_succ]
  refine Late.take (i := 3) (oi := ⟨some 18, Op.fieldAddr 28 (Operand.tmp 1) 0, _, _, _, _⟩) (v := ?_) rfl (by kernel_rfl) (by kernel_rfl) (by kernel_rfl) (by kernel_rfl) (fun _ _ _ h => h) (Or.inl ⟨by rfl, fun w hSw => ?_⟩) (by assumption) ?_
  rotate_left
  · (have s1 := hSw; go_simp; try with_reducible rfl)
  try simp only [Act.put, List.setIfInBounds_toArray, List.set_cons_zero, List.set_cons_succ]
  refine Late.take (i := 4) (oi := ⟨some 19, Op.load 5 (Operand.tmp 18), _, _, _, _⟩) (v := ?_) rfl (by kernel_rfl) (by kernel_rfl) (by kernel_rfl) (by kernel_rfl) (fun _ _ _ h => h) (Or.inl ⟨by rfl, fun w hSw => ?_⟩) (by assumption) ?_
  rotate_left
  · (have s1 := hSw; obtain ⟨d0, d1, d2, d3, d4, d5, d6, d7, d8, d9, d10, d11⟩ := (HC.out _ hSw).1; have t2 := (HC.out _ hSw).2; go_simp; try with_reducible rfl)
  try simp only [Act.put, List.setIfInBounds_toArray, List.set_cons_zero, List.set_cons_succ]
  refine Late.take (i := 6) (oi := ⟨some 21, Op.load 28 (Operand.tmp 1), _, _, _, _⟩) (v := ?_) rfl (by kernel_rfl) (by kernel_rfl) (by kernel_rfl) (by kernel_rfl) (fun _ _ _ h => h) (Or.inl ⟨by rfl, fun w hSw => ?_⟩) (by assumption) ?_
  rotate_left
  · (have s1 := hSw; obtain ⟨d0, d1, d2, d3, d4, d5, d6, d7, d8, d9, d10, d11⟩ := (HC.out _ hSw).1; have t2 := (HC.out _ hSw).2; go_simp; try with_reducible rfl)
  try simp only [Act.put, List.setIfInBounds_toArray, List.set_cons_zero, List.set_cons_succ]
  refine Late.one (i := 2) (o := ⟨some 17, Op.call { callee := Callee.value (Operand.func 21), args := #[], argTypes := #[] }, _, _, _, _⟩) (by kernel_rfl) rfl (fun K hK => ?_)
  go_simp
  refine (newwriter_at w5.drew nb Z5.out).mono ?_
  rintro e w6 ⟨rfl, r0, b0, z0⟩
  have hb0 := hHeld.trans b0
  refine hK.out _ _ (hb0) (fun hHeld2 => ?_)
  clear hK K hHeld
  have hHeld := hHeld2
  clear hHeld2
  try simp only [Act.put, List.setIfInBounds_toArray, List.set_cons_zero, List.set_cons_succ]
  refine Late.one (i := 5) (o := ⟨some 20, Op.call { callee := Callee.value (Operand.func 42), args := #[Operand.tmp 17, Operand.tmp 19], argTypes := #[44, 5] }, _, _, _, _⟩) (by kernel_rfl) rfl (fun K hK => ?_)
  go_simp
  refine (byte_wr r0 x.kind hkr.1 hkr.2).mono ?_
  rintro e w7 ⟨rfl, g1, r1, o1, f1⟩
  have hb1 := hHeld.trans ((Wr.below r0 o1 (Nat.le_refl _)).mono (Nat.le_refl _))
  refine hK.out _ _ (hb1) (fun hHeld2 => ?_)
  clear hK K hHeld
  have hHeld := hHeld2
  clear hHeld2
  try simp only [Act.put, List.setIfInBounds_toArray, List.set_cons_zero, List.set_cons_succ]
  refine Late.one (i := 7) (o := ⟨some 22, Op.call { callee := Callee.value (Operand.tmp 16), args := #[Operand.tmp 20, Operand.tmp 21], argTypes := #[44, 28] }, _, _, _, _⟩) (by kernel_rfl) rfl (fun K hK => ?_)
  go_simp
  refine (WK.out _ _ _ _ r1 (HX.out _ hHeld) HBn.out).mono ?_
  rintro e w8 ⟨rfl, g2, r2, o2, f2⟩
  have hb2 := hHeld.trans ((Wr.below r1 o2 (Nat.le_refl _)).mono (Nat.le_refl _))
  refine hK.out _ _ (hb2) (fun hHeld2 => ?_)
  clear hK K hHeld
  have hHeld := hHeld2
  clear hHeld2
  try simp only [Act.put, List.setIfInBounds_toArray, List.set_cons_zero, List.set_cons_succ]
  refine Late.one (i := 8) (o := ⟨some 23, Op.call { callee := Callee.value (Operand.func 22), args := #[Operand.tmp 22], argTypes := #[44] }, _, _, _, _⟩) (by kernel_rfl) rfl (fun K hK => ?_)
  have r2b : Wr w8 nb g2 (some (formM x.z)) := by rw [← HST.out]; exact r2
  go_simp
  refine (done_ok r2b).mono ?_
  rintro e w9 ⟨u, rfl, hu, b9⟩
  have hz8 : w.heap.size ≤ w8.heap.size := by have := r2b.lt; have := HNB.out; omega
  have hb9 := hHeld.trans (b9.mono (by have := r2b.lt; omega))
  refine hK.out _ _ (hb9) (fun hHeld2 => ?_)
  clear hK K hHeld
  have hHeld := hHeld2
  clear hHeld2
  try simp only [Act.put, List.setIfInBounds_toArray, List.set_cons_zero, List.set_cons_succ]
  refine Late.take (i := 9) (oi := ⟨some 24, Op.extract (Operand.tmp 23) 0, _, _, _, _⟩) (v := ?_) rfl (by kernel_rfl) (by kernel_rfl) (by kernel_rfl) (by kernel_rfl) (fun _ _ _ h => h) (Or.inl ⟨by rfl, fun w hSw => ?_⟩) (by assumption) ?_
  rotate_left
  · (have s1 := hSw; go_simp; try with_reducible rfl)
  try simp only [Act.put, List.setIfInBounds_toArray, List.set_cons_zero, List.set_cons_succ]
  refine Late.take (i := 10) (oi := ⟨some 25, Op.extract (Operand.tmp 23) 1, _, _, _, _⟩) (v := ?_) rfl (by kernel_rfl) (by kernel_rfl) (by kernel_rfl) (by kernel_rfl) (fun _ _ _ h => h) (Or.inl ⟨by rfl, fun w hSw => ?_⟩) (by assumption) ?_
  rotate_left
  · (have s1 := hSw; go_simp; try with_reducible rfl)
  try simp only [Act.put, List.setIfInBounds_toArray, List.set_cons_zero, List.set_cons_succ]
  refine Late.take (i := 11) (oi := ⟨some 2, Op.assign (Operand.tmp 24), _, _, _, _⟩) (v := ?_) rfl (by kernel_rfl) (by kernel_rfl) (by kernel_rfl) (by kernel_rfl) (fun _ _ _ h => h) (Or.inl ⟨by rfl, fun w hSw => ?_⟩) (by assumption) ?_
  rotate_left
  · (have s1 := hSw; go_simp; try with_reducible rfl)
  try simp only [Act.put, List.setIfInBounds_toArray, List.set_cons_zero, List.set_cons_succ]
  refine Late.take (i := 12) (oi := ⟨some 3, Op.assign (Operand.tmp 25), _, _, _, _⟩) (v := ?_) rfl (by kernel_rfl) (by kernel_rfl) (by kernel_rfl) (by kernel_rfl) (fun _ _ _ h => h) (Or.inl ⟨by rfl, fun w hSw => ?_⟩) (by assumption) ?_
  rotate_left
  · (have s1 := hSw; go_simp; try with_reducible rfl)
  try simp only [Act.put, List.setIfInBounds_toArray, List.set_cons_zero, List.set_cons_succ]
  refine Late.done (by kernel_rfl) ?_ _
  refine NoPanic.normal ?_
  have HU := Lib.hid hu
  have BZ8 := Lib.hid hz8
  have BZ := Lib.hid (B5.out.trans (hHeld.mono HNB.out))
  clear hHeld hu
  go_wp2
  go_ret2
  obtain ⟨D, c, e1, e2, e3⟩ := HU.out
  exact ⟨u, rfl, ⟨D, c, e1, own_base e2 BZ8.out, e3⟩, BZ.out⟩
set_option maxHeartbeats 8000000 in
theorem print_yes3 {w : World} {B : Nat} {x : MX} (h : MXOk w B x) (hB : B ≤ w.heap.size) (hm : mayM x.z = true) (hk : x.kind = 3) : Calls Try.prog 12 #[.agg (mc x).toArray] w (PrintsM w true (formM x.z)) := by
  obtain ⟨W1, hW1⟩ : ∃ W, W = w.alloc (.cells (mc x).toArray 28) := ⟨_, rfl⟩
  have b1 := Lib.hid (show Below w.heap.size w W1 by rw [hW1]; exact below_one _ _)
  obtain ⟨g, hg⟩ : ∃ g, w.heap.size = g := ⟨_, rfl⟩
  have Hg := Lib.hid hg
  have V1 := Lib.hid (show VBox W1 g 12 (mc x) by rw [hW1]; exact vbox_new _ _ _ _ _ hg rfl (by omega))
  have z1 := Lib.hid (show W1.heap.size = g + 1 by rw [hW1]; simp [hg])
  have HW1 := Lib.hid hW1
  clear hW1 hg
  have MM := Lib.hid (may_any true ((h.below b1.out hB).more (Nat.le_trans hB b1.out.size)) (Nat.le_refl _) hm)
  have ha := (mayM_parts hm).2.2
  have WK := Lib.hid (show WriteK 100 x B from writek_3 hk)
  have hkr := h.kind
  have HST : Hid (wPuts (wPut (some []) [x.kind]) (ownP x.z) = some (formM x.z)) := Lib.hid (by
    have hl := formM_short hm
    rw [show wPut (some []) [x.kind] = some [x.kind] from wPut_yes [] _ (by simp), wPuts_some _ _ (by rw [ownP_flat]; exact Nat.le_trans hl (by omega)), ownP_flat]
    rfl)
  have KO := Lib.hid (fun W => show Calls Try.prog 41 #[.int .u8 x.kind] W (fun e w' => e = .returned (.tuple #[.agg #[.func (.func 98) #[] #[], .func (.func 99) #[] #[], .func (.func 100) #[] #[], .func (.func 101) #[] #[]], .bool true]) ∧ Below W.heap.size W w') from by have := kindof_any x.kind W; rw [may_kind hm, hk] at this; rw [hk]; exact this)
  have hst := fun (f : Fn) (p : Addr) (W : World) => run_store Try.prog W p (.func f #[] #[]) .plain rfl
  have HH := Lib.hid h
  have HB0 := Lib.hid hB
  clear h hm ha hk hB
  go_enter Try.func12, Try.ntmps12
  go_upto_region 1 with fail
  rw [← HW1.out, Hg.out]
  go_upto_region 3 with (first
        | (with_reducible show wpList _ _ _ (⟨some 6, .load 28 (.tmp 1), _, _, _, _⟩ :: _) _ _; refine wpList_load_mid (op := ⟨some 6, .load 28 (.tmp 1), _, _, _, _⟩) rfl 28 (.tmp 1) rfl (g) (0) rfl (mc x) _ (V1.out.range) Try.underlying28 rfl (m_size _) ?_)
        | (go_at_call 13; refine MM.out.mono ?_; rintro e w2 ⟨rfl, hb⟩; have B2 := Lib.hid hb; clear hb))
  have V2 := Lib.hid (V1.out.grow B2.out)
  obtain ⟨q0, _⟩ := V2.out.m
  go_upto_region 4 with (go_at_call 41; refine (KO.out _).mono ?_; rintro e w4 ⟨rfl, hb⟩; have B4 := Lib.hid hb; have V4 := Lib.hid (V2.out.grow hb); clear hb)
  obtain ⟨w5, hw5⟩ : ∃ W, W = w4.alloc (.cells #[.func (.func 98) #[] #[], .func (.func 99) #[] #[], .func (.func 100) #[] #[], .func (.func 101) #[] #[]] 71) := ⟨_, rfl⟩
  have b5 := Lib.hid (show Below w4.heap.size w4 w5 by rw [hw5]; exact below_one _ _)
  have V5 := Lib.hid (show VBox w5 g 12 (mc x) by rw [hw5]; exact V4.out.grow (below_one _ _))
  have K5 := Lib.hid (show VBox w5 w4.heap.size 4 kc3 by rw [hw5]; exact vbox_new w4 kc3 _ _ 4 rfl rfl (by omega))
  obtain ⟨g5, hg5⟩ : ∃ b, w4.heap.size = b := ⟨_, rfl⟩
  have z5 : w5.heap.size = g5 + 1 := by rw [hw5, ← hg5]; simp
  have B5 := Lib.hid (b1.out.trans ((B2.out.trans ((B4.out.trans (b5.out.mono B4.out.size)).mono B2.out.size)).mono b1.out.size))
  rw [← hw5, hg5]
  rw [hg5] at K5
  obtain ⟨nb, hnb⟩ : ∃ b, w5.heap.size = b := ⟨_, rfl⟩
  have Z5 := Lib.hid hnb
  have HNB : Hid (w.heap.size ≤ nb) := Lib.hid (by rw [← hnb]; exact B5.out.size)
  have HBn : Hid (B ≤ nb) := Lib.hid (Nat.le_trans HB0.out HNB.out)
  have HC := Lib.hid (show ∀ W, Below nb w5 W → (_ ∧ (W.cell? ⟨g5, 2, none⟩ = some (.func (.func 100) #[] #[]))) from fun W hW => ⟨(V5.out.below hW (by rw [← hnb]; exact V5.out.lt)).m, (K5.out.below hW (by rw [← hnb]; exact K5.out.lt)).at1 (i := 2) rfl⟩)
  have HX := Lib.hid (show ∀ W, Below nb w5 W → MXOk W B x from fun W hW => HH.out.below (B5.out.trans (hW.mono HNB.out)) HB0.out)
  have P5 : Hid (Below nb w5 w5) := Lib.hid (Below.refl _ _)
  clear hnb hw5 hg5 z5 hst q0
  refine Late.region (fun w' => Below nb w5 w') [] (by kernel_rfl) P5.out.drew (fun hHeld => ?_)
  refine Late.take (i := 0) (oi := ⟨some 15, Op.fieldAddr 71 (Operand.tmp 4) 2, _, _, _, _⟩) (v := ?_) rfl (by kernel_rfl) (by kernel_rfl) (by kernel_rfl) (by kernel_rfl) (fun _ _ _ h => h) (Or.inl ⟨by rfl, fun w hSw => ?_⟩) (by assumption) ?_
  rotate_left
  · (have s1 := hSw; go_simp; try with_reducible rfl)
  try simp only [Act.put, List.setIfInBounds_toArray, List.set_cons_zero, List.set_cons_succ]
  refine Late.take (i := 1) (oi := ⟨some 16, Op.load 68 (Operand.tmp 15), _, _, _, _⟩) (v := ?_) rfl (by kernel_rfl) (by kernel_rfl) (by kernel_rfl) (by kernel_rfl) (fun _ _ _ h => h) (Or.inl ⟨by rfl, fun w hSw => ?_⟩) (by assumption) ?_
  rotate_left
  · (have s1 := hSw; obtain ⟨d0, d1, d2, d3, d4, d5, d6, d7, d8, d9, d10, d11⟩ := (HC.out _ hSw).1; have t2 := (HC.out _ hSw).2; go_simp; try with_reducible rfl)
  try simp only [Act.put, List.setIfInBounds_toArray, List.set_cons_zero, List.set_cons_succ]
  refine Late.take (i := 3) (oi := ⟨some 18, Op.fieldAddr 28 (Operand.tmp 1) 0, _, _, _, _⟩) (v := ?_) rfl (by kernel_rfl) (by kernel_rfl) (by kernel_rfl) (by kernel_rfl) (fun _ _ _ h => h) (Or.inl ⟨by rfl, fun w hSw => ?_⟩) (by assumption) ?_
  rotate_left
  · (have s1 := hSw; go_simp; try with_reducible rfl)
  try simp only [Act.put, List.setIfInBounds_toArray, List.set_cons_zero, List.set_cons_succ]
  refine Late.take (i := 4) (oi := ⟨some 19, Op.load 5 (Operand.tmp 18), _, _, _, _⟩) (v := ?_) rfl (by kernel_rfl) (by kernel_rfl) (by kernel_rfl) (by kernel_rfl) (fun _ _ _ h => h) (Or.inl ⟨by rfl, fun w hSw => ?_⟩) (by assumption) ?_
  rotate_left
  · (have s1 := hSw; obtain ⟨d0, d1, d2, d3, d4, d5, d6, d7, d8, d9, d10, d11⟩ := (HC.out _ hSw).1; have t2 := (HC.out _ hSw).2; go_simp; try with_reducible rfl)
  try simp only [Act.put, List.setIfInBounds_toArray, List.set_cons_zero, List.set_cons_succ]
  refine Late.take (i := 6) (oi := ⟨some 21, Op.load 28 (Operand.tmp 1), _, _, _, _⟩) (v := ?_) rfl (by kernel_rfl) (by kernel_rfl) (by kernel_rfl) (by kernel_rfl) (fun _ _ _ h => h) (Or.inl ⟨by rfl, fun w hSw => ?_⟩) (by assumption) ?_
  rotate_left
  · (have s1 := hSw; obtain ⟨d0, d1, d2, d3, d4, d5, d6, d7, d8, d9, d10, d11⟩ := (HC.out _ hSw).1; have t2 := (HC.out _ hSw).2; go_simp; try with_reducible rfl)
  try simp only [Act.put, List.setIfInBounds_toArray, List.set_cons_zero, List.set_cons_succ]
  refine Late.one (i := 2) (o := ⟨some 17, Op.call { callee := Callee.value (Operand.func 21), args := #[], argTypes := #[] }, _, _, _, _⟩) (by kernel_rfl) rfl (fun K hK => ?_)
  go_simp
  refine (newwriter_at w5.drew nb Z5.out).mono ?_
  rintro e w6 ⟨rfl, r0, b0, z0⟩
  have hb0 := hHeld.trans b0
  refine hK.out _ _ (hb0) (fun hHeld2 => ?_)
  clear hK K hHeld
  have hHeld := hHeld2
  clear hHeld2
  try simp only [Act.put, List.setIfInBounds_toArray, List.set_cons_zero, List.set_cons_succ]
  refine Late.one (i := 5) (o := ⟨some 20, Op.call { callee := Callee.value (Operand.func 42), args := #[Operand.tmp 17, Operand.tmp 19], argTypes := #[44, 5] }, _, _, _, _⟩) (by kernel_rfl) rfl (fun K hK => ?_)
  go_simp
  refine (byte_wr r0 x.kind hkr.1 hkr.2).mono ?_
  rintro e w7 ⟨rfl, g1, r1, o1, f1⟩
  have hb1 := hHeld.trans ((Wr.below r0 o1 (Nat.le_refl _)).mono (Nat.le_refl _))
  refine hK.out _ _ (hb1) (fun hHeld2 => ?_)
  clear hK K hHeld
  have hHeld := hHeld2
  clear hHeld2
  try simp only [Act.put, List.setIfInBounds_toArray, List.set_cons_zero, List.set_cons_succ]
  refine Late.one (i := 7) (o := ⟨some 22, Op.call { callee := Callee.value (Operand.tmp 16), args := #[Operand.tmp 20, Operand.tmp 21], argTypes := #[44, 28] }, _, _, _, _⟩) (by kernel_rfl) rfl (fun K hK => ?_)
  go_simp
  refine (WK.out _ _ _ _ r1 (HX.out _ hHeld) HBn.out).mono ?_
  rintro e w8 ⟨rfl, g2, r2, o2, f2⟩
  have hb2 := hHeld.trans ((Wr.below r1 o2 (Nat.le_refl _)).mono (Nat.le_refl _))
  refine hK.out _ _ (hb2) (fun hHeld2 => ?_)
  clear hK K hHeld
  have hHeld := hHeld2
  clear hHeld2
  try simp only [Act.put, List.setIfInBounds_toArray, List.set_cons_zero, List.set_cons_succ]
  refine Late.one (i := 8) (o := ⟨some 23, Op.call { callee := Callee.value (Operand.func 22), args := #[Operand.tmp 22], argTypes := #[44] }, _, _, _, _⟩) (by kernel_rfl) rfl (fun K hK => ?_)
  have r2b : Wr w8 nb g2 (some (formM x.z)) := by rw [← HST.out]; exact r2
  go_simp
  refine (done_ok r2b).mono ?_
  rintro e w9 ⟨u, rfl, hu, b9⟩
  have hz8 : w.heap.size ≤ w8.heap.size := by have := r2b.lt; have := HNB.out; omega
  have hb9 := hHeld.trans (b9.mono (by have := r2b.lt; omega))
  refine hK.out _ _ (hb9) (fun hHeld2 => ?_)
  clear hK K hHeld
  have hHeld := hHeld2
  clear hHeld2
  try simp only [Act.put, List.setIfInBounds_toArray, List.set_cons_zero, List.set_cons_succ]
  refine Late.take (i := 9) (oi := ⟨some 24, Op.extract (Operand.tmp 23) 0, _, _, _, _⟩) (v := ?_) rfl (by kernel_rfl) (by kernel_rfl) (by kernel_rfl) (by kernel_rfl) (fun _ _ _ h => h) (Or.inl ⟨by rfl, fun w hSw => ?_⟩) (by assumption) ?_
  rotate_left
  · (have s1 := hSw; go_simp; try with_reducible rfl)
  try simp only [Act.put, List.setIfInBounds_toArray, List.set_cons_zero, List.set_cons_succ]
  refine Late.take (i := 10) (oi := ⟨some 25, Op.extract (Operand.tmp 23) 1, _, _, _, _⟩) (v := ?_) rfl (by kernel_rfl) (by kernel_rfl) (by kernel_rfl) (by kernel_rfl) (fun _ _ _ h => h) (Or.inl ⟨by rfl, fun w hSw => ?_⟩) (by assumption) ?_
  rotate_left
  · (have s1 := hSw; go_simp; try with_reducible rfl)
  try simp only [Act.put, List.setIfInBounds_toArray, List.set_cons_zero, List.set_cons_succ]
  refine Late.take (i := 11) (oi := ⟨some 2, Op.assign (Operand.tmp 24), _, _, _, _⟩) (v := ?_) rfl (by kernel_rfl) (by kernel_rfl) (by kernel_rfl) (by kernel_rfl) (fun _ _ _ h => h) (Or.inl ⟨by rfl, fun w hSw => ?_⟩) (by assumption) ?_
  rotate_left
  · (have s1 := hSw; go_simp; try with_reducible rfl)
  try simp only [Act.put, List.setIfInBounds_toArray, List.set_cons_zero, List.set_cons_succ]
  refine Late.take (i := 12) (oi := ⟨some 3, Op.assign (Operand.tmp 25), _, _, _, _⟩) (v := ?_) rfl (by kernel_rfl) (by kernel_rfl) (by kernel_rfl) (by kernel_rfl) (fun _ _ _ h => h) (Or.inl ⟨by rfl, fun w hSw => ?_⟩) (by assumption) ?_
  rotate_left
  · (have s1 := hSw; go_simp; try with_reducible rfl)
  try simp only [Act.put, List.setIfInBounds_toArray, List.set_cons_zero, List.set_cons_succ]
  refine Late.done (by kernel_rfl) ?_ _
  refine NoPanic.normal ?_
  have HU := Lib.hid hu
  have BZ8 := Lib.hid hz8
  have BZ := Lib.hid (B5.out.trans (hHeld.mono HNB.out))
  clear hHeld hu
  go_wp2
  go_ret2
  obtain ⟨D, c, e1, e2, e3⟩ := HU.out
  exact ⟨u, rfl, ⟨D, c, e1, own_base e2 BZ8.out, e3⟩, BZ.out⟩
set_option maxHeartbeats 8000000 in
theorem print_yes4 {w : World} {B : Nat} {x : MX} (h : MXOk w B x) (hB : B ≤ w.heap.size) (hm : mayM x.z = true) (hk : x.kind = 4) : Calls Try.prog 12 #[.agg (mc x).toArray] w (PrintsM w true (formM x.z)) := by
  obtain ⟨W1, hW1⟩ : ∃ W, W = w.alloc (.cells (mc x).toArray 28) := ⟨_, rfl⟩
  have b1 := Lib.hid (show Below w.heap.size w W1 by rw [hW1]; exact below_one _ _)
  obtain ⟨g, hg⟩ : ∃ g, w.heap.size = g := ⟨_, rfl⟩
  have Hg := Lib.hid hg
  have V1 := Lib.hid (show VBox W1 g 12 (mc x) by rw [hW1]; exact vbox_new _ _ _ _ _ hg rfl (by omega))
  have z1 := Lib.hid (show W1.heap.size = g + 1 by rw [hW1]; simp [hg])
  have HW1 := Lib.hid hW1
  clear hW1 hg
  have MM := Lib.hid (may_any true ((h.below b1.out hB).more (Nat.le_trans hB b1.out.size)) (Nat.le_refl _) hm)
  have ha := (mayM_parts hm).2.2
  have WK := Lib.hid (show WriteK 104 x B from writek_4 hk ha)
  have hkr := h.kind
  have HST : Hid (wPuts (wPut (some []) [x.kind]) (ownP x.z) = some (formM x.z)) := Lib.hid (by
    have hl := formM_short hm
    rw [show wPut (some []) [x.kind] = some [x.kind] from wPut_yes [] _ (by simp), wPuts_some _ _ (by rw [ownP_flat]; exact Nat.le_trans hl (by omega)), ownP_flat]
    rfl)
  have KO := Lib.hid (fun W => show Calls Try.prog 41 #[.int .u8 x.kind] W (fun e w' => e = .returned (.tuple #[.agg #[.func (.func 102) #[] #[], .func (.func 103) #[] #[], .func (.func 104) #[] #[], .func (.func 105) #[] #[]], .bool true]) ∧ Below W.heap.size W w') from by have := kindof_any x.kind W; rw [may_kind hm, hk] at this; rw [hk]; exact this)
  have hst := fun (f : Fn) (p : Addr) (W : World) => run_store Try.prog W p (.func f #[] #[]) .plain rfl
  have HH := Lib.hid h
  have HB0 := Lib.hid hB
  clear h hm ha hk hB
  go_enter Try.func12, Try.ntmps12
  go_upto_region 1 with fail
  rw [← HW1.out, Hg.out]
  go_upto_region 3 with (first
        | (with_reducible show wpList _ _ _ (⟨some 6, .load 28 (.tmp 1), _, _, _, _⟩ :: _) _ _; refine wpList_load_mid (op := ⟨some 6, .load 28 (.tmp 1), _, _, _, _⟩) rfl 28 (.tmp 1) rfl (g) (0) rfl (mc x) _ (V1.out.range) Try.underlying28 rfl (m_size _) ?_)
        | (go_at_call 13; refine MM.out.mono ?_; rintro e w2 ⟨rfl, hb⟩; have B2 := Lib.hid hb; clear hb))
  have V2 := Lib.hid (V1.out.grow B2.out)
  obtain ⟨q0, _⟩ := V2.out.m
  go_upto_region 4 with (go_at_call 41; refine (KO.out _).mono ?_; rintro e w4 ⟨rfl, hb⟩; have B4 := Lib.hid hb; have V4 := Lib.hid (V2.out.grow hb); clear hb)
  obtain ⟨w5, hw5⟩ : ∃ W, W = w4.alloc (.cells #[.func (.func 102) #[] #[], .func (.func 103) #[] #[], .func (.func 104) #[] #[], .func (.func 105) #[] #[]] 71) := ⟨_, rfl⟩
  have b5 := Lib.hid (show Below w4.heap.size w4 w5 by rw [hw5]; exact below_one _ _)
  have V5 := Lib.hid (show VBox w5 g 12 (mc x) by rw [hw5]; exact V4.out.grow (below_one _ _))
  have K5 := Lib.hid (show VBox w5 w4.heap.size 4 kc4 by rw [hw5]; exact vbox_new w4 kc4 _ _ 4 rfl rfl (by omega))
  obtain ⟨g5, hg5⟩ : ∃ b, w4.heap.size = b := ⟨_, rfl⟩
  have z5 : w5.heap.size = g5 + 1 := by rw [hw5, ← hg5]; simp
  have B5 := Lib.hid (b1.out.trans ((B2.out.trans ((B4.out.trans (b5.out.mono B4.out.size)).mono B2.out.size)).mono b1.out.size))
  rw [← hw5, hg5]
  rw [hg5] at K5
  obtain ⟨nb, hnb⟩ : ∃ b, w5.heap.size = b := ⟨_, rfl⟩
  have Z5 := Lib.hid hnb
  have HNB : Hid (w.heap.size ≤ nb) := Lib.hid (by rw [← hnb]; exact B5.out.size)
  have HBn : Hid (B ≤ nb) := Lib.hid (Nat.le_trans HB0.out HNB.out)
  have HC := Lib.hid (show ∀ W, Below nb w5 W → (_ ∧ (W.cell? ⟨g5, 2, none⟩ = some (.func (.func 104) #[] #[]))) from fun W hW => ⟨(V5.out.below hW (by rw [← hnb]; exact V5.out.lt)).m, (K5.out.below hW (by rw [← hnb]; exact K5.out.lt)).at1 (i := 2) rfl⟩)
  have HX := Lib.hid (show ∀ W, Below nb w5 W → MXOk W B x from fun W hW => HH.out.below (B5.out.trans (hW.mono HNB.out)) HB0.out)
  have P5 : Hid (Below nb w5 w5) := Lib.hid (Below.refl _ _)
  clear hnb hw5 hg5 z5 hst q0
  refine Late.region (fun w' => Below nb w5 w') [] (by kernel_rfl) P5.out.drew (fun hHeld => ?_)
  refine Late.take (i := 0) (oi := ⟨some 15, Op.fieldAddr 71 (Operand.tmp 4) 2, _, _, _, _⟩) (v := ?_) rfl (by kernel_rfl) (by kernel_rfl) (by kernel_rfl) (by kernel_rfl) (fun _ _ _ h => h) (Or.inl ⟨by rfl, fun w hSw => ?_⟩) (by assumption) ?_
  rotate_left
  · (have s1 := hSw; go_simp; try with_reducible rfl)
  try simp only [Act.put, List.setIfInBounds_toArray, List.set_cons_zero, List.set_cons_succ]
  refine Late.take (i := 1) (oi := ⟨some 16, Op.load 68 (Operand.tmp 15), _, _, _, _⟩) (v := ?_) rfl (by kernel_rfl) (by kernel_rfl) (by kernel_rfl) (by kernel_rfl) (fun _ _ _ h => h) (Or.inl ⟨by rfl, fun w hSw => ?_⟩) (by assumption) ?_
  rotate_left
  · (have s1 := hSw; obtain ⟨d0, d1, d2, d3, d4, d5, d6, d7, d8, d9, d10, d11⟩ := (HC.out _ hSw).1; have t2 := (HC.out _ hSw).2; go_simp; try with_reducible rfl)
  try simp only [Act.put, List.setIfInBounds_toArray, List.set_cons_zero, List.set_cons_succ]
  refine Late.take (i := 3) (oi := ⟨some 18, Op.fieldAddr 28 (Operand.tmp 1) 0, _, _, _, _⟩) (v := ?_) rfl (by kernel_rfl) (by kernel_rfl) (by kernel_rfl) (by kernel_rfl) (fun _ _ _ h => h) (Or.inl ⟨by rfl, fun w hSw => ?_⟩) (by assumption) ?_
  rotate_left
  · (have s1 := hSw; go_simp; try with_reducible rfl)
  try simp only [Act.put, List.setIfInBounds_toArray, List.set_cons_zero, List.set_cons_succ]
  refine Late.take (i := 4) (oi := ⟨some 19, Op.load 5 (Operand.tmp 18), _, _, _, _⟩) (v := ?_) rfl (by kernel_rfl) (by kernel_rfl) (by kernel_rfl) (by kernel_rfl) (fun _ _ _ h => h) (Or.inl ⟨by rfl, fun w hSw => ?_⟩) (by assumption) ?_
  rotate_left
  · (have s1 := hSw; obtain ⟨d0, d1, d2, d3, d4, d5, d6, d7, d8, d9, d10, d11⟩ := (HC.out _ hSw).1; have t2 := (HC.out _ hSw).2; go_simp; try with_reducible rfl)
  try simp only [Act.put, List.setIfInBounds_toArray, List.set_cons_zero, List.set_cons_succ]
  refine Late.take (i := 6) (oi := ⟨some 21, Op.load 28 (Operand.tmp 1), _, _, _, _⟩) (v := ?_) rfl (by kernel_rfl) (by kernel_rfl) (by kernel_rfl) (by kernel_rfl) (fun _ _ _ h => h) (Or.inl ⟨by rfl, fun w hSw => ?_⟩) (by assumption) ?_
  rotate_left
  · (have s1 := hSw; obtain ⟨d0, d1, d2, d3, d4, d5, d6, d7, d8, d9, d10, d11⟩ := (HC.out _ hSw).1; have t2 := (HC.out _ hSw).2; go_simp; try with_reducible rfl)
  try simp only [Act.put, List.setIfInBounds_toArray, List.set_cons_zero, List.set_cons_succ]
  refine Late.one (i := 2) (o := ⟨some 17, Op.call { callee := Callee.value (Operand.func 21), args := #[], argTypes := #[] }, _, _, _, _⟩) (by kernel_rfl) rfl (fun K hK => ?_)
  go_simp
  refine (newwriter_at w5.drew nb Z5.out).mono ?_
  rintro e w6 ⟨rfl, r0, b0, z0⟩
  have hb0 := hHeld.trans b0
  refine hK.out _ _ (hb0) (fun hHeld2 => ?_)
  clear hK K hHeld
  have hHeld := hHeld2
  clear hHeld2
  try simp only [Act.put, List.setIfInBounds_toArray, List.set_cons_zero, List.set_cons_succ]
  refine Late.one (i := 5) (o := ⟨some 20, Op.call { callee := Callee.value (Operand.func 42), args := #[Operand.tmp 17, Operand.tmp 19], argTypes := #[44, 5] }, _, _, _, _⟩) (by kernel_rfl) rfl (fun K hK => ?_)
  go_simp
  refine (byte_wr r0 x.kind hkr.1 hkr.2).mono ?_
  rintro e w7 ⟨rfl, g1, r1, o1, f1⟩
  have hb1 := hHeld.trans ((Wr.below r0 o1 (Nat.le_refl _)).mono (Nat.le_refl _))
  refine hK.out _ _ (hb1) (fun hHeld2 => ?_)
  clear hK K hHeld
  have hHeld := hHeld2
  clear hHeld2
  try simp only [Act.put, List.setIfInBounds_toArray, List.set_cons_zero, List.set_cons_succ]
  refine Late.one (i := 7) (o := ⟨some 22, Op.call { callee := Callee.value (Operand.tmp 16), args := #[Operand.tmp 20, Operand.tmp 21], argTypes := #[44, 28] }, _, _, _, _⟩) (by kernel_rfl) rfl (fun K hK => ?_)
  go_simp
  refine (WK.out _ _ _ _ r1 (HX.out _ hHeld) HBn.out).mono ?_
  rintro e w8 ⟨rfl, g2, r2, o2, f2⟩
  have hb2 := hHeld.trans ((Wr.below r1 o2 (Nat.le_refl _)).mono (Nat.le_refl _))
  refine hK.out _ _ (hb2) (fun hHeld2 => ?_)
  clear hK K hHeld
  have hHeld := hHeld2
  clear hHeld2
  try simp only [Act.put, List.setIfInBounds_toArray, List.set_cons_zero, List.set_cons_succ]
  refine Late.one (i := 8) (o := ⟨some 23, Op.call { callee := Callee.value (Operand.func 22), args := #[Operand.tmp 22], argTypes := #[44] }, _, _, _, _⟩) (by kernel_rfl) rfl (fun K hK => ?_)
  have r2b : Wr w8 nb g2 (some (formM x.z)) := by rw [← HST.out]; exact r2
  go_simp
  refine (done_ok r2b).mono ?_
  rintro e w9 ⟨u, rfl, hu, b9⟩
  have hz8 : w.heap.size ≤ w8.heap.size := by have := r2b.lt; have := HNB.out; omega
  have hb9 := hHeld.trans (b9.mono (by have := r2b.lt; omega))
  refine hK.out _ _ (hb9) (fun hHeld2 => ?_)
  clear hK K hHeld
  have hHeld := hHeld2
  clear hHeld2
  try simp only [Act.put, List.setIfInBounds_toArray, List.set_cons_zero, List.set_cons_succ]
  refine Late.take (i := 9) (oi := ⟨some 24, Op.extract (Operand.tmp 23) 0, _, _, _, _⟩) (v := ?_) rfl (by kernel_rfl) (by kernel_rfl) (by kernel_rfl) (by kernel_rfl) (fun _ _ _ h => h) (Or.inl ⟨by rfl, fun w hSw => ?_⟩) (by assumption) ?_
  rotate_left
  · (have s1 := hSw; go_simp; try with_reducible rfl)
  try simp only [Act.put, List.setIfInBounds_toArray, List.set_cons_zero, List.set_cons_succ]
  refine Late.take (i := 10) (oi := ⟨some 25, Op.extract (Operand.tmp 23) 1, _, _, _, _⟩) (v := ?_) rfl (by kernel_rfl) (by kernel_rfl) (by kernel_rfl) (by kernel_rfl) (fun _ _ _ h => h) (Or.inl ⟨by rfl, fun w hSw => ?_⟩) (by assumption) ?_
  rotate_left
  · (have s1 := hSw; go_simp; try with_reducible rfl)
  try simp only [Act.put, List.setIfInBounds_toArray, List.set_cons_zero, List.set_cons_succ]
  refine Late.take (i := 11) (oi := ⟨some 2, Op.assign (Operand.tmp 24), _, _, _, _⟩) (v := ?_) rfl (by kernel_rfl) (by kernel_rfl) (by kernel_rfl) (by kernel_rfl) (fun _ _ _ h => h) (Or.inl ⟨by rfl, fun w hSw => ?_⟩) (by assumption) ?_
  rotate_left
  · (have s1 := hSw; go_simp; try with_reducible rfl)
  try simp only [Act.put, List.setIfInBounds_toArray, List.set_cons_zero, List.set_cons_succ]
  refine Late.take (i := 12) (oi := ⟨some 3, Op.assign (Operand.tmp 25), _, _, _, _⟩) (v := ?_) rfl (by kernel_rfl) (by kernel_rfl) (by kernel_rfl) (by kernel_rfl) (fun _ _ _ h => h) (Or.inl ⟨by rfl, fun w hSw => ?_⟩) (by assumption) ?_
  rotate_left
  · (have s1 := hSw; go_simp; try with_reducible rfl)
  try simp only [Act.put, List.setIfInBounds_toArray, List.set_cons_zero, List.set_cons_succ]
  refine Late.done (by kernel_rfl) ?_ _
  refine NoPanic.normal ?_
  have HU := Lib.hid hu
  have BZ8 := Lib.hid hz8
  have BZ := Lib.hid (B5.out.trans (hHeld.mono HNB.out))
  clear hHeld hu
  go_wp2
  go_ret2
  obtain ⟨D, c, e1, e2, e3⟩ := HU.out
  exact ⟨u, rfl, ⟨D, c, e1, own_base e2 BZ8.out, e3⟩, BZ.out⟩
set_option maxHeartbeats 8000000 in
theorem print_yes5 {w : World} {B : Nat} {x : MX} (h : MXOk w B x) (hB : B ≤ w.heap.size) (hm : mayM x.z = true) (hk : x.kind = 5) : Calls Try.prog 12 #[.agg (mc x).toArray] w (PrintsM w true (formM x.z)) := by
  obtain ⟨W1, hW1⟩ : ∃ W, W = w.alloc (.cells (mc x).toArray 28) := ⟨_, rfl⟩
  have b1 := Lib.hid (show Below w.heap.size w W1 by rw [hW1]; exact below_one _ _)
  obtain ⟨g, hg⟩ : ∃ g, w.heap.size = g := ⟨_, rfl⟩
  have Hg := Lib.hid hg
  have V1 := Lib.hid (show VBox W1 g 12 (mc x) by rw [hW1]; exact vbox_new _ _ _ _ _ hg rfl (by omega))
  have z1 := Lib.hid (show W1.heap.size = g + 1 by rw [hW1]; simp [hg])
  have HW1 := Lib.hid hW1
  clear hW1 hg
  have MM := Lib.hid (may_any true ((h.below b1.out hB).more (Nat.le_trans hB b1.out.size)) (Nat.le_refl _) hm)
  have ha := (mayM_parts hm).2.2
  have WK := Lib.hid (show WriteK 108 x B from writek_5 hk)
  have hkr := h.kind
  have HST : Hid (wPuts (wPut (some []) [x.kind]) (ownP x.z) = some (formM x.z)) := Lib.hid (by
    have hl := formM_short hm
    rw [show wPut (some []) [x.kind] = some [x.kind] from wPut_yes [] _ (by simp), wPuts_some _ _ (by rw [ownP_flat]; exact Nat.le_trans hl (by omega)), ownP_flat]
    rfl)
  have KO := Lib.hid (fun W => show Calls Try.prog 41 #[.int .u8 x.kind] W (fun e w' => e = .returned (.tuple #[.agg #[.func (.func 106) #[] #[], .func (.func 107) #[] #[], .func (.func 108) #[] #[], .func (.func 109) #[] #[]], .bool true]) ∧ Below W.heap.size W w') from by have := kindof_any x.kind W; rw [may_kind hm, hk] at this; rw [hk]; exact this)
  have hst := fun (f : Fn) (p : Addr) (W : World) => run_store Try.prog W p (.func f #[] #[]) .plain rfl
  have HH := Lib.hid h
  have HB0 := Lib.hid hB
  clear h hm ha hk hB
  go_enter Try.func12, Try.ntmps12
  go_upto_region 1 with fail
  rw [← HW1.out, Hg.out]
  go_upto_region 3 with (first
        | (with_reducible show wpList _ _ _ (⟨some 6, .load 28 (.tmp 1), _, _, _, _⟩ :: _) _ _; refine wpList_load_mid (op := ⟨some 6, .load 28 (.tmp 1), _, _, _, _⟩) rfl 28 (.tmp 1) rfl (g) (0) rfl (mc x) _ (V1.out.range) Try.underlying28 rfl (m_size _) ?_)
        | (go_at_call 13; refine MM.out.mono ?_; rintro e w2 ⟨rfl, hb⟩; have B2 := Lib.hid hb; clear hb))
  have V2 := Lib.hid (V1.out.grow B2.out)
  obtain ⟨q0, _⟩ := V2.out.m
  go_upto_region 4 with (go_at_call 41; refine (KO.out _).mono ?_; rintro e w4 ⟨rfl, hb⟩; have B4 := Lib.hid hb; have V4 := Lib.hid (V2.out.grow hb); clear hb)
  obtain ⟨w5, hw5⟩ : ∃ W, W = w4.alloc (.cells #[.func (.func 106) #[] #[], .func (.func 107) #[] #[], .func (.func 108) #[] #[], .func (.func 109) #[] #[]] 71) := ⟨_, rfl⟩
  have b5 := Lib.hid (show Below w4.heap.size w4 w5 by rw [hw5]; exact below_one _ _)
  have V5 := Lib.hid (show VBox w5 g 12 (mc x) by rw [hw5]; exact V4.out.grow (below_one _ _))
  have K5 := Lib.hid (show VBox w5 w4.heap.size 4 kc5 by rw [hw5]; exact vbox_new w4 kc5 _ _ 4 rfl rfl (by omega))
  obtain ⟨g5, hg5⟩ : ∃ b, w4.heap.size = b := ⟨_, rfl⟩
  have z5 : w5.heap.size = g5 + 1 := by rw [hw5, ← hg5]; simp
  have B5 := Lib.hid (b1.out.trans ((B2.out.trans ((B4.out.trans (b5.out.mono B4.out.size)).mono B2.out.size)).mono b1.out.size))
  rw [← hw5, hg5]
  rw [hg5] at K5
  obtain ⟨nb, hnb⟩ : ∃ b, w5.heap.size = b := ⟨_, rfl⟩
  have Z5 := Lib.hid hnb
  have HNB : Hid (w.heap.size ≤ nb) := Lib.hid (by rw [← hnb]; exact B5.out.size)
  have HBn : Hid (B ≤ nb) := Lib.hid (Nat.le_trans HB0.out HNB.out)
  have HC := Lib.hid (show ∀ W, Below nb w5 W → (_ ∧ (W.cell? ⟨g5, 2, none⟩ = some (.func (.func 108) #[] #[]))) from fun W hW => ⟨(V5.out.below hW (by rw [← hnb]; exact V5.out.lt)).m, (K5.out.below hW (by rw [← hnb]; exact K5.out.lt)).at1 (i := 2) rfl⟩)
  have HX := Lib.hid (show ∀ W, Below nb w5 W → MXOk W B x from fun W hW => HH.out.below (B5.out.trans (hW.mono HNB.out)) HB0.out)
  have P5 : Hid (Below nb w5 w5) := Lib.hid (Below.refl _ _)
  clear hnb hw5 hg5 z5 hst q0
  refine Late.region (fun w' => Below nb w5 w') [] (by kernel_rfl) P5.out.drew (fun hHeld => ?_)
  refine Late.take (i := 0) (oi := ⟨some 15, Op.fieldAddr 71 (Operand.tmp 4) 2, _, _, _, _⟩) (v := ?_) rfl (by kernel_rfl) (by kernel_rfl) (by kernel_rfl) (by kernel_rfl) (fun _ _ _ h => h) (Or.inl ⟨by rfl, fun w hSw => ?_⟩) (by assumption) ?_
  rotate_left
  · (have s1 := hSw; go_simp; try with_reducible rfl)
  try simp only [Act.put, List.setIfInBounds_toArray, List.set_cons_zero, List.set_cons_succ]
  refine Late.take (i := 1) (oi := ⟨some 16, Op.load 68 (Operand.tmp 15), _, _, _, _⟩) (v := ?_) rfl (by kernel_rfl) (by kernel_rfl) (by kernel_rfl) (by kernel_rfl) (fun _ _ _ h => h) (Or.inl ⟨by rfl, fun w hSw => ?_⟩) (by assumption) ?_
  rotate_left
  · (have s1 := hSw; obtain ⟨d0, d1, d2, d3, d4, d5, d6, d7, d8, d9, d10, d11⟩ := (HC.out _ hSw).1; have t2 := (HC.out _ hSw).2; go_simp; try with_reducible rfl)
  try simp only [Act.put, List.setIfInBounds_toArray, List.set_cons_zero, List.set_cons_succ]
  refine Late.take (i := 3) (oi := ⟨some 18, Op.fieldAddr 28 (Operand.tmp 1) 0, _, _, _, _⟩) (v := ?_) rfl (by kernel_rfl) (by kernel_rfl) (by kernel_rfl) (by kernel_rfl) (fun _ _ _ h => h) (Or.inl ⟨by rfl, fun w hSw => ?_⟩) (by assumption) ?_
  rotate_left
  · (have s1 := hSw; go_simp; try with_reducible rfl)
  try simp only [Act.put, List.setIfInBounds_toArray, List.set_cons_zero, List.set_cons_succ]
  refine Late.take (i := 4) (oi := ⟨some 19, Op.load 5 (Operand.tmp 18), _, _, _, _⟩) (v := ?_) rfl (by kernel_rfl) (by kernel_rfl) (by kernel_rfl) (by kernel_rfl) (fun _ _ _ h => h) (Or.inl ⟨by rfl, fun w hSw => ?_⟩) (by assumption) ?_
  rotate_left
  · (have s1 := hSw; obtain ⟨d0, d1, d2, d3, d4, d5, d6, d7, d8, d9, d10, d11⟩ := (HC.out _ hSw).1; have t2 := (HC.out _ hSw).2; go_simp; try with_reducible rfl)
  try simp only [Act.put, List.setIfInBounds_toArray, List.set_cons_zero, List.set_cons_succ]
  refine Late.take (i := 6) (oi := ⟨some 21, Op.load 28 (Operand.tmp 1), _, _, _, _⟩) (v := ?_) rfl (by kernel_rfl) (by kernel_rfl) (by kernel_rfl) (by kernel_rfl) (fun _ _ _ h => h) (Or.inl ⟨by rfl, fun w hSw => ?_⟩) (by assumption) ?_
  rotate_left
  · (have s1 := hSw; obtain ⟨d0, d1, d2, d3, d4, d5, d6, d7, d8, d9, d10, d11⟩ := (HC.out _ hSw).1; have t2 := (HC.out _ hSw).2; go_simp; try with_reducible rfl)
  try simp only [Act.put, List.setIfInBounds_toArray, List.set_cons_zero, List.set_cons_succ]
  refine Late.one (i := 2) (o := ⟨some 17, Op.call { callee := Callee.value (Operand.func 21), args := #[], argTypes := #[] }, _, _, _, _⟩) (by kernel_rfl) rfl (fun K hK => ?_)
  go_simp
  refine (newwriter_at w5.drew nb Z5.out).mono ?_
  rintro e w6 ⟨rfl, r0, b0, z0⟩
  have hb0 := hHeld.trans b0
  refine hK.out _ _ (hb0) (fun hHeld2 => ?_)
  clear hK K hHeld
  have hHeld := hHeld2
  clear hHeld2
  try simp only [Act.put, List.setIfInBounds_toArray, List.set_cons_zero, List.set_cons_succ]
  refine Late.one (i := 5) (o := ⟨some 20, Op.call { callee := Callee.value (Operand.func 42), args := #[Operand.tmp 17, Operand.tmp 19], argTypes := #[44, 5] }, _, _, _, _⟩) (by kernel_rfl) rfl (fun K hK => ?_)
  go_simp
  refine (byte_wr r0 x.kind hkr.1 hkr.2).mono ?_
  rintro e w7 ⟨rfl, g1, r1, o1, f1⟩
  have hb1 := hHeld.trans ((Wr.below r0 o1 (Nat.le_refl _)).mono (Nat.le_refl _))
  refine hK.out _ _ (hb1) (fun hHeld2 => ?_)
  clear hK K hHeld
  have hHeld := hHeld2
  clear hHeld2
  try simp only [Act.put, List.setIfInBounds_toArray, List.set_cons_zero, List.set_cons_succ]
  refine Late.one (i := 7) (o := ⟨some 22, Op.call { callee := Callee.value (Operand.tmp 16), args := #[Operand.tmp 20, Operand.tmp 21], argTypes := #[44, 28] }, _, _, _, _⟩) (by kernel_rfl) rfl (fun K hK => ?_)
  go_simp
  refine (WK.out _ _ _ _ r1 (HX.out _ hHeld) HBn.out).mono ?_
  rintro e w8 ⟨rfl, g2, r2, o2, f2⟩
  have hb2 := hHeld.trans ((Wr.below r1 o2 (Nat.le_refl _)).mono (Nat.le_refl _))
  refine hK.out _ _ (hb2) (fun hHeld2 => ?_)
  clear hK K hHeld
  have hHeld := hHeld2
  clear hHeld2
  try simp only [Act.put, List.setIfInBounds_toArray, List.set_cons_zero, List.set_cons_succ]
  refine Late.one (i := 8) (o := ⟨some 23, Op.call { callee := Callee.value (Operand.func 22), args := #[Operand.tmp 22], argTypes := #[44] }, _, _, _, _⟩) (by kernel_rfl) rfl (fun K hK => ?_)
  have r2b : Wr w8 nb g2 (some (formM x.z)) := by rw [← HST.out]; exact r2
  go_simp
  refine (done_ok r2b).mono ?_
  rintro e w9 ⟨u, rfl, hu, b9⟩
  have hz8 : w.heap.size ≤ w8.heap.size := by have := r2b.lt; have := HNB.out; omega
  have hb9 := hHeld.trans (b9.mono (by have := r2b.lt; omega))
  refine hK.out _ _ (hb9) (fun hHeld2 => ?_)
  clear hK K hHeld
  have hHeld := hHeld2
  clear hHeld2
  try simp only [Act.put, List.setIfInBounds_toArray, List.set_cons_zero, List.set_cons_succ]
  refine Late.take (i := 9) (oi := ⟨some 24, Op.extract (Operand.tmp 23) 0, _, _, _, _⟩) (v := ?_) rfl (by kernel_rfl) (by kernel_rfl) (by kernel_rfl) (by kernel_rfl) (fun _ _ _ h => h) (Or.inl ⟨by rfl, fun w hSw => ?_⟩) (by assumption) ?_
  rotate_left
  · (have s1 := hSw; go_simp; try with_reducible rfl)
  try simp only [Act.put, List.setIfInBounds_toArray, List.set_cons_zero, List.set_cons_succ]
  refine Late.take (i := 10) (oi := ⟨some 25, Op.extract (Operand.tmp 23) 1, _, _, _, _⟩) (v := ?_) rfl (by kernel_rfl) (by kernel_rfl) (by kernel_rfl) (by kernel_rfl) (fun _ _ _ h => h) (Or.inl ⟨by rfl, fun w hSw => ?_⟩) (by assumption) ?_
  rotate_left
  · (have s1 := hSw; go_simp; try with_reducible rfl)
  try simp only [Act.put, List.setIfInBounds_toArray, List.set_cons_zero, List.set_cons_succ]
  refine Late.take (i := 11) (oi := ⟨some 2, Op.assign (Operand.tmp 24), _, _, _, _⟩) (v := ?_) rfl (by kernel_rfl) (by kernel_rfl) (by kernel_rfl) (by kernel_rfl) (fun _ _ _ h => h) (Or.inl ⟨by rfl, fun w hSw => ?_⟩) (by assumption) ?_
  rotate_left
  · (have s1 := hSw; go_simp; try with_reducible rfl)
  try simp only [Act.put, List.setIfInBounds_toArray, List.set_cons_zero, List.set_cons_succ]
  refine Late.take (i := 12) (oi := ⟨some 3, Op.assign (Operand.tmp 25), _, _, _, _⟩) (v := ?_) rfl (by kernel_rfl) (by kernel_rfl) (by kernel_rfl) (by kernel_rfl) (fun _ _ _ h => h) (Or.inl ⟨by rfl, fun w hSw => ?_⟩) (by assumption) ?_
  rotate_left
  · (have s1 := hSw; go_simp; try with_reducible rfl)
  try simp only [Act.put, List.setIfInBounds_toArray, List.set_cons_zero, List.set_cons_succ]
  refine Late.done (by kernel_rfl) ?_ _
  refine NoPanic.normal ?_
  have HU := Lib.hid hu
  have BZ8 := Lib.hid hz8
  have BZ := Lib.hid (B5.out.trans (hHeld.mono HNB.out))
  clear hHeld hu
  go_wp2
  go_ret2
  obtain ⟨D, c, e1, e2, e3⟩ := HU.out
  exact ⟨u, rfl, ⟨D, c, e1, own_base e2 BZ8.out, e3⟩, BZ.out⟩
set_option maxHeartbeats 8000000 in
theorem print_yes6 {w : World} {B : Nat} {x : MX} (h : MXOk w B x) (hB : B ≤ w.heap.size) (hm : mayM x.z = true) (hk : x.kind = 6) : Calls Try.prog 12 #[.agg (mc x).toArray] w (PrintsM w true (formM x.z)) := by
  obtain ⟨W1, hW1⟩ : ∃ W, W = w.alloc (.cells (mc x).toArray 28) := ⟨_, rfl⟩
  have b1 := Lib.hid (show Below w.heap.size w W1 by rw [hW1]; exact below_one _ _)
  obtain ⟨g, hg⟩ : ∃ g, w.heap.size = g := ⟨_, rfl⟩
  have Hg := Lib.hid hg
  have V1 := Lib.hid (show VBox W1 g 12 (mc x) by rw [hW1]; exact vbox_new _ _ _ _ _ hg rfl (by omega))
  have z1 := Lib.hid (show W1.heap.size = g + 1 by rw [hW1]; simp [hg])
  have HW1 := Lib.hid hW1
  clear hW1 hg
  have MM := Lib.hid (may_any true ((h.below b1.out hB).more (Nat.le_trans hB b1.out.size)) (Nat.le_refl _) hm)
  have ha := (mayM_parts hm).2.2
  have WK := Lib.hid (show WriteK 92 x B from writek_1 (.inr hk) ha)
  have hkr := h.kind
  have HST : Hid (wPuts (wPut (some []) [x.kind]) (ownP x.z) = some (formM x.z)) := Lib.hid (by
    have hl := formM_short hm
    rw [show wPut (some []) [x.kind] = some [x.kind] from wPut_yes [] _ (by simp), wPuts_some _ _ (by rw [ownP_flat]; exact Nat.le_trans hl (by omega)), ownP_flat]
    rfl)
  have KO := Lib.hid (fun W => show Calls Try.prog 41 #[.int .u8 x.kind] W (fun e w' => e = .returned (.tuple #[.agg #[.func (.func 90) #[] #[], .func (.func 91) #[] #[], .func (.func 92) #[] #[], .func (.func 93) #[] #[]], .bool true]) ∧ Below W.heap.size W w') from by have := kindof_any x.kind W; rw [may_kind hm, hk] at this; rw [hk]; exact this)
  have hst := fun (f : Fn) (p : Addr) (W : World) => run_store Try.prog W p (.func f #[] #[]) .plain rfl
  have HH := Lib.hid h
  have HB0 := Lib.hid hB
  clear h hm ha hk hB
  go_enter Try.func12, Try.ntmps12
  go_upto_region 1 with fail
  rw [← HW1.out, Hg.out]
  go_upto_region 3 with (first
        | (with_reducible show wpList _ _ _ (⟨some 6, .load 28 (.tmp 1), _, _, _, _⟩ :: _) _ _; refine wpList_load_mid (op := ⟨some 6, .load 28 (.tmp 1), _, _, _, _⟩) rfl 28 (.tmp 1) rfl (g) (0) rfl (mc x) _ (V1.out.range) Try.underlying28 rfl (m_size _) ?_)
        | (go_at_call 13; refine MM.out.mono ?_; rintro e w2 ⟨rfl, hb⟩; have B2 := Lib.hid hb; clear hb))
  have V2 := Lib.hid (V1.out.grow B2.out)
  obtain ⟨q0, _⟩ := V2.out.m
  go_upto_region 4 with (go_at_call 41; refine (KO.out _).mono ?_; rintro e w4 ⟨rfl, hb⟩; have B4 := Lib.hid hb; have V4 := Lib.hid (V2.out.grow hb); clear hb)
  obtain ⟨w5, hw5⟩ : ∃ W, W = w4.alloc (.cells #[.func (.func 90) #[] #[], .func (.func 91) #[] #[], .func (.func 92) #[] #[], .func (.func 93) #[] #[]] 71) := ⟨_, rfl⟩
  have b5 := Lib.hid (show Below w4.heap.size w4 w5 by rw [hw5]; exact below_one _ _)
  have V5 := Lib.hid (show VBox w5 g 12 (mc x) by rw [hw5]; exact V4.out.grow (below_one _ _))
  have K5 := Lib.hid (show VBox w5 w4.heap.size 4 kc1 by rw [hw5]; exact vbox_new w4 kc1 _ _ 4 rfl rfl (by omega))
  obtain ⟨g5, hg5⟩ : ∃ b, w4.heap.size = b := ⟨_, rfl⟩
  have z5 : w5.heap.size = g5 + 1 := by rw [hw5, ← hg5]; simp
  have B5 := Lib.hid (b1.out.trans ((B2.out.trans ((B4.out.trans (b5.out.mono B4.out.size)).mono B2.out.size)).mono b1.out.size))
  rw [← hw5, hg5]
  rw [hg5] at K5
  obtain ⟨nb, hnb⟩ : ∃ b, w5.heap.size = b := ⟨_, rfl⟩
  have Z5 := Lib.hid hnb
  have HNB : Hid (w.heap.size ≤ nb) := Lib.hid (by rw [← hnb]; exact B5.out.size)
  have HBn : Hid (B ≤ nb) := Lib.hid (Nat.le_trans HB0.out HNB.out)
  have HC := Lib.hid (show ∀ W, Below nb w5 W → (_ ∧ (W.cell? ⟨g5, 2, none⟩ = some (.func (.func 92) #[] #[]))) from fun W hW => ⟨(V5.out.below hW (by rw [← hnb]; exact V5.out.lt)).m, (K5.out.below hW (by rw [← hnb]; exact K5.out.lt)).at1 (i := 2) rfl⟩)
  have HX := Lib.hid (show ∀ W, Below nb w5 W → MXOk W B x from fun W hW => HH.out.below (B5.out.trans (hW.mono HNB.out)) HB0.out)
  have P5 : Hid (Below nb w5 w5) := Lib.hid (Below.refl _ _)
  clear hnb hw5 hg5 z5 hst q0
  refine Late.region (fun w' => Below nb w5 w') [] (by kernel_rfl) P5.out.drew (fun hHeld => ?_)
  refine Late.take (i := 0) (oi := ⟨some 15, Op.fieldAddr 71 (Operand.tmp 4) 2, _, _, _, _⟩) (v := ?_) rfl (by kernel_rfl) (by kernel_rfl) (by kernel_rfl) (by kernel_rfl) (fun _ _ _ h => h) (Or.inl ⟨by rfl, fun w hSw => ?_⟩) (by assumption) ?_
  rotate_left
  · (have s1 := hSw; go_simp; try with_reducible rfl)
  try simp only [Act.put, List.setIfInBounds_toArray, List.set_cons_zero, List.set_cons_succ]
  refine Late.take (i := 1) (oi := ⟨some 16, Op.load 68 (Operand.tmp 15), _, _, _, _⟩) (v := ?_) rfl (by kernel_rfl) (by kernel_rfl) (by kernel_rfl) (by kernel_rfl) (fun _ _ _ h => h) (Or.inl ⟨by rfl, fun w hSw => ?_⟩) (by assumption) ?_
  rotate_left
  · (have s1 := hSw; obtain ⟨d0, d1, d2, d3, d4, d5, d6, d7, d8, d9, d10, d11⟩ := (HC.out _ hSw).1; have t2 := (HC.out _ hSw).2; go_simp; try with_reducible rfl)
  try simp only [Act.put, List.setIfInBounds_toArray, List.set_cons_zero, List.set_cons_succ]
  refine Late.take (i := 3) (oi := ⟨some 18, Op.fieldAddr 28 (Operand.tmp 1) 0, _, _, _, _⟩) (v := ?_) rfl (by kernel_rfl) (by kernel_rfl) (by kernel_rfl) (by kernel_rfl) (fun _ _ _ h => h) (Or.inl ⟨by rfl, fun w hSw => ?_⟩) (by assumption) ?_
  rotate_left
  · (have s1 := hSw; go_simp; try with_reducible rfl)
  try simp only [Act.put, List.setIfInBounds_toArray, List.set_cons_zero, List.set_cons_succ]
  refine Late.take (i := 4) (oi := ⟨some 19, Op.load 5 (Operand.tmp 18), _, _, _, _⟩) (v := ?_) rfl (by kernel_rfl) (by kernel_rfl) (by kernel_rfl) (by kernel_rfl) (fun _ _ _ h => h) (Or.inl ⟨by rfl, fun w hSw => ?_⟩) (by assumption) ?_
  rotate_left
  · (have s1 := hSw; obtain ⟨d0, d1, d2, d3, d4, d5, d6, d7, d8, d9, d10, d11⟩ := (HC.out _ hSw).1; have t2 := (HC.out _ hSw).2; go_simp; try with_reducible rfl)
  try simp only [Act.put, List.setIfInBounds_toArray, List.set_cons_zero, List.set_cons_succ]
  refine Late.take (i := 6) (oi := ⟨some 21, Op.load 28 (Operand.tmp 1), _, _, _, _⟩) (v := ?_) rfl (by kernel_rfl) (by kernel_rfl) (by kernel_rfl) (by kernel_rfl) (fun _ _ _ h => h) (Or.inl ⟨by rfl, fun w hSw => ?_⟩) (by assumption) ?_
  rotate_left
  · (have s1 := hSw; obtain ⟨d0, d1, d2, d3, d4, d5, d6, d7, d8, d9, d10, d11⟩ := (HC.out _ hSw).1; have t2 := (HC.out _ hSw).2; go_simp; try with_reducible rfl)
  try simp only [Act.put, List.setIfInBounds_toArray, List.set_cons_zero, List.set_cons_succ]
  refine Late.one (i := 2) (o := ⟨some 17, Op.call { callee := Callee.value (Operand.func 21), args := #[], argTypes := #[] }, _, _, _, _⟩) (by kernel_rfl) rfl (fun K hK => ?_)
  go_simp
  refine (newwriter_at w5.drew nb Z5.out).mono ?_
  rintro e w6 ⟨rfl, r0, b0, z0⟩
  have hb0 := hHeld.trans b0
  refine hK.out _ _ (hb0) (fun hHeld2 => ?_)
  clear hK K hHeld
  have hHeld := hHeld2
  clear hHeld2
  try simp only [Act.put, List.setIfInBounds_toArray, List.set_cons_zero, List.set_cons_succ]
  refine Late.one (i := 5) (o := ⟨some 20, Op.call { callee := Callee.value (Operand.func 42), args := #[Operand.tmp 17, Operand.tmp 19], argTypes := #[44, 5] }, _, _, _, _⟩) (by kernel_rfl) rfl (fun K hK => ?_)
  go_simp
  refine (byte_wr r0 x.kind hkr.1 hkr.2).mono ?_
  rintro e w7 ⟨rfl, g1, r1, o1, f1⟩
  have hb1 := hHeld.trans ((Wr.below r0 o1 (Nat.le_refl _)).mono (Nat.le_refl _))
  refine hK.out _ _ (hb1) (fun hHeld2 => ?_)
  clear hK K hHeld
  have hHeld := hHeld2
  clear hHeld2
  try simp only [Act.put, List.setIfInBounds_toArray, List.set_cons_zero, List.set_cons_succ]
  refine Late.one (i := 7) (o := ⟨some 22, Op.call { callee := Callee.value (Operand.tmp 16), args := #[Operand.tmp 20, Operand.tmp 21], argTypes := #[44, 28] }, _, _, _, _⟩) (by kernel_rfl) rfl (fun K hK => ?_)
  go_simp
  refine (WK.out _ _ _ _ r1 (HX.out _ hHeld) HBn.out).mono ?_
  rintro e w8 ⟨rfl, g2, r2, o2, f2⟩
  have hb2 := hHeld.trans ((Wr.below r1 o2 (Nat.le_refl _)).mono (Nat.le_refl _))
  refine hK.out _ _ (hb2) (fun hHeld2 => ?_)
  clear hK K hHeld
  have hHeld := hHeld2
  clear hHeld2
  try simp only [Act.put, List.setIfInBounds_toArray, List.set_cons_zero, List.set_cons_succ]
  refine Late.one (i := 8) (o := ⟨some 23, Op.call { callee := Callee.value (Operand.func 22), args := #[Operand.tmp 22], argTypes := #[44] }, _, _, _, _⟩) (by kernel_rfl) rfl (fun K hK => ?_)
  have r2b : Wr w8 nb g2 (some (formM x.z)) := by rw [← HST.out]; exact r2
  go_simp
  refine (done_ok r2b).mono ?_
  rintro e w9 ⟨u, rfl, hu, b9⟩
  have hz8 : w.heap.size ≤ w8.heap.size := by have := r2b.lt; have := HNB.out; omega
  have hb9 := hHeld.trans (b9.mono (by have := r2b.lt; omega))
  refine hK.out _ _ (hb9) (fun hHeld2 => ?_)
  clear hK K hHeld
  have hHeld := hHeld2
  clear hHeld2
  try simp only [Act.put, List.setIfInBounds_toArray, List.set_cons_zero, List.set_cons_succ]
  refine Late.take (i := 9) (oi := ⟨some 24, Op.extract (Operand.tmp 23) 0, _, _, _, _⟩) (v := ?_) rfl (by kernel_rfl) (by kernel_rfl) (by kernel_rfl) (by kernel_rfl) (fun _ _ _ h => h) (Or.inl ⟨by rfl, fun w hSw => ?_⟩) (by assumption) ?_
  rotate_left
  · (have s1 := hSw; go_simp; try with_reducible rfl)
  try simp only [Act.put, List.setIfInBounds_toArray, List.set_cons_zero, List.set_cons_succ]
  refine Late.take (i := 10) (oi := ⟨some 25, Op.extract (Operand.tmp 23) 1, _, _, _, _⟩) (v := ?_) rfl (by kernel_rfl) (by kernel_rfl) (by kernel_rfl) (by kernel_rfl) (fun _ _ _ h => h) (Or.inl ⟨by rfl, fun w hSw => ?_⟩) (by assumption) ?_
  rotate_left
  · (have s1 := hSw; go_simp; try with_reducible rfl)
  try simp only [Act.put, List.setIfInBounds_toArray, List.set_cons_zero, List.set_cons_succ]
  refine Late.take (i := 11) (oi := ⟨some 2, Op.assign (Operand.tmp 24), _, _, _, _⟩) (v := ?_) rfl (by kernel_rfl) (by kernel_rfl) (by kernel_rfl) (by kernel_rfl) (fun _ _ _ h => h) (Or.inl ⟨by rfl, fun w hSw => ?_⟩) (by assumption) ?_
  rotate_left
  · (have s1 := hSw; go_simp; try with_reducible rfl)
  try simp only [Act.put, List.setIfInBounds_toArray, List.set_cons_zero, List.set_cons_succ]
  refine Late.take (i := 12) (oi := ⟨some 3, Op.assign (Operand.tmp 25), _, _, _, _⟩) (v := ?_) rfl (by kernel_rfl) (by kernel_rfl) (by kernel_rfl) (by kernel_rfl) (fun _ _ _ h => h) (Or.inl ⟨by rfl, fun w hSw => ?_⟩) (by assumption) ?_
  rotate_left
  · (have s1 := hSw; go_simp; try with_reducible rfl)
  try simp only [Act.put, List.setIfInBounds_toArray, List.set_cons_zero, List.set_cons_succ]
  refine Late.done (by kernel_rfl) ?_ _
  refine NoPanic.normal ?_
  have HU := Lib.hid hu
  have BZ8 := Lib.hid hz8
  have BZ := Lib.hid (B5.out.trans (hHeld.mono HNB.out))
  clear hHeld hu
  go_wp2
  go_ret2
  obtain ⟨D, c, e1, e2, e3⟩ := HU.out
  exact ⟨u, rfl, ⟨D, c, e1, own_base e2 BZ8.out, e3⟩, BZ.out⟩
theorem print_anyM {w : World} {B : Nat} {x : MX} (h : MXOk w B x) (hB : B ≤ w.heap.size) : Calls Try.prog 12 #[.agg (mc x).toArray] w (PrintsM w (mayM x.z) (formM x.z)) := by
  cases hm : mayM x.z with
  | false => exact print_no h hB hm
  | true =>
    rcases kind_cases (may_kind hm) with hk | hk | hk | hk | hk | hk
    · exact print_yes1 h hB hm hk
    · exact print_yes2 h hB hm hk
    · exact print_yes3 h hB hm hk
    · exact print_yes4 h hB hm hk
    · exact print_yes5 h hB hm hk
    · exact print_yes6 h hB hm hk
end Go.Proofs.Ytfihiandifnkpaa
