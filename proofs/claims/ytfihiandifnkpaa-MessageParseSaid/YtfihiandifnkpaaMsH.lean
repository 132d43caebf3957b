/- What is written of entries, configurations, messages: the program's. Printed by gen_msh.py. -/
import Derived.Test.YtfihiandifnkpaaMsG
namespace Go.Proofs.Ytfihiandifnkpaa
open Go.ChangeShapes Go.WideShapes Go.ChangeAt Go.RowKit
set_option linter.unusedVariables false
set_option maxRecDepth 100000
set_option linter.unusedSimpArgs false
open Plain Sha Ms
namespace Ms
def wPuts (st : Option (List Int)) (l : List (List Int)) : Option (List Int) := l.foldl wPut st
def restP (e : EntZ) : List (List Int) := [n64 e.stamp, n64 e.client, n64 e.id, bytesF e.body]
def memP (m : MemZ) : List (List Int) := [n64 m.node, n64 m.since, [if m.whole then 1 else 0]]
def confP (ep : Int) (ms : List MemZ) : List (List Int) := [n64 ep, n64 (ms.length : Nat)] ++ ms.flatMap memP
def appP (upto frm : Int) (es : List EntZ) : List (List Int) := [n64 upto, n64 frm, n64 (es.length : Nat)] ++ es.flatMap restP
end Ms
theorem wPuts_app (st : Option (List Int)) (a c : List (List Int)) : wPuts st (a ++ c) = wPuts (wPuts st a) c := List.foldl_append ..
theorem wPuts_some : ∀ (l : List (List Int)) (fs : List Int), (fs ++ l.flatten).length ≤ 65536 → wPuts (some fs) l = some (fs ++ l.flatten)
  | [], fs, _ => by simp [wPuts]
  | a :: l, fs, h => by
    simp only [List.flatten_cons, List.length_append] at h
    show wPuts (wPut (some fs) a) l = _
    rw [wPut_yes fs a (by omega), wPuts_some l (fs ++ a) (by simp only [List.length_append]; omega), List.flatten_cons, List.append_assoc]
theorem restP_flat (e : EntZ) : (restP e).flatten = restF e := by simp [restP, restF]
theorem memP_flat (m : MemZ) : (memP m).flatten = memF m := by simp [memP, memF]
theorem flat_flat {α : Type} (f : α → List (List Int)) (g : α → List Int) (h : ∀ x, (f x).flatten = g x) : ∀ l : List α, (l.flatMap f).flatten = l.flatMap g
  | [] => rfl
  | a :: l => by rw [List.flatMap_cons, List.flatten_append, h, flat_flat f g h l, List.flatMap_cons]
theorem confP_flat (ep : Int) (ms : List MemZ) : (confP ep ms).flatten = confF ep ms := by
  unfold confP confF msF
  rw [List.flatten_append, flat_flat memP memF memP_flat]
  simp
theorem appP_flat (u f : Int) (es : List EntZ) : (appP u f es).flatten = n64 u ++ n64 f ++ n64 (es.length : Nat) ++ esF es := by
  unfold appP esF
  rw [List.flatten_append, flat_flat restP restF restP_flat]
  simp
theorem take_flat {α : Type} (f : α → List (List Int)) {l : List α} {k : Nat} {x : α} (h : l[k]? = some x) : (l.take (k + 1)).flatMap f = (l.take k).flatMap f ++ f x := by
  rw [List.take_add_one, h, List.flatMap_append]; simp
set_option maxHeartbeats 4000000 in
theorem putrest_any {w : World} {b : Nat} {g0 : Option Nat} {st : Option (List Int)} (r : Wr w b g0 st) {B : Nat} {x : EX} (h : EOk w B x) (hB : B ≤ b) (hn : x.n ≤ 140737488355328) : Calls Try.prog 58 #[.pointer (some ⟨b, 0, none⟩), .agg (ec x).toArray] w (Puts w b g0 (wPuts st (restP x.z))) := by
  have hBw : B ≤ w.heap.size := by have := r.lt; omega
  have HX := Lib.hid h
  clear h
  obtain ⟨W1, hW1⟩ : ∃ W, W = w.alloc (.cells (ec x).toArray 42) := ⟨_, rfl⟩
  have b1 := Lib.hid (show Below w.heap.size w W1 by rw [hW1]; exact below_one _ _)
  obtain ⟨g, hg⟩ : ∃ g, w.heap.size = g := ⟨_, rfl⟩
  have Hg := Lib.hid hg
  have V1 := Lib.hid (show VBox W1 g 5 (ec x) by rw [hW1]; exact vbox_new _ _ _ _ _ hg rfl (by omega))
  have z1 := Lib.hid (show W1.heap.size = g + 1 by rw [hW1]; simp [hg])
  have HW1 := Lib.hid hW1
  clear hW1 hg
  have RW := Lib.hid (show Wr W1 b g0 st by rw [HW1.out]; exact r.grown (grown_alloc w _ none) (by simp) (by simp))
  have NE := Lib.hid (show g ≠ b ∧ some g ≠ g0 from ⟨by have := r.lt; have := Hg.out; omega, fun e => by have := (r.own g e.symm).2; have := Hg.out; omega⟩)
  have GA : Hid (w.grownBy W1 none) := Lib.hid (by rw [HW1.out]; exact grown_alloc w _ none)
  have HT : Hid (∀ W, Wrote W1 W b g0 → Bs W B x.A x.n x.body ∧ B ≤ W.heap.size) := Lib.hid (fun W hW => ⟨Bs.wrote ((HX.out.body.belowM b1.out hBw)) hW (Wr.apart RW.out (HX.out.body.belowM b1.out hBw) hB) (Nat.le_trans hBw b1.out.size), Nat.le_trans hBw (Nat.le_trans b1.out.size hW.size)⟩)
  have HC := Lib.hid (show ∀ W, Wrote W1 W b g0 → _ from fun W hW => ((V1.out.same (hW.block g V1.out.lt NE.out.1 NE.out.2)).e))
  have HD0 := Lib.hid (show Wrote W1 W1.drew b g0 from Wrote.of_grown (grown_drewN W1 1 none) (.inl rfl))
  have hs := HX.out.stamp
  have hc := HX.out.client
  have hi := HX.out.id
  unfold InM at hs hc hi
  have F0 : Fresh W1 g0 g0 := .inl rfl
  go_enter Try.func58, Try.ntmps58
  go_upto_region 1 with fail
  rw [← HW1.out, Hg.out]
  refine Late.region (fun w' => Wrote W1 w' b g0) [] (by kernel_rfl) HD0.out (fun hHeld => ?_)
  refine Late.take (i := 0) (oi := ⟨some 5, Op.move (Operand.tmp 0), _, _, _, _⟩) (v := ?_) rfl (by kernel_rfl) (by kernel_rfl) (by kernel_rfl) (by kernel_rfl) (fun _ _ _ h => h) (Or.inl ⟨by rfl, fun w hSw => ?_⟩) (by assumption) ?_
  rotate_left
  · (have s1 := hSw; go_simp; try with_reducible rfl)
  try simp only [Act.put, List.setIfInBounds_toArray, List.set_cons_zero, List.set_cons_succ]
  refine Late.take (i := 1) (oi := ⟨some 6, Op.fieldAddr 42 (Operand.tmp 3) 1, _, _, _, _⟩) (v := ?_) rfl (by kernel_rfl) (by kernel_rfl) (by kernel_rfl) (by kernel_rfl) (fun _ _ _ h => h) (Or.inl ⟨by rfl, fun w hSw => ?_⟩) (by assumption) ?_
  rotate_left
  · (have s1 := hSw; go_simp; try with_reducible rfl)
  try simp only [Act.put, List.setIfInBounds_toArray, List.set_cons_zero, List.set_cons_succ]
  refine Late.take (i := 2) (oi := ⟨some 7, Op.load 3 (Operand.tmp 6), _, _, _, _⟩) (v := ?_) rfl (by kernel_rfl) (by kernel_rfl) (by kernel_rfl) (by kernel_rfl) (fun _ _ _ h => h) (Or.inl ⟨by rfl, fun w hSw => ?_⟩) (by assumption) ?_
  rotate_left
  · (have s1 := hSw; obtain ⟨d0, d1, d2, d3, d4⟩ := HC.out _ hSw; go_simp; try with_reducible rfl)
  try simp only [Act.put, List.setIfInBounds_toArray, List.set_cons_zero, List.set_cons_succ]
  refine Late.take (i := 4) (oi := ⟨some 9, Op.fieldAddr 42 (Operand.tmp 3) 2, _, _, _, _⟩) (v := ?_) rfl (by kernel_rfl) (by kernel_rfl) (by kernel_rfl) (by kernel_rfl) (fun _ _ _ h => h) (Or.inl ⟨by rfl, fun w hSw => ?_⟩) (by assumption) ?_
  rotate_left
  · (have s1 := hSw; go_simp; try with_reducible rfl)
  try simp only [Act.put, List.setIfInBounds_toArray, List.set_cons_zero, List.set_cons_succ]
  refine Late.take (i := 5) (oi := ⟨some 10, Op.load 3 (Operand.tmp 9), _, _, _, _⟩) (v := ?_) rfl (by kernel_rfl) (by kernel_rfl) (by kernel_rfl) (by kernel_rfl) (fun _ _ _ h => h) (Or.inl ⟨by rfl, fun w hSw => ?_⟩) (by assumption) ?_
  rotate_left
  · (have s1 := hSw; obtain ⟨d0, d1, d2, d3, d4⟩ := HC.out _ hSw; go_simp; try with_reducible rfl)
  try simp only [Act.put, List.setIfInBounds_toArray, List.set_cons_zero, List.set_cons_succ]
  refine Late.take (i := 7) (oi := ⟨some 12, Op.fieldAddr 42 (Operand.tmp 3) 3, _, _, _, _⟩) (v := ?_) rfl (by kernel_rfl) (by kernel_rfl) (by kernel_rfl) (by kernel_rfl) (fun _ _ _ h => h) (Or.inl ⟨by rfl, fun w hSw => ?_⟩) (by assumption) ?_
  rotate_left
  · (have s1 := hSw; go_simp; try with_reducible rfl)
  try simp only [Act.put, List.setIfInBounds_toArray, List.set_cons_zero, List.set_cons_succ]
  refine Late.take (i := 8) (oi := ⟨some 13, Op.load 3 (Operand.tmp 12), _, _, _, _⟩) (v := ?_) rfl (by kernel_rfl) (by kernel_rfl) (by kernel_rfl) (by kernel_rfl) (fun _ _ _ h => h) (Or.inl ⟨by rfl, fun w hSw => ?_⟩) (by assumption) ?_
  rotate_left
  · (have s1 := hSw; obtain ⟨d0, d1, d2, d3, d4⟩ := HC.out _ hSw; go_simp; try with_reducible rfl)
  try simp only [Act.put, List.setIfInBounds_toArray, List.set_cons_zero, List.set_cons_succ]
  refine Late.take (i := 10) (oi := ⟨some 15, Op.fieldAddr 42 (Operand.tmp 3) 4, _, _, _, _⟩) (v := ?_) rfl (by kernel_rfl) (by kernel_rfl) (by kernel_rfl) (by kernel_rfl) (fun _ _ _ h => h) (Or.inl ⟨by rfl, fun w hSw => ?_⟩) (by assumption) ?_
  rotate_left
  · (have s1 := hSw; go_simp; try with_reducible rfl)
  try simp only [Act.put, List.setIfInBounds_toArray, List.set_cons_zero, List.set_cons_succ]
  refine Late.take (i := 11) (oi := ⟨some 16, Op.load 22 (Operand.tmp 15), _, _, _, _⟩) (v := ?_) rfl (by kernel_rfl) (by kernel_rfl) (by kernel_rfl) (by kernel_rfl) (fun _ _ _ h => h) (Or.inl ⟨by rfl, fun w hSw => ?_⟩) (by assumption) ?_
  rotate_left
  · (have s1 := hSw; obtain ⟨d0, d1, d2, d3, d4⟩ := HC.out _ hSw; go_simp; try with_reducible rfl)
  try simp only [Act.put, List.setIfInBounds_toArray, List.set_cons_zero, List.set_cons_succ]
  refine Late.one (i := 3) (o := ⟨some 8, Op.call { callee := Callee.value (Operand.func 59), args := #[Operand.tmp 5, Operand.tmp 7], argTypes := #[44, 3] }, _, _, _, _⟩) (by kernel_rfl) rfl (fun K hK => ?_)
  go_simp
  refine (int_wr RW.out.drew x.stamp hs.1 hs.2).mono ?_
  rintro e w3 ⟨rfl, g1, r1, o1, f1⟩
  have F1 := Fresh.trans F0 f1 hHeld.size
  have hb1 := Wrote.trans hHeld o1 F0
  refine hK.out _ _ (hb1) (fun hHeld2 => ?_)
  clear hK K hHeld
  have hHeld := hHeld2
  clear hHeld2
  try simp only [Act.put, List.setIfInBounds_toArray, List.set_cons_zero, List.set_cons_succ]
  refine Late.one (i := 6) (o := ⟨some 11, Op.call { callee := Callee.value (Operand.func 59), args := #[Operand.tmp 8, Operand.tmp 10], argTypes := #[44, 3] }, _, _, _, _⟩) (by kernel_rfl) rfl (fun K hK => ?_)
  go_simp
  refine (int_wr r1 x.client hc.1 hc.2).mono ?_
  rintro e w4 ⟨rfl, g2, r2, o2, f2⟩
  have F2 := Fresh.trans F1 f2 hHeld.size
  have hb2 := Wrote.trans hHeld o2 F1
  refine hK.out _ _ (hb2) (fun hHeld2 => ?_)
  clear hK K hHeld
  have hHeld := hHeld2
  clear hHeld2
  try simp only [Act.put, List.setIfInBounds_toArray, List.set_cons_zero, List.set_cons_succ]
  refine Late.one (i := 9) (o := ⟨some 14, Op.call { callee := Callee.value (Operand.func 59), args := #[Operand.tmp 11, Operand.tmp 13], argTypes := #[44, 3] }, _, _, _, _⟩) (by kernel_rfl) rfl (fun K hK => ?_)
  go_simp
  refine (int_wr r2 x.id hi.1 hi.2).mono ?_
  rintro e w5 ⟨rfl, g3, r3, o3, f3⟩
  have F3 := Fresh.trans F2 f3 hHeld.size
  have hb3 := Wrote.trans hHeld o3 F2
  refine hK.out _ _ (hb3) (fun hHeld2 => ?_)
  clear hK K hHeld
  have hHeld := hHeld2
  clear hHeld2
  try simp only [Act.put, List.setIfInBounds_toArray, List.set_cons_zero, List.set_cons_succ]
  refine Late.one (i := 12) (o := ⟨some 17, Op.call { callee := Callee.value (Operand.func 81), args := #[Operand.tmp 14, Operand.tmp 16], argTypes := #[44, 22] }, _, _, _, _⟩) (by kernel_rfl) rfl (fun K hK => ?_)
  go_simp
  refine (bytes_wr r3 x.c (HT.out _ hHeld).1 (HT.out _ hHeld).2 hn (Wr.apart r3 (HT.out _ hHeld).1 hB)).mono ?_
  rintro e w6 ⟨rfl, g4, r4, o4, f4⟩
  have F4 := Fresh.trans F3 f4 hHeld.size
  have hb4 := Wrote.trans hHeld o4 F3
  refine hK.out _ _ (hb4) (fun hHeld2 => ?_)
  clear hK K hHeld
  have hHeld := hHeld2
  clear hHeld2
  try simp only [Act.put, List.setIfInBounds_toArray, List.set_cons_zero, List.set_cons_succ]
  refine Late.take (i := 13) (oi := ⟨some 4, Op.assign (Operand.tmp 17), _, _, _, _⟩) (v := ?_) rfl (by kernel_rfl) (by kernel_rfl) (by kernel_rfl) (by kernel_rfl) (fun _ _ _ h => h) (Or.inl ⟨by rfl, fun w hSw => ?_⟩) (by assumption) ?_
  rotate_left
  · (have s1 := hSw; go_simp; try with_reducible rfl)
  try simp only [Act.put, List.setIfInBounds_toArray, List.set_cons_zero, List.set_cons_succ]
  refine Late.done (by kernel_rfl) ?_ _
  refine NoPanic.normal ?_
  go_wp2
  go_ret
  exact Puts.from GA.out ⟨rfl, g4, r4, hHeld, F4⟩
set_option maxHeartbeats 4000000 in
theorem putentry_any {w : World} {b : Nat} {g0 : Option Nat} {st : Option (List Int)} (r : Wr w b g0 st) {B : Nat} {x : EX} (h : EOk w B x) (hB : B ≤ b) (hn : x.n ≤ 140737488355328) : Calls Try.prog 20 #[.pointer (some ⟨b, 0, none⟩), .agg (ec x).toArray] w (Puts w b g0 (wPuts st (n64 x.pos :: restP x.z))) := by
  have hBw : B ≤ w.heap.size := by have := r.lt; omega
  have HX := Lib.hid h
  clear h
  obtain ⟨W1, hW1⟩ : ∃ W, W = w.alloc (.cells (ec x).toArray 42) := ⟨_, rfl⟩
  have b1 := Lib.hid (show Below w.heap.size w W1 by rw [hW1]; exact below_one _ _)
  obtain ⟨g, hg⟩ : ∃ g, w.heap.size = g := ⟨_, rfl⟩
  have Hg := Lib.hid hg
  have V1 := Lib.hid (show VBox W1 g 5 (ec x) by rw [hW1]; exact vbox_new _ _ _ _ _ hg rfl (by omega))
  have z1 := Lib.hid (show W1.heap.size = g + 1 by rw [hW1]; simp [hg])
  have HW1 := Lib.hid hW1
  clear hW1 hg
  have RW := Lib.hid (show Wr W1 b g0 st by rw [HW1.out]; exact r.grown (grown_alloc w _ none) (by simp) (by simp))
  have NE := Lib.hid (show g ≠ b ∧ some g ≠ g0 from ⟨by have := r.lt; have := Hg.out; omega, fun e => by have := (r.own g e.symm).2; have := Hg.out; omega⟩)
  have GA : Hid (w.grownBy W1 none) := Lib.hid (by rw [HW1.out]; exact grown_alloc w _ none)
  have HT : Hid (∀ W, Wrote W1 W b g0 → Bs W B x.A x.n x.body ∧ B ≤ W.heap.size) := Lib.hid (fun W hW => ⟨Bs.wrote ((HX.out.body.belowM b1.out hBw)) hW (Wr.apart RW.out (HX.out.body.belowM b1.out hBw) hB) (Nat.le_trans hBw b1.out.size), Nat.le_trans hBw (Nat.le_trans b1.out.size hW.size)⟩)
  have HE : Hid (∀ W, Wrote W1 W b g0 → EOk W B x) := Lib.hid (fun W hW => ⟨HX.out.pos, HX.out.stamp, HX.out.client, HX.out.id, HX.out.cap, HX.out.max, (HT.out W hW).1⟩)
  have hp := HX.out.pos
  unfold InM at hp
  have HC := Lib.hid (show ∀ W, Wrote W1 W b g0 → _ from fun W hW => ((V1.out.same (hW.block g V1.out.lt NE.out.1 NE.out.2)).e))
  have HD0 := Lib.hid (show Wrote W1 W1.drew b g0 from Wrote.of_grown (grown_drewN W1 1 none) (.inl rfl))
  have F0 : Fresh W1 g0 g0 := .inl rfl
  go_enter Try.func20, Try.ntmps20
  go_upto_region 1 with fail
  rw [← HW1.out, Hg.out]
  refine Late.region (fun w' => Wrote W1 w' b g0) [] (by kernel_rfl) HD0.out (fun hHeld => ?_)
  refine Late.take (i := 0) (oi := ⟨some 5, Op.move (Operand.tmp 0), _, _, _, _⟩) (v := ?_) rfl (by kernel_rfl) (by kernel_rfl) (by kernel_rfl) (by kernel_rfl) (fun _ _ _ h => h) (Or.inl ⟨by rfl, fun w hSw => ?_⟩) (by assumption) ?_
  rotate_left
  · (have s1 := hSw; go_simp; try with_reducible rfl)
  try simp only [Act.put, List.setIfInBounds_toArray, List.set_cons_zero, List.set_cons_succ]
  refine Late.take (i := 1) (oi := ⟨some 6, Op.fieldAddr 42 (Operand.tmp 3) 0, _, _, _, _⟩) (v := ?_) rfl (by kernel_rfl) (by kernel_rfl) (by kernel_rfl) (by kernel_rfl) (fun _ _ _ h => h) (Or.inl ⟨by rfl, fun w hSw => ?_⟩) (by assumption) ?_
  rotate_left
  · (have s1 := hSw; go_simp; try with_reducible rfl)
  try simp only [Act.put, List.setIfInBounds_toArray, List.set_cons_zero, List.set_cons_succ]
  refine Late.take (i := 2) (oi := ⟨some 7, Op.load 3 (Operand.tmp 6), _, _, _, _⟩) (v := ?_) rfl (by kernel_rfl) (by kernel_rfl) (by kernel_rfl) (by kernel_rfl) (fun _ _ _ h => h) (Or.inl ⟨by rfl, fun w hSw => ?_⟩) (by assumption) ?_
  rotate_left
  · (have s1 := hSw; obtain ⟨d0, d1, d2, d3, d4⟩ := HC.out _ hSw; go_simp; try with_reducible rfl)
  try simp only [Act.put, List.setIfInBounds_toArray, List.set_cons_zero, List.set_cons_succ]
  refine Late.take (i := 4) (oi := ⟨some 9, Op.load 42 (Operand.tmp 3), _, _, _, _⟩) (v := ?_) rfl (by kernel_rfl) (by kernel_rfl) (by kernel_rfl) (by kernel_rfl) (fun _ _ _ h => h) (Or.inl ⟨by rfl, fun w hSw => ?_⟩) (by assumption) ?_
  rotate_left
  · (have s1 := hSw; obtain ⟨d0, d1, d2, d3, d4⟩ := HC.out _ hSw; go_simp; try with_reducible rfl)
  try simp only [Act.put, List.setIfInBounds_toArray, List.set_cons_zero, List.set_cons_succ]
  refine Late.one (i := 3) (o := ⟨some 8, Op.call { callee := Callee.value (Operand.func 59), args := #[Operand.tmp 5, Operand.tmp 7], argTypes := #[44, 3] }, _, _, _, _⟩) (by kernel_rfl) rfl (fun K hK => ?_)
  go_simp
  refine (int_wr RW.out.drew x.pos hp.1 hp.2).mono ?_
  rintro e w3 ⟨rfl, g1, r1, o1, f1⟩
  have F1 := Fresh.trans F0 f1 hHeld.size
  have hb1 := Wrote.trans hHeld o1 F0
  refine hK.out _ _ (hb1) (fun hHeld2 => ?_)
  clear hK K hHeld
  have hHeld := hHeld2
  clear hHeld2
  try simp only [Act.put, List.setIfInBounds_toArray, List.set_cons_zero, List.set_cons_succ]
  refine Late.one (i := 5) (o := ⟨some 10, Op.call { callee := Callee.value (Operand.func 58), args := #[Operand.tmp 8, Operand.tmp 9], argTypes := #[44, 42] }, _, _, _, _⟩) (by kernel_rfl) rfl (fun K hK => ?_)
  go_simp
  refine (putrest_any r1 (HE.out _ hHeld) hB hn).mono ?_
  rintro e w4 ⟨rfl, g2, r2, o2, f2⟩
  have F2 := Fresh.trans F1 f2 hHeld.size
  have hb2 := Wrote.trans hHeld o2 F1
  refine hK.out _ _ (hb2) (fun hHeld2 => ?_)
  clear hK K hHeld
  have hHeld := hHeld2
  clear hHeld2
  try simp only [Act.put, List.setIfInBounds_toArray, List.set_cons_zero, List.set_cons_succ]
  refine Late.take (i := 6) (oi := ⟨some 4, Op.assign (Operand.tmp 10), _, _, _, _⟩) (v := ?_) rfl (by kernel_rfl) (by kernel_rfl) (by kernel_rfl) (by kernel_rfl) (fun _ _ _ h => h) (Or.inl ⟨by rfl, fun w hSw => ?_⟩) (by assumption) ?_
  rotate_left
  · (have s1 := hSw; go_simp; try with_reducible rfl)
  try simp only [Act.put, List.setIfInBounds_toArray, List.set_cons_zero, List.set_cons_succ]
  refine Late.done (by kernel_rfl) ?_ _
  refine NoPanic.normal ?_
  go_wp2
  go_ret
  exact Puts.from GA.out ⟨rfl, g2, r2, hHeld, F2⟩
end Go.Proofs.Ytfihiandifnkpaa
