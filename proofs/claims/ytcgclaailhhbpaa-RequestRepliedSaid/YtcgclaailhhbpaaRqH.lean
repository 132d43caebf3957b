/- A request's form: the program's. -/
import Derived.Test.YtcgclaailhhbpaaRqW
import Derived.Test.YtcgclaailhhbpaaRqD
import Derived.Test.YtcgclaailhhbpaaB4
namespace Go.Proofs.Ytcgclaailhhbpaa
open Go.ChangeShapes Go.WideShapes Go.ChangeAt Go.RowKit
set_option linter.unusedVariables false
set_option maxRecDepth 100000
set_option linter.unusedSimpArgs false
open Plain Sha Au Rp Rq
/-- What Print tells: a form, or an error. -/
def Prints (w : World) (b : Bool) (zs : List Int) (e : Ending) (w' : World) : Prop := ∃ u, e = .returned (.tuple #[u, .int .i64 (if b then 0 else 2)]) ∧ IsList u w' w.heap.size (if b then zs else []) ∧ Below w.heap.size w w'
set_option maxHeartbeats 4000000 in
theorem print_any {w : World} {B : Nat} {x : QX} (h : QOk w B x) (hB : B ≤ w.heap.size) (hM : x.tl ≤ 140737488355328) : Calls Try.prog 14 #[.agg (qc x).toArray] w (Prints w (mayB x.z) (reqF x.z)) := by
  obtain ⟨q, hq⟩ : ∃ q, mayB x.z = q := ⟨_, rfl⟩
  rw [hq]
  have MM := Lib.hid (fun w => may_any (w := w) q h.tok.len hq)
  obtain ⟨W1, hW1⟩ : ∃ W, W = w.alloc (.cells (qc x).toArray 26) := ⟨_, rfl⟩
  have b1 := Lib.hid (show Below w.heap.size w W1 by rw [hW1]; exact below_one _ _)
  obtain ⟨g, hg⟩ : ∃ g, w.heap.size = g := ⟨_, rfl⟩
  have HG := Lib.hid hg
  have V1 := Lib.hid (show VBox W1 g 12 (qc x) by rw [hW1]; exact vbox_new _ _ _ _ _ hg (qc_len x) (by omega))
  have z1 := Lib.hid (show W1.heap.size = g + 1 by rw [hW1]; simp [hg])
  have HW1 := Lib.hid hW1
  have HH := Lib.hid h
  have HQ := Lib.hid hq
  have HB1 : Hid (B ≤ g) := Lib.hid (by rw [← hg]; exact hB)
  clear hW1 hg h hq hB
  cases q with
  | false =>
    go_enter Try.func14, Try.ntmps14
    go_upto_region 1 with fail
    rw [← HW1.out, HG.out]
    go_wp2_with (first
          | (show wpList _ _ _ (⟨some 5, .load 26 (.tmp 1), _, _, _, _⟩ :: _) _ _; refine wpList_load_mid (op := ⟨some 5, .load 26 (.tmp 1), _, _, _, _⟩) rfl 26 (.tmp 1) rfl (g) 0 rfl (qc x) _ (V1.out.range) Try.underlying26 rfl (q_size x) ?_)
          | (go_at_call 15; refine (MM.out _).mono ?_; rintro e w2 ⟨rfl, hb⟩; have B2 := Lib.hid hb; clear hb))
    go_ret2
    exact ⟨.slice none 0 0, rfl, isList_nil _ _, b1.out.trans (B2.out.mono b1.out.size)⟩
  | true =>
    obtain ⟨hs1, hs2, hs3, hs4⟩ := may_short HQ.out
    have htl : x.tl ≤ 140737488355328 := hM
    have hk1 : x.key.size ≤ 140737488355328 := by have : x.key.size ≤ 24 := hs2; omega
    have hk2 : x.val.size ≤ 140737488355328 := by have : x.val.size ≤ 64 := hs3; omega
    have hk3 : x.old.size ≤ 140737488355328 := by have : x.old.size ≤ 64 := hs4; omega
    have hop := HH.out.op
    have hrt := HH.out.rt
    have hn := HH.out.n
    have htn := HH.out.tn
    have hks := HH.out.ks
    have hsp := HH.out.sp
    have hex := HH.out.ex
    have hsr := HH.out.sr
    unfold InA at hn htn hks hsp hex hsr
    have HST := Lib.hid (st_req x.z (Nat.le_trans (reqF_short HQ.out) (by omega)))
    clear hs1 hs2 hs3 hs4 hM
    go_enter Try.func14, Try.ntmps14
    go_upto_region 1 with fail
    rw [← HW1.out, HG.out]
    go_upto_region 3 with (first
          | (show wpList _ _ _ (⟨some 5, .load 26 (.tmp 1), _, _, _, _⟩ :: _) _ _; refine wpList_load_mid (op := ⟨some 5, .load 26 (.tmp 1), _, _, _, _⟩) rfl 26 (.tmp 1) rfl (g) 0 rfl (qc x) _ (V1.out.range) Try.underlying26 rfl (q_size x) ?_)
          | (go_at_call 15; refine (MM.out _).mono ?_; rintro e w2 ⟨rfl, hb⟩; have B2 := Lib.hid hb; clear hb))
    obtain ⟨nb, hnb⟩ : ∃ nb, w2.heap.size = nb := ⟨_, rfl⟩
    have Z2 := Lib.hid hnb
    have hgn : Hid (g < nb) := Lib.hid (by rw [← hnb]; have := B2.out.size; have := z1.out; omega)
    have BA := Lib.hid (b1.out.trans (B2.out.mono b1.out.size))
    have V2 := Lib.hid (V1.out.below B2.out (by rw [z1.out]; omega))
    have HC := Lib.hid (show ∀ W, Below nb w2 W → W.cell? ⟨g, 0, none⟩ = some (.int .u8 x.op) ∧ W.cell? ⟨g, 1, none⟩ = some (.slice x.A x.tl x.tc) ∧ W.cell? ⟨g, 2, none⟩ = some (.string x.key) ∧ W.cell? ⟨g, 3, none⟩ = some (.string x.val) ∧ W.cell? ⟨g, 4, none⟩ = some (.string x.old) ∧ W.cell? ⟨g, 5, none⟩ = some (.int .i64 x.n) ∧ W.cell? ⟨g, 6, none⟩ = some (.int .i64 x.tn) ∧ W.cell? ⟨g, 7, none⟩ = some (.int .i64 x.ks) ∧ W.cell? ⟨g, 8, none⟩ = some (.int .i64 x.sp) ∧ W.cell? ⟨g, 9, none⟩ = some (.int .u8 x.rt) ∧ W.cell? ⟨g, 10, none⟩ = some (.int .i64 x.ex) ∧ W.cell? ⟨g, 11, none⟩ = some (.int .i64 x.sr) from fun W hW => by
      have := rng_q (V2.out.below hW hgn.out).range
      simpa only [Nat.zero_add] using this)
    have HB : Hid (B ≤ nb) := Lib.hid (by have := HB1.out; have := hgn.out; omega)
    have HT : Hid (∀ W, Below nb w2 W → Bs W B x.A x.tl x.tok) := Lib.hid (fun W hW => (HH.out.tok.belowM (BA.out.trans (hW.mono (by rw [HG.out]; have := hgn.out; omega))) (by rw [HG.out]; exact HB1.out)))
    have HT2 : Hid (∀ W, Below nb w2 W → B ≤ W.heap.size) := Lib.hid (fun W hW => by have := hW.size; have := HB.out; have := Z2.out; omega)
    have P2 : Hid (Below nb w2 w2) := Lib.hid (Below.refl _ _)
    clear hnb
    refine Late.region (fun w' => Below nb w2 w') [] (by kernel_rfl) P2.out.drew (fun hHeld => ?_)
    refine Late.take (i := 1) (oi := ⟨some 9, Op.fieldAddr 26 (Operand.tmp 1) 0, _, _, _, _⟩) (v := ?_) rfl (by kernel_rfl) (by kernel_rfl) (by kernel_rfl) (by kernel_rfl) (fun _ _ _ h => h) (Or.inl ⟨by rfl, fun w hSw => ?_⟩) (by assumption) ?_
    rotate_left
    · (have s1 := hSw; go_simp; try with_reducible rfl)
    try simp only [Act.put, List.setIfInBounds_toArray, List.set_cons_zero, List.set_cons_succ]
    refine Late.take (i := 2) (oi := ⟨some 10, Op.load 5 (Operand.tmp 9), _, _, _, _⟩) (v := ?_) rfl (by kernel_rfl) (by kernel_rfl) (by kernel_rfl) (by kernel_rfl) (fun _ _ _ h => h) (Or.inl ⟨by rfl, fun w hSw => ?_⟩) (by assumption) ?_
    rotate_left
    · (have s1 := hSw; obtain ⟨d0, d1, d2, d3, d4, d5, d6, d7, d8, d9, d10, d11⟩ := HC.out _ hSw; go_simp; try with_reducible rfl)
    try simp only [Act.put, List.setIfInBounds_toArray, List.set_cons_zero, List.set_cons_succ]
    refine Late.take (i := 4) (oi := ⟨some 12, Op.fieldAddr 26 (Operand.tmp 1) 1, _, _, _, _⟩) (v := ?_) rfl (by kernel_rfl) (by kernel_rfl) (by kernel_rfl) (by kernel_rfl) (fun _ _ _ h => h) (Or.inl ⟨by rfl, fun w hSw => ?_⟩) (by assumption) ?_
    rotate_left
    · (have s1 := hSw; go_simp; try with_reducible rfl)
    try simp only [Act.put, List.setIfInBounds_toArray, List.set_cons_zero, List.set_cons_succ]
    refine Late.take (i := 5) (oi := ⟨some 13, Op.load 22 (Operand.tmp 12), _, _, _, _⟩) (v := ?_) rfl (by kernel_rfl) (by kernel_rfl) (by kernel_rfl) (by kernel_rfl) (fun _ _ _ h => h) (Or.inl ⟨by rfl, fun w hSw => ?_⟩) (by assumption) ?_
    rotate_left
    · (have s1 := hSw; obtain ⟨d0, d1, d2, d3, d4, d5, d6, d7, d8, d9, d10, d11⟩ := HC.out _ hSw; go_simp; try with_reducible rfl)
    try simp only [Act.put, List.setIfInBounds_toArray, List.set_cons_zero, List.set_cons_succ]
    refine Late.one (i := 0) (o := ⟨some 8, Op.call { callee := Callee.value (Operand.func 33), args := #[], argTypes := #[] }, _, _, _, _⟩) (by kernel_rfl) rfl (fun K hK => ?_)
    go_simp
    refine (newwriter_at w2.drew nb Z2.out).mono ?_
    rintro e w3 ⟨rfl, r0, b0, z0⟩
    have hb0 := hHeld.trans b0
    refine hK.out _ _ (hb0) (fun hHeld2 => ?_)
    clear hK K hHeld
    have hHeld := hHeld2
    clear hHeld2
    try simp only [Act.put, List.setIfInBounds_toArray, List.set_cons_zero, List.set_cons_succ]
    refine Late.one (i := 3) (o := ⟨some 11, Op.call { callee := Callee.value (Operand.func 34), args := #[Operand.tmp 8, Operand.tmp 10], argTypes := #[65, 5] }, _, _, _, _⟩) (by kernel_rfl) rfl (fun K hK => ?_)
    go_simp
    refine (byte_wr r0 x.op hop.1 hop.2).mono ?_
    rintro e w4 ⟨rfl, g1, r1, o1, f1⟩
    have hb1 := hHeld.trans ((Wr.below r0 o1 (Nat.le_refl _)).mono (Nat.le_refl _))
    refine hK.out _ _ (hb1) (fun hHeld2 => ?_)
    clear hK K hHeld
    have hHeld := hHeld2
    clear hHeld2
    try simp only [Act.put, List.setIfInBounds_toArray, List.set_cons_zero, List.set_cons_succ]
    refine Late.one (i := 6) (o := ⟨some 14, Op.call { callee := Callee.value (Operand.func 35), args := #[Operand.tmp 11, Operand.tmp 13], argTypes := #[65, 22] }, _, _, _, _⟩) (by kernel_rfl) rfl (fun K hK => ?_)
    go_simp
    refine (bytes_wr r1 x.tc (HT.out _ hHeld) (HT2.out _ hHeld) htl (Wr.apart r1 (HT.out _ hHeld) HB.out)).mono ?_
    rintro e w5 ⟨rfl, g2, r2, o2, f2⟩
    have hb2 := hHeld.trans ((Wr.below r1 o2 (Nat.le_refl _)).mono (Nat.le_refl _))
    refine hK.out _ _ (hb2) (fun hHeld2 => ?_)
    clear hK K hHeld
    have hHeld := hHeld2
    clear hHeld2
    try simp only [Act.put, List.setIfInBounds_toArray, List.set_cons_zero, List.set_cons_succ]
    refine Late.take (i := 7) (oi := ⟨some 4, Op.assign (Operand.tmp 14), _, _, _, _⟩) (v := ?_) rfl (by kernel_rfl) (by kernel_rfl) (by kernel_rfl) (by kernel_rfl) (fun _ _ _ h => h) (Or.inl ⟨by rfl, fun w hSw => ?_⟩) (by assumption) ?_
    rotate_left
    · (have s1 := hSw; go_simp; try with_reducible rfl)
    try simp only [Act.put, List.setIfInBounds_toArray, List.set_cons_zero, List.set_cons_succ]
    refine Late.done (by kernel_rfl) ?_ _
    refine NoPanic.normal ?_
    have R2 := Lib.hid r2
    have P3 := Lib.hid hHeld
    clear hHeld
    clear r1 o1 f1 hb1 r2 o2 f2 hb2
    go_upto_region 4 with fail
    refine Late.region (fun w' => Below nb w2 w') [] (by kernel_rfl) P3.out.drew (fun hHeld => ?_)
    refine Late.take (i := 0) (oi := ⟨some 15, Op.move (Operand.tmp 4), _, _, _, _⟩) (v := ?_) rfl (by kernel_rfl) (by kernel_rfl) (by kernel_rfl) (by kernel_rfl) (fun _ _ _ h => h) (Or.inl ⟨by rfl, fun w hSw => ?_⟩) (by assumption) ?_
    rotate_left
    · (have s1 := hSw; go_simp; try with_reducible rfl)
    try simp only [Act.put, List.setIfInBounds_toArray, List.set_cons_zero, List.set_cons_succ]
    refine Late.take (i := 1) (oi := ⟨some 16, Op.fieldAddr 26 (Operand.tmp 1) 2, _, _, _, _⟩) (v := ?_) rfl (by kernel_rfl) (by kernel_rfl) (by kernel_rfl) (by kernel_rfl) (fun _ _ _ h => h) (Or.inl ⟨by rfl, fun w hSw => ?_⟩) (by assumption) ?_
    rotate_left
    · (have s1 := hSw; go_simp; try with_reducible rfl)
    try simp only [Act.put, List.setIfInBounds_toArray, List.set_cons_zero, List.set_cons_succ]
    refine Late.take (i := 2) (oi := ⟨some 17, Op.load 9 (Operand.tmp 16), _, _, _, _⟩) (v := ?_) rfl (by kernel_rfl) (by kernel_rfl) (by kernel_rfl) (by kernel_rfl) (fun _ _ _ h => h) (Or.inl ⟨by rfl, fun w hSw => ?_⟩) (by assumption) ?_
    rotate_left
    · (have s1 := hSw; obtain ⟨d0, d1, d2, d3, d4, d5, d6, d7, d8, d9, d10, d11⟩ := HC.out _ hSw; go_simp; try with_reducible rfl)
    try simp only [Act.put, List.setIfInBounds_toArray, List.set_cons_zero, List.set_cons_succ]
    refine Late.take (i := 4) (oi := ⟨some 19, Op.fieldAddr 26 (Operand.tmp 1) 3, _, _, _, _⟩) (v := ?_) rfl (by kernel_rfl) (by kernel_rfl) (by kernel_rfl) (by kernel_rfl) (fun _ _ _ h => h) (Or.inl ⟨by rfl, fun w hSw => ?_⟩) (by assumption) ?_
    rotate_left
    · (have s1 := hSw; go_simp; try with_reducible rfl)
    try simp only [Act.put, List.setIfInBounds_toArray, List.set_cons_zero, List.set_cons_succ]
    refine Late.take (i := 5) (oi := ⟨some 20, Op.load 9 (Operand.tmp 19), _, _, _, _⟩) (v := ?_) rfl (by kernel_rfl) (by kernel_rfl) (by kernel_rfl) (by kernel_rfl) (fun _ _ _ h => h) (Or.inl ⟨by rfl, fun w hSw => ?_⟩) (by assumption) ?_
    rotate_left
    · (have s1 := hSw; obtain ⟨d0, d1, d2, d3, d4, d5, d6, d7, d8, d9, d10, d11⟩ := HC.out _ hSw; go_simp; try with_reducible rfl)
    try simp only [Act.put, List.setIfInBounds_toArray, List.set_cons_zero, List.set_cons_succ]
    refine Late.take (i := 7) (oi := ⟨some 22, Op.fieldAddr 26 (Operand.tmp 1) 4, _, _, _, _⟩) (v := ?_) rfl (by kernel_rfl) (by kernel_rfl) (by kernel_rfl) (by kernel_rfl) (fun _ _ _ h => h) (Or.inl ⟨by rfl, fun w hSw => ?_⟩) (by assumption) ?_
    rotate_left
    · (have s1 := hSw; go_simp; try with_reducible rfl)
    try simp only [Act.put, List.setIfInBounds_toArray, List.set_cons_zero, List.set_cons_succ]
    refine Late.take (i := 8) (oi := ⟨some 23, Op.load 9 (Operand.tmp 22), _, _, _, _⟩) (v := ?_) rfl (by kernel_rfl) (by kernel_rfl) (by kernel_rfl) (by kernel_rfl) (fun _ _ _ h => h) (Or.inl ⟨by rfl, fun w hSw => ?_⟩) (by assumption) ?_
    rotate_left
    · (have s1 := hSw; obtain ⟨d0, d1, d2, d3, d4, d5, d6, d7, d8, d9, d10, d11⟩ := HC.out _ hSw; go_simp; try with_reducible rfl)
    try simp only [Act.put, List.setIfInBounds_toArray, List.set_cons_zero, List.set_cons_succ]
    refine Late.one (i := 3) (o := ⟨some 18, Op.call { callee := Callee.value (Operand.func 36), args := #[Operand.tmp 15, Operand.tmp 17], argTypes := #[65, 9] }, _, _, _, _⟩) (by kernel_rfl) rfl (fun K hK => ?_)
    go_simp
    refine (text_wr R2.out.drew x.key hk1).mono ?_
    rintro e w6 ⟨rfl, g3, r3, o3, f3⟩
    have hb3 := hHeld.trans ((Wr.below R2.out.drew o3 (Nat.le_refl _)).mono (Nat.le_refl _))
    refine hK.out _ _ (hb3) (fun hHeld2 => ?_)
    clear hK K hHeld
    have hHeld := hHeld2
    clear hHeld2
    try simp only [Act.put, List.setIfInBounds_toArray, List.set_cons_zero, List.set_cons_succ]
    refine Late.one (i := 6) (o := ⟨some 21, Op.call { callee := Callee.value (Operand.func 36), args := #[Operand.tmp 18, Operand.tmp 20], argTypes := #[65, 9] }, _, _, _, _⟩) (by kernel_rfl) rfl (fun K hK => ?_)
    go_simp
    refine (text_wr r3 x.val hk2).mono ?_
    rintro e w7 ⟨rfl, g4, r4, o4, f4⟩
    have hb4 := hHeld.trans ((Wr.below r3 o4 (Nat.le_refl _)).mono (Nat.le_refl _))
    refine hK.out _ _ (hb4) (fun hHeld2 => ?_)
    clear hK K hHeld
    have hHeld := hHeld2
    clear hHeld2
    try simp only [Act.put, List.setIfInBounds_toArray, List.set_cons_zero, List.set_cons_succ]
    refine Late.one (i := 9) (o := ⟨some 24, Op.call { callee := Callee.value (Operand.func 36), args := #[Operand.tmp 21, Operand.tmp 23], argTypes := #[65, 9] }, _, _, _, _⟩) (by kernel_rfl) rfl (fun K hK => ?_)
    go_simp
    refine (text_wr r4 x.old hk3).mono ?_
    rintro e w8 ⟨rfl, g5, r5, o5, f5⟩
    have hb5 := hHeld.trans ((Wr.below r4 o5 (Nat.le_refl _)).mono (Nat.le_refl _))
    refine hK.out _ _ (hb5) (fun hHeld2 => ?_)
    clear hK K hHeld
    have hHeld := hHeld2
    clear hHeld2
    try simp only [Act.put, List.setIfInBounds_toArray, List.set_cons_zero, List.set_cons_succ]
    refine Late.done (by kernel_rfl) ?_ _
    refine NoPanic.normal ?_
    have R5 := Lib.hid r5
    have P4 := Lib.hid hHeld
    clear hHeld
    clear r3 o3 f3 hb3 r4 o4 f4 hb4 r5 o5 f5 hb5
    go_upto_region 5 with fail
    refine Late.region (fun w' => Below nb w2 w') [] (by kernel_rfl) P4.out.drew (fun hHeld => ?_)
    refine Late.take (i := 0) (oi := ⟨some 25, Op.move (Operand.tmp 4), _, _, _, _⟩) (v := ?_) rfl (by kernel_rfl) (by kernel_rfl) (by kernel_rfl) (by kernel_rfl) (fun _ _ _ h => h) (Or.inl ⟨by rfl, fun w hSw => ?_⟩) (by assumption) ?_
    rotate_left
    · (have s1 := hSw; go_simp; try with_reducible rfl)
    try simp only [Act.put, List.setIfInBounds_toArray, List.set_cons_zero, List.set_cons_succ]
    refine Late.take (i := 1) (oi := ⟨some 26, Op.fieldAddr 26 (Operand.tmp 1) 5, _, _, _, _⟩) (v := ?_) rfl (by kernel_rfl) (by kernel_rfl) (by kernel_rfl) (by kernel_rfl) (fun _ _ _ h => h) (Or.inl ⟨by rfl, fun w hSw => ?_⟩) (by assumption) ?_
    rotate_left
    · (have s1 := hSw; go_simp; try with_reducible rfl)
    try simp only [Act.put, List.setIfInBounds_toArray, List.set_cons_zero, List.set_cons_succ]
    refine Late.take (i := 2) (oi := ⟨some 27, Op.load 3 (Operand.tmp 26), _, _, _, _⟩) (v := ?_) rfl (by kernel_rfl) (by kernel_rfl) (by kernel_rfl) (by kernel_rfl) (fun _ _ _ h => h) (Or.inl ⟨by rfl, fun w hSw => ?_⟩) (by assumption) ?_
    rotate_left
    · (have s1 := hSw; obtain ⟨d0, d1, d2, d3, d4, d5, d6, d7, d8, d9, d10, d11⟩ := HC.out _ hSw; go_simp; try with_reducible rfl)
    try simp only [Act.put, List.setIfInBounds_toArray, List.set_cons_zero, List.set_cons_succ]
    refine Late.take (i := 4) (oi := ⟨some 29, Op.fieldAddr 26 (Operand.tmp 1) 6, _, _, _, _⟩) (v := ?_) rfl (by kernel_rfl) (by kernel_rfl) (by kernel_rfl) (by kernel_rfl) (fun _ _ _ h => h) (Or.inl ⟨by rfl, fun w hSw => ?_⟩) (by assumption) ?_
    rotate_left
    · (have s1 := hSw; go_simp; try with_reducible rfl)
    try simp only [Act.put, List.setIfInBounds_toArray, List.set_cons_zero, List.set_cons_succ]
    refine Late.take (i := 5) (oi := ⟨some 30, Op.load 3 (Operand.tmp 29), _, _, _, _⟩) (v := ?_) rfl (by kernel_rfl) (by kernel_rfl) (by kernel_rfl) (by kernel_rfl) (fun _ _ _ h => h) (Or.inl ⟨by rfl, fun w hSw => ?_⟩) (by assumption) ?_
    rotate_left
    · (have s1 := hSw; obtain ⟨d0, d1, d2, d3, d4, d5, d6, d7, d8, d9, d10, d11⟩ := HC.out _ hSw; go_simp; try with_reducible rfl)
    try simp only [Act.put, List.setIfInBounds_toArray, List.set_cons_zero, List.set_cons_succ]
    refine Late.take (i := 7) (oi := ⟨some 32, Op.fieldAddr 26 (Operand.tmp 1) 7, _, _, _, _⟩) (v := ?_) rfl (by kernel_rfl) (by kernel_rfl) (by kernel_rfl) (by kernel_rfl) (fun _ _ _ h => h) (Or.inl ⟨by rfl, fun w hSw => ?_⟩) (by assumption) ?_
    rotate_left
    · (have s1 := hSw; go_simp; try with_reducible rfl)
    try simp only [Act.put, List.setIfInBounds_toArray, List.set_cons_zero, List.set_cons_succ]
    refine Late.take (i := 8) (oi := ⟨some 33, Op.load 3 (Operand.tmp 32), _, _, _, _⟩) (v := ?_) rfl (by kernel_rfl) (by kernel_rfl) (by kernel_rfl) (by kernel_rfl) (fun _ _ _ h => h) (Or.inl ⟨by rfl, fun w hSw => ?_⟩) (by assumption) ?_
    rotate_left
    · (have s1 := hSw; obtain ⟨d0, d1, d2, d3, d4, d5, d6, d7, d8, d9, d10, d11⟩ := HC.out _ hSw; go_simp; try with_reducible rfl)
    try simp only [Act.put, List.setIfInBounds_toArray, List.set_cons_zero, List.set_cons_succ]
    refine Late.take (i := 10) (oi := ⟨some 35, Op.fieldAddr 26 (Operand.tmp 1) 8, _, _, _, _⟩) (v := ?_) rfl (by kernel_rfl) (by kernel_rfl) (by kernel_rfl) (by kernel_rfl) (fun _ _ _ h => h) (Or.inl ⟨by rfl, fun w hSw => ?_⟩) (by assumption) ?_
    rotate_left
    · (have s1 := hSw; go_simp; try with_reducible rfl)
    try simp only [Act.put, List.setIfInBounds_toArray, List.set_cons_zero, List.set_cons_succ]
    refine Late.take (i := 11) (oi := ⟨some 36, Op.load 3 (Operand.tmp 35), _, _, _, _⟩) (v := ?_) rfl (by kernel_rfl) (by kernel_rfl) (by kernel_rfl) (by kernel_rfl) (fun _ _ _ h => h) (Or.inl ⟨by rfl, fun w hSw => ?_⟩) (by assumption) ?_
    rotate_left
    · (have s1 := hSw; obtain ⟨d0, d1, d2, d3, d4, d5, d6, d7, d8, d9, d10, d11⟩ := HC.out _ hSw; go_simp; try with_reducible rfl)
    try simp only [Act.put, List.setIfInBounds_toArray, List.set_cons_zero, List.set_cons_succ]
    refine Late.one (i := 3) (o := ⟨some 28, Op.call { callee := Callee.value (Operand.func 37), args := #[Operand.tmp 25, Operand.tmp 27], argTypes := #[65, 3] }, _, _, _, _⟩) (by kernel_rfl) rfl (fun K hK => ?_)
    go_simp
    refine (int_wr R5.out.drew x.n hn.1 hn.2).mono ?_
    rintro e w9 ⟨rfl, g6, r6, o6, f6⟩
    have hb6 := hHeld.trans ((Wr.below R5.out.drew o6 (Nat.le_refl _)).mono (Nat.le_refl _))
    refine hK.out _ _ (hb6) (fun hHeld2 => ?_)
    clear hK K hHeld
    have hHeld := hHeld2
    clear hHeld2
    try simp only [Act.put, List.setIfInBounds_toArray, List.set_cons_zero, List.set_cons_succ]
    refine Late.one (i := 6) (o := ⟨some 31, Op.call { callee := Callee.value (Operand.func 37), args := #[Operand.tmp 28, Operand.tmp 30], argTypes := #[65, 3] }, _, _, _, _⟩) (by kernel_rfl) rfl (fun K hK => ?_)
    go_simp
    refine (int_wr r6 x.tn htn.1 htn.2).mono ?_
    rintro e w10 ⟨rfl, g7, r7, o7, f7⟩
    have hb7 := hHeld.trans ((Wr.below r6 o7 (Nat.le_refl _)).mono (Nat.le_refl _))
    refine hK.out _ _ (hb7) (fun hHeld2 => ?_)
    clear hK K hHeld
    have hHeld := hHeld2
    clear hHeld2
    try simp only [Act.put, List.setIfInBounds_toArray, List.set_cons_zero, List.set_cons_succ]
    refine Late.one (i := 9) (o := ⟨some 34, Op.call { callee := Callee.value (Operand.func 37), args := #[Operand.tmp 31, Operand.tmp 33], argTypes := #[65, 3] }, _, _, _, _⟩) (by kernel_rfl) rfl (fun K hK => ?_)
    go_simp
    refine (int_wr r7 x.ks hks.1 hks.2).mono ?_
    rintro e w11 ⟨rfl, g8, r8, o8, f8⟩
    have hb8 := hHeld.trans ((Wr.below r7 o8 (Nat.le_refl _)).mono (Nat.le_refl _))
    refine hK.out _ _ (hb8) (fun hHeld2 => ?_)
    clear hK K hHeld
    have hHeld := hHeld2
    clear hHeld2
    try simp only [Act.put, List.setIfInBounds_toArray, List.set_cons_zero, List.set_cons_succ]
    refine Late.one (i := 12) (o := ⟨some 37, Op.call { callee := Callee.value (Operand.func 37), args := #[Operand.tmp 34, Operand.tmp 36], argTypes := #[65, 3] }, _, _, _, _⟩) (by kernel_rfl) rfl (fun K hK => ?_)
    go_simp
    refine (int_wr r8 x.sp hsp.1 hsp.2).mono ?_
    rintro e w12 ⟨rfl, g9, r9, o9, f9⟩
    have hb9 := hHeld.trans ((Wr.below r8 o9 (Nat.le_refl _)).mono (Nat.le_refl _))
    refine hK.out _ _ (hb9) (fun hHeld2 => ?_)
    clear hK K hHeld
    have hHeld := hHeld2
    clear hHeld2
    try simp only [Act.put, List.setIfInBounds_toArray, List.set_cons_zero, List.set_cons_succ]
    refine Late.done (by kernel_rfl) ?_ _
    refine NoPanic.normal ?_
    have R9 := Lib.hid r9
    have P5 := Lib.hid hHeld
    clear hHeld
    clear r6 o6 f6 hb6 r7 o7 f7 hb7 r8 o8 f8 hb8 r9 o9 f9 hb9
    go_upto_region 6 with fail
    refine Late.region (fun w' => Below nb w2 w') [] (by kernel_rfl) P5.out.drew (fun hHeld => ?_)
    refine Late.take (i := 0) (oi := ⟨some 38, Op.move (Operand.tmp 4), _, _, _, _⟩) (v := ?_) rfl (by kernel_rfl) (by kernel_rfl) (by kernel_rfl) (by kernel_rfl) (fun _ _ _ h => h) (Or.inl ⟨by rfl, fun w hSw => ?_⟩) (by assumption) ?_
    rotate_left
    · (have s1 := hSw; go_simp; try with_reducible rfl)
    try simp only [Act.put, List.setIfInBounds_toArray, List.set_cons_zero, List.set_cons_succ]
    refine Late.take (i := 1) (oi := ⟨some 39, Op.fieldAddr 26 (Operand.tmp 1) 9, _, _, _, _⟩) (v := ?_) rfl (by kernel_rfl) (by kernel_rfl) (by kernel_rfl) (by kernel_rfl) (fun _ _ _ h => h) (Or.inl ⟨by rfl, fun w hSw => ?_⟩) (by assumption) ?_
    rotate_left
    · (have s1 := hSw; go_simp; try with_reducible rfl)
    try simp only [Act.put, List.setIfInBounds_toArray, List.set_cons_zero, List.set_cons_succ]
    refine Late.take (i := 2) (oi := ⟨some 40, Op.fieldAddr 24 (Operand.tmp 39) 0, _, _, _, _⟩) (v := ?_) rfl (by kernel_rfl) (by kernel_rfl) (by kernel_rfl) (by kernel_rfl) (fun _ _ _ h => h) (Or.inl ⟨by rfl, fun w hSw => ?_⟩) (by assumption) ?_
    rotate_left
    · (have s1 := hSw; go_simp; try with_reducible rfl)
    try simp only [Act.put, List.setIfInBounds_toArray, List.set_cons_zero, List.set_cons_succ]
    refine Late.take (i := 3) (oi := ⟨some 41, Op.load 5 (Operand.tmp 40), _, _, _, _⟩) (v := ?_) rfl (by kernel_rfl) (by kernel_rfl) (by kernel_rfl) (by kernel_rfl) (fun _ _ _ h => h) (Or.inl ⟨by rfl, fun w hSw => ?_⟩) (by assumption) ?_
    rotate_left
    · (have s1 := hSw; obtain ⟨d0, d1, d2, d3, d4, d5, d6, d7, d8, d9, d10, d11⟩ := HC.out _ hSw; go_simp; try with_reducible rfl)
    try simp only [Act.put, List.setIfInBounds_toArray, List.set_cons_zero, List.set_cons_succ]
    refine Late.take (i := 5) (oi := ⟨some 43, Op.fieldAddr 26 (Operand.tmp 1) 9, _, _, _, _⟩) (v := ?_) rfl (by kernel_rfl) (by kernel_rfl) (by kernel_rfl) (by kernel_rfl) (fun _ _ _ h => h) (Or.inl ⟨by rfl, fun w hSw => ?_⟩) (by assumption) ?_
    rotate_left
    · (have s1 := hSw; go_simp; try with_reducible rfl)
    try simp only [Act.put, List.setIfInBounds_toArray, List.set_cons_zero, List.set_cons_succ]
    refine Late.take (i := 6) (oi := ⟨some 44, Op.fieldAddr 24 (Operand.tmp 43) 1, _, _, _, _⟩) (v := ?_) rfl (by kernel_rfl) (by kernel_rfl) (by kernel_rfl) (by kernel_rfl) (fun _ _ _ h => h) (Or.inl ⟨by rfl, fun w hSw => ?_⟩) (by assumption) ?_
    rotate_left
    · (have s1 := hSw; go_simp; try with_reducible rfl)
    try simp only [Act.put, List.setIfInBounds_toArray, List.set_cons_zero, List.set_cons_succ]
    refine Late.take (i := 7) (oi := ⟨some 45, Op.load 3 (Operand.tmp 44), _, _, _, _⟩) (v := ?_) rfl (by kernel_rfl) (by kernel_rfl) (by kernel_rfl) (by kernel_rfl) (fun _ _ _ h => h) (Or.inl ⟨by rfl, fun w hSw => ?_⟩) (by assumption) ?_
    rotate_left
    · (have s1 := hSw; obtain ⟨d0, d1, d2, d3, d4, d5, d6, d7, d8, d9, d10, d11⟩ := HC.out _ hSw; go_simp; try with_reducible rfl)
    try simp only [Act.put, List.setIfInBounds_toArray, List.set_cons_zero, List.set_cons_succ]
    refine Late.take (i := 9) (oi := ⟨some 47, Op.fieldAddr 26 (Operand.tmp 1) 9, _, _, _, _⟩) (v := ?_) rfl (by kernel_rfl) (by kernel_rfl) (by kernel_rfl) (by kernel_rfl) (fun _ _ _ h => h) (Or.inl ⟨by rfl, fun w hSw => ?_⟩) (by assumption) ?_
    rotate_left
    · (have s1 := hSw; go_simp; try with_reducible rfl)
    try simp only [Act.put, List.setIfInBounds_toArray, List.set_cons_zero, List.set_cons_succ]
    refine Late.take (i := 10) (oi := ⟨some 48, Op.fieldAddr 24 (Operand.tmp 47) 2, _, _, _, _⟩) (v := ?_) rfl (by kernel_rfl) (by kernel_rfl) (by kernel_rfl) (by kernel_rfl) (fun _ _ _ h => h) (Or.inl ⟨by rfl, fun w hSw => ?_⟩) (by assumption) ?_
    rotate_left
    · (have s1 := hSw; go_simp; try with_reducible rfl)
    try simp only [Act.put, List.setIfInBounds_toArray, List.set_cons_zero, List.set_cons_succ]
    refine Late.take (i := 11) (oi := ⟨some 49, Op.load 3 (Operand.tmp 48), _, _, _, _⟩) (v := ?_) rfl (by kernel_rfl) (by kernel_rfl) (by kernel_rfl) (by kernel_rfl) (fun _ _ _ h => h) (Or.inl ⟨by rfl, fun w hSw => ?_⟩) (by assumption) ?_
    rotate_left
    · (have s1 := hSw; obtain ⟨d0, d1, d2, d3, d4, d5, d6, d7, d8, d9, d10, d11⟩ := HC.out _ hSw; go_simp; try with_reducible rfl)
    try simp only [Act.put, List.setIfInBounds_toArray, List.set_cons_zero, List.set_cons_succ]
    refine Late.one (i := 4) (o := ⟨some 42, Op.call { callee := Callee.value (Operand.func 34), args := #[Operand.tmp 38, Operand.tmp 41], argTypes := #[65, 5] }, _, _, _, _⟩) (by kernel_rfl) rfl (fun K hK => ?_)
    go_simp
    refine (byte_wr R9.out.drew x.rt hrt.1 hrt.2).mono ?_
    rintro e w13 ⟨rfl, g10, r10, o10, f10⟩
    have hb10 := hHeld.trans ((Wr.below R9.out.drew o10 (Nat.le_refl _)).mono (Nat.le_refl _))
    refine hK.out _ _ (hb10) (fun hHeld2 => ?_)
    clear hK K hHeld
    have hHeld := hHeld2
    clear hHeld2
    try simp only [Act.put, List.setIfInBounds_toArray, List.set_cons_zero, List.set_cons_succ]
    refine Late.one (i := 8) (o := ⟨some 46, Op.call { callee := Callee.value (Operand.func 37), args := #[Operand.tmp 42, Operand.tmp 45], argTypes := #[65, 3] }, _, _, _, _⟩) (by kernel_rfl) rfl (fun K hK => ?_)
    go_simp
    refine (int_wr r10 x.ex hex.1 hex.2).mono ?_
    rintro e w14 ⟨rfl, g11, r11, o11, f11⟩
    have hb11 := hHeld.trans ((Wr.below r10 o11 (Nat.le_refl _)).mono (Nat.le_refl _))
    refine hK.out _ _ (hb11) (fun hHeld2 => ?_)
    clear hK K hHeld
    have hHeld := hHeld2
    clear hHeld2
    try simp only [Act.put, List.setIfInBounds_toArray, List.set_cons_zero, List.set_cons_succ]
    refine Late.one (i := 12) (o := ⟨some 50, Op.call { callee := Callee.value (Operand.func 37), args := #[Operand.tmp 46, Operand.tmp 49], argTypes := #[65, 3] }, _, _, _, _⟩) (by kernel_rfl) rfl (fun K hK => ?_)
    go_simp
    refine (int_wr r11 x.sr hsr.1 hsr.2).mono ?_
    rintro e w15 ⟨rfl, g12, r12, o12, f12⟩
    have hb12 := hHeld.trans ((Wr.below r11 o12 (Nat.le_refl _)).mono (Nat.le_refl _))
    refine hK.out _ _ (hb12) (fun hHeld2 => ?_)
    clear hK K hHeld
    have hHeld := hHeld2
    clear hHeld2
    try simp only [Act.put, List.setIfInBounds_toArray, List.set_cons_zero, List.set_cons_succ]
    refine Late.one (i := 13) (o := ⟨some 51, Op.call { callee := Callee.value (Operand.func 38), args := #[Operand.tmp 50], argTypes := #[65] }, _, _, _, _⟩) (by kernel_rfl) rfl (fun K hK => ?_)
    have r12b : Wr w15 nb g12 (some (reqF x.z)) := by rw [← HST.out]; exact r12
    go_simp
    refine (done_ok r12b).mono ?_
    rintro e w16 ⟨u, rfl, hu, b13⟩
    have hz15 : w.heap.size ≤ w15.heap.size := by have := r12.lt; have := hgn.out; have := HG.out; omega
    have hb13 := hHeld.trans (b13.mono (by have := r12.lt; omega))
    refine hK.out _ _ (hb13) (fun hHeld2 => ?_)
    clear hK K hHeld
    have hHeld := hHeld2
    clear hHeld2
    try simp only [Act.put, List.setIfInBounds_toArray, List.set_cons_zero, List.set_cons_succ]
    refine Late.take (i := 14) (oi := ⟨some 52, Op.extract (Operand.tmp 51) 0, _, _, _, _⟩) (v := ?_) rfl (by kernel_rfl) (by kernel_rfl) (by kernel_rfl) (by kernel_rfl) (fun _ _ _ h => h) (Or.inl ⟨by rfl, fun w hSw => ?_⟩) (by assumption) ?_
    rotate_left
    · (have s1 := hSw; go_simp; try with_reducible rfl)
    try simp only [Act.put, List.setIfInBounds_toArray, List.set_cons_zero, List.set_cons_succ]
    refine Late.take (i := 15) (oi := ⟨some 53, Op.extract (Operand.tmp 51) 1, _, _, _, _⟩) (v := ?_) rfl (by kernel_rfl) (by kernel_rfl) (by kernel_rfl) (by kernel_rfl) (fun _ _ _ h => h) (Or.inl ⟨by rfl, fun w hSw => ?_⟩) (by assumption) ?_
    rotate_left
    · (have s1 := hSw; go_simp; try with_reducible rfl)
    try simp only [Act.put, List.setIfInBounds_toArray, List.set_cons_zero, List.set_cons_succ]
    refine Late.take (i := 16) (oi := ⟨some 2, Op.assign (Operand.tmp 52), _, _, _, _⟩) (v := ?_) rfl (by kernel_rfl) (by kernel_rfl) (by kernel_rfl) (by kernel_rfl) (fun _ _ _ h => h) (Or.inl ⟨by rfl, fun w hSw => ?_⟩) (by assumption) ?_
    rotate_left
    · (have s1 := hSw; go_simp; try with_reducible rfl)
    try simp only [Act.put, List.setIfInBounds_toArray, List.set_cons_zero, List.set_cons_succ]
    refine Late.take (i := 17) (oi := ⟨some 3, Op.assign (Operand.tmp 53), _, _, _, _⟩) (v := ?_) rfl (by kernel_rfl) (by kernel_rfl) (by kernel_rfl) (by kernel_rfl) (fun _ _ _ h => h) (Or.inl ⟨by rfl, fun w hSw => ?_⟩) (by assumption) ?_
    rotate_left
    · (have s1 := hSw; go_simp; try with_reducible rfl)
    try simp only [Act.put, List.setIfInBounds_toArray, List.set_cons_zero, List.set_cons_succ]
    refine Late.done (by kernel_rfl) ?_ _
    refine NoPanic.normal ?_
    have HU := Lib.hid hu
    have BZ15 := Lib.hid hz15
    have BZ := Lib.hid (BA.out.trans (hHeld.mono (by rw [HG.out]; have := hgn.out; omega)))
    clear hHeld hu
    go_wp2
    go_ret2
    obtain ⟨D, c, e1, e2, e3⟩ := HU.out
    exact ⟨u, rfl, ⟨D, c, e1, own_base e2 BZ15.out, e3⟩, BZ.out⟩
end Go.Proofs.Ytcgclaailhhbpaa
