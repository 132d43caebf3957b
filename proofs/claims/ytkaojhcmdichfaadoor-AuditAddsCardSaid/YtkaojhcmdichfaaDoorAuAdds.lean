/- The statement AuditAdds: the walk. -/
import Derived.Test.YtkaojhcmdichfaaDoorAuV
import Derived.Test.YtkaojhcmdichfaaDoorAuRA
import Derived.Test.YtkaojhcmdichfaaDoorAuS
namespace Go.Proofs.YtkaojhcmdichfaaDoor
open Go.ChangeShapes Go.WideShapes Go.ChangeAt Go.RowKit
set_option linter.unusedVariables false
set_option linter.unusedSimpArgs false
open Plain Sha Au
def gm7 : LinkZ := ⟨-7, 0, 0, 0, 0, 0, 0, zT, zT, rfl, rfl⟩
theorem gm7_ok : LOk gm7 := ⟨by unfold InA gm7; decide, by unfold InA gm7; decide, by unfold gm7; decide, by unfold InA gm7; decide, by unfold InA gm7; decide, by unfold InA gm7; decide, by unfold InA gm7; decide, rep_bytes 32 0 (by omega) (by omega), rep_bytes 32 0 (by omega) (by omega)⟩
set_option maxRecDepth 100000 in
set_option maxHeartbeats 8000000 in
theorem auadds_any (A : Option Addr) (n c : Nat) (l : List LinkZ) (x : LinkZ) (w : World) (h : Lks w w.heap.size A n l) (hnc : n ≤ c) (hcm : c ≤ maxLen) (hx : LOk x) (hF : LaidF w) (hK : LaidK w) :
    Calls Tryd.prog 3 #[.slice A n c, .agg (lc x).toArray] w (fun e w' => e = .returned (.bool true) ∧ Below w.heap.size w w') := by
  have hnm : n ≤ maxLen := Nat.le_trans hnc hcm
  have hn9 : n ≤ 9223372036854775807 := by unfold maxLen at hnm; exact hnm
  have HN := Lib.hid h.len
  have HOK := Lib.hid h.ok
  have HG := Lib.hid hx
  obtain ⟨W1, hW1⟩ : ∃ W, W = w.alloc (.cells (lc x).toArray 26) := ⟨_, rfl⟩
  have b1 : Below w.heap.size w W1 := by rw [hW1]; exact (Below.refl _ _).alloc (Nat.le_refl _) _
  have x1 : LBox W1 w.heap.size x := by rw [hW1]; exact lbox_new w x _ _ rfl
  have HB1 := Lib.hid b1
  have HX1 := Lib.hid x1
  have H1 := Lib.hid (h.below b1 (Nat.le_refl _))
  have HF1 := Lib.hid (hF.below b1 hF.lt)
  have HK1 := Lib.hid (hK.below b1 hK.lt)
  have HW1 := Lib.hid hW1
  have HARG : Hid (ArgsOk x.st x.op x.tn x.a x.b x.c) := Lib.hid ⟨hx.st, hx.op, hx.tn, hx.a, hx.b, hx.c⟩
  have hop0 := hx.op.1
  have hop1 := hx.op.2
  clear hW1 b1 x1 h hF hK hx
  go_enter Tryd.func3, Tryd.ntmps3
  go_upto_region 1 with fail
  rw [← HW1.out]
  by_cases hbig : 40 < n
  · have hb : (40 : Int) < n := by omega
    go_wp2
    go_ret
    exact ⟨rfl, HB1.out⟩
  have hb : ¬ (40 : Int) < n := by omega
  have O1 := Lib.hid (own_noneA W1 W1.heap.size (Nat.le_refl _))
  have B1 : Hid (Below W1.heap.size W1 (W1.alloc (.cells #[] 26))) := Lib.hid ((Below.refl _ _).alloc (Nat.le_refl _) _)
  have H2 := Lib.hid (H1.out.below B1.out HB1.out.size)
  have hB7 : Hid (∀ W, (Instr.build 26 #[(0, .int .i64 (-7))]).run Tryd.prog W = .ok (.agg (lc gm7).toArray) W) := Lib.hid (fun W => build_seven (-7) W)
  have G1 := HN
  have G2 := HN
  have G3 := HN
  have G4 := HN
  have hbI : Hid (¬ (40 : Int) < n) := Lib.hid hb
  go_upto_region 4 with (first
      | (have g := G1; clear g; at_builtin; refine wpList_newL (B := w.heap.size) rfl (.tmp 12) (.tmp 13) rfl rfl O1.out rfl H2.out (by omega) B1.out.size ?_; intro D d v1 ho1 hb1; have P1 := Lib.hid (B1.out.trans (hb1.mono B1.out.size)); have HO1 := Lib.hid ho1; clear G1 ho1 hb1)
      | (have g := G2; clear g; refine wpList_exec (op := ⟨some 15, .build 26 #[(0, .const (.int .i64 (-7)))], _, _, _, _⟩) rfl (.agg (lc gm7).toArray) (by have hb9 := hB7.out v1; simp [execOp, Act.eval, hb9]) ?_; clear G2)
      | (have g := G3; clear g; refine wpList_slice1 (o := ⟨some 16, .buildSlice 22 1 #[(0, .tmp 15)], _, _, _, _⟩) rfl (.tmp 15) rfl gm7 rfl ?_; intro v2 hv2; clear G3; have b2 : Below v1.heap.size v1 v2 := (by rw [hv2.out]; exact (Below.refl _ _).alloc (Nat.le_refl _) _); have l2 : Lks v2 v2.heap.size (some ⟨v1.heap.size, 0, none⟩) 1 [gm7] := (by rw [hv2.out]; exact (lks_one v1 gm7 gm7_ok _ _ rfl).more (by simp)); have P2 := Lib.hid (P1.out.trans (b2.mono P1.out.size)); have HO2 := Lib.hid (own_below HO1.out b2 (Nat.le_refl _)); have L2 := Lib.hid l2; clear b2 l2 hv2)
      | (have g := G4; clear g; at_builtin; refine wpList_app _ rfl (.tmp 14) (.tmp 16) 22 rfl W1.heap.size 26 71 120 Tryd.underlying22 link_info (by omega) (.slice D n d) n (lvs l) rfl HO2.out (some ⟨v1.heap.size, 0, none⟩) 1 1 (lvs [gm7]) rfl L2.out.lies.1 L2.out.lies.2 (lvs_one _) (by unfold maxLen; omega) (by omega) P2.out.size ?_; intro v3v v3 ho3 hg3; have P3 := Lib.hid (P2.out.grown hg3 P2.out.size (fun q hq => (HO2.out.lt q hq).1)); have HO3 := Lib.hid ho3; clear G4 ho3 hg3))
  have HO3' := HO3.out
  rw [← lvs_app] at HO3'
  obtain ⟨g3, d3, hv, hgb3, hgl3⟩ := HO3'.form (by omega)
  subst hv
  obtain ⟨_, _, q, hnd, hdm⟩ := own_shapeA HO3'
  injection q with q1 q2 q3
  subst q1
  subst q3
  have HB3 := Lib.hid (HB1.out.trans (P3.out.mono HB1.out.size))
  have HI3 : Hid (Lks v3 v3.heap.size (some ⟨g3, 0, none⟩) (n + 1) (l ++ [gm7])) := Lib.hid (lks_of_own HO3' (fun y hy => by
    rw [List.mem_append, List.mem_singleton] at hy
    rcases hy with hy | rfl
    · exact HOK.out y hy
    · exact gm7_ok))
  have HIN : Hid (∀ W, Below v3.heap.size v3 W → Lks W v3.heap.size (some ⟨g3, 0, none⟩) n l) := Lib.hid (fun W hW => by
    have := (HI3.out.below hW (Nat.le_refl _)).front n (by omega)
    rwa [List.take_append_of_le_length (by rw [HN.out]; exact Nat.le_refl _), List.take_of_length_le (by rw [HN.out]; exact Nat.le_refl _)] at this)
  have H7 : Hid (∀ W, Below v3.heap.size v3 W → W.cell? ⟨g3, n * 71, none⟩ = some (.int .i64 (-7))) := Lib.hid (fun W hW => by
    obtain ⟨b, off, y, hA, _, hy, _, hr⟩ := (HI3.out.below hW (Nat.le_refl _)).at_ (k := n) (by omega)
    injection hA with hA; injection hA with q1 q2; subst q1 q2
    have e1 : y = gm7 := by
      have := hy.out
      rw [List.getElem?_append_right (by rw [HN.out]; exact Nat.le_refl _), HN.out, Nat.sub_self] at this
      simpa using this.symm
    rw [e1] at hr
    have := (range_nums hr).1
    rwa [Nat.zero_add] at this)
  have HX : Hid (∀ W, Below v3.heap.size v3 W → LBox W w.heap.size x) := Lib.hid (fun W hW => (HX1.out.grow P3.out).below hW (Nat.lt_of_lt_of_le HX1.out.lt P3.out.size))
  have HC : Hid (∀ W, Below v3.heap.size v3 W → W.cell? ⟨w.heap.size, 1, none⟩ = some (.int .i64 x.st) ∧ W.cell? ⟨w.heap.size, 2, none⟩ = some (.int .u8 x.op) ∧ W.cell? ⟨w.heap.size, 3, none⟩ = some (.int .i64 x.tn) ∧ W.cell? ⟨w.heap.size, 4, none⟩ = some (.int .i64 x.a) ∧ W.cell? ⟨w.heap.size, 5, none⟩ = some (.int .i64 x.b) ∧ W.cell? ⟨w.heap.size, 6, none⟩ = some (.int .i64 x.c)) := Lib.hid (fun W hW => by
    have := range_nums (HX.out W hW).range
    exact this.2)
  have HA : Hid (∀ W, Below v3.heap.size v3 W → Lks W w.heap.size A n l) := Lib.hid (fun W hW => ((H1.out.below P3.out HB1.out.size).below hW HB3.out.size))
  have HF3 := Lib.hid (HF1.out.below P3.out HF1.out.lt)
  have HK3 := Lib.hid (HK1.out.below P3.out HK1.out.lt)
  have C0 : Hid (Below v3.heap.size v3 v3.drew) := Lib.hid (Below.refl _ _).drew
  have hnd3 : (n : Int) ≤ (d3 : Int) := by omega
  have hn1 : ((n + 1 : Nat) : Int) = (n : Int) + 1 := by omega
  have hnm1 : n + 1 ≤ maxLen := by unfold maxLen; omega
  clear O1 B1 H2 hB7 P1 HO1 P2 HO2 L2 P3 HO3 HO3' HI3 HX1 HW1 H1 hbI hgb3 hgl3
  refine Late.region (fun w' => Below v3.heap.size v3 w') [] (by kernel_rfl) C0.out (fun hHeld => ?_)
  refine Late.take (i := 0) (oi := ⟨some 18, Op.move (Operand.tmp 5), _, _, _, _⟩) (v := ?_) rfl (by kernel_rfl) (by kernel_rfl) (by kernel_rfl) (by kernel_rfl) (fun _ _ _ h => h) (Or.inl ⟨by rfl, fun w hSw => ?_⟩) (by assumption) ?_
  rotate_left
  · (have s1 := hSw; go_simp; try with_reducible rfl)
  try simp only [Act.put, List.setIfInBounds_toArray, List.set_cons_zero, List.set_cons_succ]
  refine Late.take (i := 1) (oi := ⟨some 19, Op.move (Operand.tmp 0), _, _, _, _⟩) (v := ?_) rfl (by kernel_rfl) (by kernel_rfl) (by kernel_rfl) (by kernel_rfl) (fun _ _ _ h => h) (Or.inl ⟨by rfl, fun w hSw => ?_⟩) (by assumption) ?_
  rotate_left
  · (have s1 := hSw; go_simp; try with_reducible rfl)
  try simp only [Act.put, List.setIfInBounds_toArray, List.set_cons_zero, List.set_cons_succ]
  refine Late.take (i := 2) (oi := ⟨some 20, Op.call { callee := Callee.builtin Builtin.len, args := #[Operand.tmp 19], argTypes := #[22] }, _, _, _, _⟩) (v := ?_) rfl (by kernel_rfl) (by kernel_rfl) (by kernel_rfl) (by kernel_rfl) (fun _ _ _ h => h) (Or.inl ⟨by rfl, fun w hSw => ?_⟩) (by assumption) ?_
  rotate_left
  · (have s1 := hSw; go_simp; try with_reducible rfl)
  try simp only [Act.put, List.setIfInBounds_toArray, List.set_cons_zero, List.set_cons_succ]
  refine Late.take (i := 3) (oi := ⟨some 21, Op.slice 22 (Operand.tmp 18) none (some (Operand.tmp 20)) none, _, _, _, _⟩) (v := ?_) rfl (by kernel_rfl) (by kernel_rfl) (by kernel_rfl) (by kernel_rfl) (fun _ _ _ h => h) (Or.inl ⟨by rfl, fun w hSw => ?_⟩) (by assumption) ?_
  rotate_left
  · (have s1 := hSw; go_simp; try with_reducible rfl)
  try simp only [Act.put, List.setIfInBounds_toArray, List.set_cons_zero, List.set_cons_succ]
  refine Late.take (i := 4) (oi := ⟨some 22, Op.fieldAddr 26 (Operand.tmp 3) 1, _, _, _, _⟩) (v := ?_) rfl (by kernel_rfl) (by kernel_rfl) (by kernel_rfl) (by kernel_rfl) (fun _ _ _ h => h) (Or.inl ⟨by rfl, fun w hSw => ?_⟩) (by assumption) ?_
  rotate_left
  · (have s1 := hSw; go_simp; try with_reducible rfl)
  try simp only [Act.put, List.setIfInBounds_toArray, List.set_cons_zero, List.set_cons_succ]
  refine Late.take (i := 5) (oi := ⟨some 23, Op.load 3 (Operand.tmp 22), _, _, _, _⟩) (v := ?_) rfl (by kernel_rfl) (by kernel_rfl) (by kernel_rfl) (by kernel_rfl) (fun _ _ _ h => h) (Or.inl ⟨by rfl, fun w hSw => ?_⟩) (by assumption) ?_
  rotate_left
  · (have s1 := hSw; obtain ⟨q1, q2, q3, q4, q5, q6⟩ := HC.out _ hSw; go_simp; try with_reducible rfl)
  try simp only [Act.put, List.setIfInBounds_toArray, List.set_cons_zero, List.set_cons_succ]
  refine Late.take (i := 6) (oi := ⟨some 24, Op.fieldAddr 26 (Operand.tmp 3) 2, _, _, _, _⟩) (v := ?_) rfl (by kernel_rfl) (by kernel_rfl) (by kernel_rfl) (by kernel_rfl) (fun _ _ _ h => h) (Or.inl ⟨by rfl, fun w hSw => ?_⟩) (by assumption) ?_
  rotate_left
  · (have s1 := hSw; go_simp; try with_reducible rfl)
  try simp only [Act.put, List.setIfInBounds_toArray, List.set_cons_zero, List.set_cons_succ]
  refine Late.take (i := 7) (oi := ⟨some 25, Op.load 5 (Operand.tmp 24), _, _, _, _⟩) (v := ?_) rfl (by kernel_rfl) (by kernel_rfl) (by kernel_rfl) (by kernel_rfl) (fun _ _ _ h => h) (Or.inl ⟨by rfl, fun w hSw => ?_⟩) (by assumption) ?_
  rotate_left
  · (have s1 := hSw; obtain ⟨q1, q2, q3, q4, q5, q6⟩ := HC.out _ hSw; go_simp; try with_reducible rfl)
  try simp only [Act.put, List.setIfInBounds_toArray, List.set_cons_zero, List.set_cons_succ]
  refine Late.take (i := 8) (oi := ⟨some 26, Op.fieldAddr 26 (Operand.tmp 3) 3, _, _, _, _⟩) (v := ?_) rfl (by kernel_rfl) (by kernel_rfl) (by kernel_rfl) (by kernel_rfl) (fun _ _ _ h => h) (Or.inl ⟨by rfl, fun w hSw => ?_⟩) (by assumption) ?_
  rotate_left
  · (have s1 := hSw; go_simp; try with_reducible rfl)
  try simp only [Act.put, List.setIfInBounds_toArray, List.set_cons_zero, List.set_cons_succ]
  refine Late.take (i := 9) (oi := ⟨some 27, Op.load 3 (Operand.tmp 26), _, _, _, _⟩) (v := ?_) rfl (by kernel_rfl) (by kernel_rfl) (by kernel_rfl) (by kernel_rfl) (fun _ _ _ h => h) (Or.inl ⟨by rfl, fun w hSw => ?_⟩) (by assumption) ?_
  rotate_left
  · (have s1 := hSw; obtain ⟨q1, q2, q3, q4, q5, q6⟩ := HC.out _ hSw; go_simp; try with_reducible rfl)
  try simp only [Act.put, List.setIfInBounds_toArray, List.set_cons_zero, List.set_cons_succ]
  refine Late.take (i := 10) (oi := ⟨some 28, Op.fieldAddr 26 (Operand.tmp 3) 4, _, _, _, _⟩) (v := ?_) rfl (by kernel_rfl) (by kernel_rfl) (by kernel_rfl) (by kernel_rfl) (fun _ _ _ h => h) (Or.inl ⟨by rfl, fun w hSw => ?_⟩) (by assumption) ?_
  rotate_left
  · (have s1 := hSw; go_simp; try with_reducible rfl)
  try simp only [Act.put, List.setIfInBounds_toArray, List.set_cons_zero, List.set_cons_succ]
  refine Late.take (i := 11) (oi := ⟨some 29, Op.load 3 (Operand.tmp 28), _, _, _, _⟩) (v := ?_) rfl (by kernel_rfl) (by kernel_rfl) (by kernel_rfl) (by kernel_rfl) (fun _ _ _ h => h) (Or.inl ⟨by rfl, fun w hSw => ?_⟩) (by assumption) ?_
  rotate_left
  · (have s1 := hSw; obtain ⟨q1, q2, q3, q4, q5, q6⟩ := HC.out _ hSw; go_simp; try with_reducible rfl)
  try simp only [Act.put, List.setIfInBounds_toArray, List.set_cons_zero, List.set_cons_succ]
  refine Late.take (i := 12) (oi := ⟨some 30, Op.fieldAddr 26 (Operand.tmp 3) 5, _, _, _, _⟩) (v := ?_) rfl (by kernel_rfl) (by kernel_rfl) (by kernel_rfl) (by kernel_rfl) (fun _ _ _ h => h) (Or.inl ⟨by rfl, fun w hSw => ?_⟩) (by assumption) ?_
  rotate_left
  · (have s1 := hSw; go_simp; try with_reducible rfl)
  try simp only [Act.put, List.setIfInBounds_toArray, List.set_cons_zero, List.set_cons_succ]
  refine Late.take (i := 13) (oi := ⟨some 31, Op.load 3 (Operand.tmp 30), _, _, _, _⟩) (v := ?_) rfl (by kernel_rfl) (by kernel_rfl) (by kernel_rfl) (by kernel_rfl) (fun _ _ _ h => h) (Or.inl ⟨by rfl, fun w hSw => ?_⟩) (by assumption) ?_
  rotate_left
  · (have s1 := hSw; obtain ⟨q1, q2, q3, q4, q5, q6⟩ := HC.out _ hSw; go_simp; try with_reducible rfl)
  try simp only [Act.put, List.setIfInBounds_toArray, List.set_cons_zero, List.set_cons_succ]
  refine Late.take (i := 14) (oi := ⟨some 32, Op.fieldAddr 26 (Operand.tmp 3) 6, _, _, _, _⟩) (v := ?_) rfl (by kernel_rfl) (by kernel_rfl) (by kernel_rfl) (by kernel_rfl) (fun _ _ _ h => h) (Or.inl ⟨by rfl, fun w hSw => ?_⟩) (by assumption) ?_
  rotate_left
  · (have s1 := hSw; go_simp; try with_reducible rfl)
  try simp only [Act.put, List.setIfInBounds_toArray, List.set_cons_zero, List.set_cons_succ]
  refine Late.take (i := 15) (oi := ⟨some 33, Op.load 3 (Operand.tmp 32), _, _, _, _⟩) (v := ?_) rfl (by kernel_rfl) (by kernel_rfl) (by kernel_rfl) (by kernel_rfl) (fun _ _ _ h => h) (Or.inl ⟨by rfl, fun w hSw => ?_⟩) (by assumption) ?_
  rotate_left
  · (have s1 := hSw; obtain ⟨q1, q2, q3, q4, q5, q6⟩ := HC.out _ hSw; go_simp; try with_reducible rfl)
  try simp only [Act.put, List.setIfInBounds_toArray, List.set_cons_zero, List.set_cons_succ]
  refine Late.one (i := 16) (o := ⟨some 34, Op.call { callee := Callee.value (Operand.func 6), args := #[Operand.tmp 21, Operand.tmp 23, Operand.tmp 25, Operand.tmp 27, Operand.tmp 29, Operand.tmp 31, Operand.tmp 33], argTypes := #[22, 3, 5, 3, 3, 3, 3] }, _, _, _, _⟩) (by kernel_rfl) rfl (fun K hK => ?_)
  go_simp
  refine (add_any d3 (HIN.out _ C0.out) C0.out.size (by omega) x.st x.op x.tn x.a x.b x.c HARG.out (HF3.out.below C0.out HF3.out.lt) (HK3.out.below C0.out HK3.out.lt)).mono ?_
  rintro e v4 ⟨D4, d4, rfl, ho, hb, hnd4, hdm4⟩
  have P4 := Lib.hid (C0.out.trans (hb.mono C0.out.size))
  have HO4 := Lib.hid (own_base ho C0.out.size)
  clear ho
  clear hb
  refine hK.out _ _ (P4.out) (fun hHeld2 => ?_)
  clear hK K hHeld
  have hHeld := hHeld2
  clear hHeld2
  try simp only [Act.put, List.setIfInBounds_toArray, List.set_cons_zero, List.set_cons_succ]
  refine Late.take (i := 17) (oi := ⟨some 6, Op.assign (Operand.tmp 34), _, _, _, _⟩) (v := ?_) rfl (by kernel_rfl) (by kernel_rfl) (by kernel_rfl) (by kernel_rfl) (fun _ _ _ h => h) (Or.inl ⟨by rfl, fun w hSw => ?_⟩) (by assumption) ?_
  rotate_left
  · (have s1 := hSw; go_simp; try with_reducible rfl)
  try simp only [Act.put, List.setIfInBounds_toArray, List.set_cons_zero, List.set_cons_succ]
  refine Late.done (by kernel_rfl) ?_ _
  refine NoPanic.normal ?_
  have HL4 := Lib.hid (lks_of_own HO4.out (add_ok HOK.out (by have := HN.out; omega) HARG.out))
  obtain ⟨q1, q2, q3, q4, q5, q6⟩ := HC.out _ P4.out
  have G1 := HN
  clear hHeld C0
  go_upto_region 6 with (first
      | (have g := G1; clear g; go_at_call 7; refine (refadd_any c (HA.out _ P4.out) (Nat.le_trans HB3.out.size P4.out.size) (by omega) x.st x.op x.tn x.a x.b x.c HARG.out).mono ?_; rintro e v5 ⟨D5, d5, rfl, ho, hb, hnd5, hdm5⟩; have P5' := Lib.hid (P4.out.trans (hb.mono P4.out.size)); have HO5 := Lib.hid ho; have HO4' := Lib.hid (own_below HO4.out hb (Nat.le_refl _)); clear hb ho G1))
  obtain ⟨LL, hLL⟩ : ∃ L, addZ l x.st x.op x.tn x.a x.b x.c = L := ⟨_, rfl⟩
  have HLOK : Hid (∀ y, y ∈ LL → LOk y) := Lib.hid (by rw [← hLL]; exact add_ok HOK.out (by have := HN.out; omega) HARG.out)
  have HL4b : Hid (Lks v5 v5.heap.size D4 (n + 1) LL) := Lib.hid (by rw [← hLL]; exact lks_of_own HO4'.out (add_ok HOK.out (by have := HN.out; omega) HARG.out))
  have HL5b : Hid (Lks v5 v5.heap.size D5 (n + 1) LL) := Lib.hid (by rw [← hLL]; exact lks_of_own HO5.out (add_ok HOK.out (by have := HN.out; omega) HARG.out))
  have HOB : Hid (∀ W, Below v5.heap.size v5 W → ∃ L, W.ownsRow v3.heap.size 26 71 (.slice D4 (n + 1) d4) (n + 1) (lvs L)) := Lib.hid (fun W hW => ⟨_, own_below HO4'.out hW (Nat.le_refl _)⟩)
  have CX : Hid (Below v5.heap.size v5 v5.drew) := Lib.hid (Below.refl _ _).drew
  have HX5 : Hid (∀ W, Below v5.heap.size v5 W → LBox W w.heap.size x) := Lib.hid (fun W hW => HX.out W (P5'.out.trans (hW.mono P5'.out.size)))
  have HF5 := Lib.hid (HF3.out.below P5'.out HF3.out.lt)
  have HK5 := Lib.hid (HK3.out.below P5'.out HK3.out.lt)
  have k9 : (!eqB (hashZ x) (hashZ x)) = false := by rw [eqB_self]; rfl
  clear q1 q2 q3 q4 q5 q6 HL4 HO4 HO4' HO5 hLL P4
  refine Late.region (fun w' => Below v5.heap.size v5 w') [] (by kernel_rfl) CX.out (fun hHeld => ?_)
  refine Late.take (i := 0) (oi := ⟨some 49, Op.move (Operand.tmp 6), _, _, _, _⟩) (v := ?_) rfl (by kernel_rfl) (by kernel_rfl) (by kernel_rfl) (by kernel_rfl) (fun _ _ _ h => h) (Or.inl ⟨by rfl, fun w hSw => ?_⟩) (by assumption) ?_
  rotate_left
  · (have s1 := hSw; go_simp; try with_reducible rfl)
  try simp only [Act.put, List.setIfInBounds_toArray, List.set_cons_zero, List.set_cons_succ]
  refine Late.take (i := 1) (oi := ⟨some 50, Op.move (Operand.tmp 7), _, _, _, _⟩) (v := ?_) rfl (by kernel_rfl) (by kernel_rfl) (by kernel_rfl) (by kernel_rfl) (fun _ _ _ h => h) (Or.inl ⟨by rfl, fun w hSw => ?_⟩) (by assumption) ?_
  rotate_left
  · (have s1 := hSw; go_simp; try with_reducible rfl)
  try simp only [Act.put, List.setIfInBounds_toArray, List.set_cons_zero, List.set_cons_succ]
  refine Late.one (i := 2) (o := ⟨some 51, Op.call { callee := Callee.value (Operand.func 8), args := #[Operand.tmp 49, Operand.tmp 50], argTypes := #[22, 22] }, _, _, _, _⟩) (by kernel_rfl) rfl (fun K hK => ?_)
  go_simp
  refine (rsame_any d4 d5 (HL4b.out.grow CX.out) (HL5b.out.grow CX.out) (Nat.le_refl _) (Nat.le_refl _) hnm1).mono ?_
  rintro e v6 ⟨rfl, hb⟩
  have P6a := Lib.hid (CX.out.trans (hb.mono CX.out.size))
  clear hb
  refine hK.out _ _ (P6a.out) (fun hHeld2 => ?_)
  clear hK K hHeld
  have hHeld := hHeld2
  clear hHeld2
  try simp only [Act.put, List.setIfInBounds_toArray, List.set_cons_zero, List.set_cons_succ]
  refine Late.take (i := 3) (oi := ⟨some 52, Op.unOp UnOp.not 4 (Operand.tmp 51), _, _, _, _⟩) (v := ?_) rfl (by kernel_rfl) (by kernel_rfl) (by kernel_rfl) (by kernel_rfl) (fun _ _ _ h => h) (Or.inl ⟨by rfl, fun w hSw => ?_⟩) (by assumption) ?_
  rotate_left
  · (have s1 := hSw; go_simp; try with_reducible rfl)
  try simp only [Act.put, List.setIfInBounds_toArray, List.set_cons_zero, List.set_cons_succ]
  refine Late.take (i := 4) (oi := ⟨some 53, Op.move (Operand.tmp 52), _, _, _, _⟩) (v := ?_) rfl (by kernel_rfl) (by kernel_rfl) (by kernel_rfl) (by kernel_rfl) (fun _ _ _ h => h) (Or.inl ⟨by rfl, fun w hSw => ?_⟩) (by assumption) ?_
  rotate_left
  · (have s1 := hSw; go_simp; try with_reducible rfl)
  try simp only [Act.put, List.setIfInBounds_toArray, List.set_cons_zero, List.set_cons_succ]
  refine Late.take (i := 5) (oi := ⟨some 54, Op.load 26 (Operand.tmp 3), _, _, _, _⟩) (v := _) rfl (by kernel_rfl) (by kernel_rfl) (by kernel_rfl) (by kernel_rfl) (fun _ _ _ h => h) (yieldsIf_load_mid (by rfl) _ _ rfl _ _ rfl (lc x) _ (fun W hW => (HX5.out W hW).range) Tryd.underlying26 rfl (lk_size x)) (by assumption) ?_
  try simp only [Act.put, List.setIfInBounds_toArray, List.set_cons_zero, List.set_cons_succ]
  refine Late.take (i := 7) (oi := ⟨some 56, Op.load 26 (Operand.tmp 3), _, _, _, _⟩) (v := _) rfl (by kernel_rfl) (by kernel_rfl) (by kernel_rfl) (by kernel_rfl) (fun _ _ _ h => h) (yieldsIf_load_mid (by rfl) _ _ rfl _ _ rfl (lc x) _ (fun W hW => (HX5.out W hW).range) Tryd.underlying26 rfl (lk_size x)) (by assumption) ?_
  try simp only [Act.put, List.setIfInBounds_toArray, List.set_cons_zero, List.set_cons_succ]
  refine Late.one (i := 6) (o := ⟨some 55, Op.call { callee := Callee.value (Operand.func 9), args := #[Operand.tmp 54], argTypes := #[26] }, _, _, _, _⟩) (by kernel_rfl) rfl (fun K hK => ?_)
  go_simp
  refine (ahash_any HG.out (HF5.out.below P6a.out HF5.out.lt) (HK5.out.below P6a.out HK5.out.lt)).mono ?_
  rintro e v7 ⟨rfl, hb⟩
  have P6b := Lib.hid (P6a.out.trans (hb.mono P6a.out.size))
  clear hb
  refine hK.out _ _ (P6b.out) (fun hHeld2 => ?_)
  clear hK K hHeld
  have hHeld := hHeld2
  clear hHeld2
  try simp only [Act.put, List.setIfInBounds_toArray, List.set_cons_zero, List.set_cons_succ]
  refine Late.one (i := 8) (o := ⟨some 57, Op.call { callee := Callee.value (Operand.func 10), args := #[Operand.tmp 56], argTypes := #[26] }, _, _, _, _⟩) (by kernel_rfl) rfl (fun K hK => ?_)
  go_simp
  refine (refhash_any HG.out).mono ?_
  rintro e v8 ⟨rfl, hb⟩
  have P6c := Lib.hid (P6b.out.trans (hb.mono P6b.out.size))
  clear hb
  refine hK.out _ _ (P6c.out) (fun hHeld2 => ?_)
  clear hK K hHeld
  have hHeld := hHeld2
  clear hHeld2
  try simp only [Act.put, List.setIfInBounds_toArray, List.set_cons_zero, List.set_cons_succ]
  refine Late.take (i := 9) (oi := ⟨some 58, Op.binOp BinOp.neq 24 (Operand.tmp 55) (Operand.tmp 57) 24, _, _, _, _⟩) (v := .bool false) rfl (by kernel_rfl) (by kernel_rfl) (by kernel_rfl) (by kernel_rfl) (fun _ _ _ h => h) (Or.inl ⟨by rfl, fun w hSw => ?_⟩) (by assumption) ?_
  · (have hn := run_tagNe (hashZ x) (hashZ x) (hashZ_len x) (hashZ_len x) w; rw [show (!eqB (hashZ x) (hashZ x)) = false by assumption] at hn; simp [execOp, Act.eval, hn, run_eqGuard_agg (hm := Tryd.eqGuardType24)])
  try simp only [Act.put, List.setIfInBounds_toArray, List.set_cons_zero, List.set_cons_succ]
  refine Late.take (i := 10) (oi := ⟨some 59, Op.pick (Operand.tmp 53) (Operand.const (Value.bool true)) (Operand.tmp 58), _, _, _, _⟩) (v := ?_) rfl (by kernel_rfl) (by kernel_rfl) (by kernel_rfl) (by kernel_rfl) (fun _ _ _ h => h) (Or.inl ⟨by rfl, fun w hSw => ?_⟩) (by assumption) ?_
  rotate_left
  · (have s1 := hSw; go_simp; try with_reducible rfl)
  try simp only [Act.put, List.setIfInBounds_toArray, List.set_cons_zero, List.set_cons_succ]
  refine Late.done (by kernel_rfl) ?_ _
  refine NoPanic.normal ?_
  have HOC : Hid (∃ L, v8.ownsRow v3.heap.size 26 71 (.slice D4 (n + 1) d4) (n + 1) (lvs L)) := Lib.hid (HOB.out v8 P6c.out)
  have PV := Lib.hid (P5'.out.trans (P6c.out.mono P5'.out.size))
  clear hHeld HOB CX HX5 HF5 HK5 k9 HL4b HL5b P6a P6b P6c P5' HLOK
  go_upto_region 8 with fail
  have PA : Hid (Below v3.heap.size v3 v8.drew) := Lib.hid PV.out.drew
  have HOB : Hid (∀ W, Below v8.heap.size v8 W → ∃ L, W.ownsRow v3.heap.size 26 71 (.slice D4 (n + 1) d4) (n + 1) (lvs L)) := Lib.hid (fun W hW => by
    obtain ⟨L, hL⟩ := HOC.out
    exact ⟨L, own_below hL hW (Nat.le_refl _)⟩)
  clear HOC
  rcases Nat.eq_zero_or_pos n with h0 | h0
  · have h0I : ¬ (0 : Int) < (n : Int) := by omega
    have h0E : ((n : Int) == 0) = true := by simp; omega
    have k9 : (!eqB zT zT) = false := by rw [eqB_self]; rfl
    have h0h := Lib.hid h0
    clear h0
    refine Late.region (fun w' => Below v8.heap.size v8 w') [] (by kernel_rfl) (Below.refl _ _).drew (fun hHeld => ?_)
    refine Late.take (i := 0) (oi := ⟨some 60, Op.move (Operand.tmp 0), _, _, _, _⟩) (v := ?_) rfl (by kernel_rfl) (by kernel_rfl) (by kernel_rfl) (by kernel_rfl) (fun _ _ _ h => h) (Or.inl ⟨by rfl, fun w hSw => ?_⟩) (by assumption) ?_
    rotate_left
    · (have s1 := hSw; go_simp; try with_reducible rfl)
    try simp only [Act.put, List.setIfInBounds_toArray, List.set_cons_zero, List.set_cons_succ]
    refine Late.take (i := 1) (oi := ⟨some 61, Op.call { callee := Callee.builtin Builtin.len, args := #[Operand.tmp 60], argTypes := #[22] }, _, _, _, _⟩) (v := ?_) rfl (by kernel_rfl) (by kernel_rfl) (by kernel_rfl) (by kernel_rfl) (fun _ _ _ h => h) (Or.inl ⟨by rfl, fun w hSw => ?_⟩) (by assumption) ?_
    rotate_left
    · (have s1 := hSw; go_simp; try with_reducible rfl)
    try simp only [Act.put, List.setIfInBounds_toArray, List.set_cons_zero, List.set_cons_succ]
    refine Late.take (i := 2) (oi := ⟨some 62, Op.binOp BinOp.gtr 3 (Operand.tmp 61) (Operand.const (Value.int IntKind.i64 0)) 3, _, _, _, _⟩) (v := .bool false) rfl (by kernel_rfl) (by kernel_rfl) (by kernel_rfl) (by kernel_rfl) (fun _ _ _ h => h) (Or.inl ⟨by rfl, fun w hSw => ?_⟩) (by assumption) ?_
    · (go_simp; (try simp); (try omega))
    try simp only [Act.put, List.setIfInBounds_toArray, List.set_cons_zero, List.set_cons_succ]
    refine Late.take (i := 3) (oi := ⟨some 63, Op.move (Operand.tmp 62), _, _, _, _⟩) (v := ?_) rfl (by kernel_rfl) (by kernel_rfl) (by kernel_rfl) (by kernel_rfl) (fun _ _ _ h => h) (Or.inl ⟨by rfl, fun w hSw => ?_⟩) (by assumption) ?_
    rotate_left
    · (have s1 := hSw; go_simp; try with_reducible rfl)
    try simp only [Act.put, List.setIfInBounds_toArray, List.set_cons_zero, List.set_cons_succ]
    refine Late.take (i := 4) (oi := ⟨some 64, Op.move (Operand.tmp 5), _, _, _, _⟩) (v := undef) rfl (by kernel_rfl) (by kernel_rfl) (by kernel_rfl) (by kernel_rfl) (fun _ _ _ h => h) (Or.inr ⟨by rfl, rfl⟩) (by assumption) ?_
    try simp only [Act.put, List.setIfInBounds_toArray, List.set_cons_zero, List.set_cons_succ]
    refine Late.take (i := 5) (oi := ⟨some 65, Op.move (Operand.tmp 0), _, _, _, _⟩) (v := undef) rfl (by kernel_rfl) (by kernel_rfl) (by kernel_rfl) (by kernel_rfl) (fun _ _ _ h => h) (Or.inr ⟨by rfl, rfl⟩) (by assumption) ?_
    try simp only [Act.put, List.setIfInBounds_toArray, List.set_cons_zero, List.set_cons_succ]
    refine Late.take (i := 6) (oi := ⟨some 66, Op.call { callee := Callee.builtin Builtin.len, args := #[Operand.tmp 65], argTypes := #[22] }, _, _, _, _⟩) (v := undef) rfl (by kernel_rfl) (by kernel_rfl) (by kernel_rfl) (by kernel_rfl) (fun _ _ _ h => h) (Or.inr ⟨by rfl, rfl⟩) (by assumption) ?_
    try simp only [Act.put, List.setIfInBounds_toArray, List.set_cons_zero, List.set_cons_succ]
    refine Late.take (i := 7) (oi := ⟨some 67, Op.slice 22 (Operand.tmp 64) none (some (Operand.tmp 66)) none, _, _, _, _⟩) (v := undef) rfl (by kernel_rfl) (by kernel_rfl) (by kernel_rfl) (by kernel_rfl) (fun _ _ _ h => h) (Or.inr ⟨by rfl, rfl⟩) (by assumption) ?_
    try simp only [Act.put, List.setIfInBounds_toArray, List.set_cons_zero, List.set_cons_succ]
    refine Late.take (i := 8) (oi := ⟨some 68, Op.call { callee := Callee.value (Operand.func 11), args := #[Operand.tmp 67], argTypes := #[22] }, _, _, _, _⟩) (v := undef) rfl (by kernel_rfl) (by kernel_rfl) (by kernel_rfl) (by kernel_rfl) (fun _ _ _ h => h) (Or.inr ⟨by rfl, rfl⟩) (by assumption) ?_
    try simp only [Act.put, List.setIfInBounds_toArray, List.set_cons_zero, List.set_cons_succ]
    refine Late.take (i := 9) (oi := ⟨some 69, Op.move (Operand.tmp 0), _, _, _, _⟩) (v := undef) rfl (by kernel_rfl) (by kernel_rfl) (by kernel_rfl) (by kernel_rfl) (fun _ _ _ h => h) (Or.inr ⟨by rfl, rfl⟩) (by assumption) ?_
    try simp only [Act.put, List.setIfInBounds_toArray, List.set_cons_zero, List.set_cons_succ]
    refine Late.take (i := 10) (oi := ⟨some 70, Op.move (Operand.tmp 0), _, _, _, _⟩) (v := undef) rfl (by kernel_rfl) (by kernel_rfl) (by kernel_rfl) (by kernel_rfl) (fun _ _ _ h => h) (Or.inr ⟨by rfl, rfl⟩) (by assumption) ?_
    try simp only [Act.put, List.setIfInBounds_toArray, List.set_cons_zero, List.set_cons_succ]
    refine Late.take (i := 11) (oi := ⟨some 71, Op.call { callee := Callee.builtin Builtin.len, args := #[Operand.tmp 70], argTypes := #[22] }, _, _, _, _⟩) (v := undef) rfl (by kernel_rfl) (by kernel_rfl) (by kernel_rfl) (by kernel_rfl) (fun _ _ _ h => h) (Or.inr ⟨by rfl, rfl⟩) (by assumption) ?_
    try simp only [Act.put, List.setIfInBounds_toArray, List.set_cons_zero, List.set_cons_succ]
    refine Late.take (i := 12) (oi := ⟨some 72, Op.binOp BinOp.sub 3 (Operand.tmp 71) (Operand.const (Value.int IntKind.i64 1)) 3, _, _, _, _⟩) (v := undef) rfl (by kernel_rfl) (by kernel_rfl) (by kernel_rfl) (by kernel_rfl) (fun _ _ _ h => h) (Or.inr ⟨by rfl, rfl⟩) (by assumption) ?_
    try simp only [Act.put, List.setIfInBounds_toArray, List.set_cons_zero, List.set_cons_succ]
    refine Late.take (i := 13) (oi := ⟨some 73, Op.indexAddr 22 (Operand.tmp 69) (Operand.tmp 72), _, _, _, _⟩) (v := undef) rfl (by kernel_rfl) (by kernel_rfl) (by kernel_rfl) (by kernel_rfl) (fun _ _ _ h => h) (Or.inr ⟨by rfl, rfl⟩) (by assumption) ?_
    try simp only [Act.put, List.setIfInBounds_toArray, List.set_cons_zero, List.set_cons_succ]
    refine Late.take (i := 14) (oi := ⟨some 74, Op.fieldAddr 26 (Operand.tmp 73) 8, _, _, _, _⟩) (v := undef) rfl (by kernel_rfl) (by kernel_rfl) (by kernel_rfl) (by kernel_rfl) (fun _ _ _ h => h) (Or.inr ⟨by rfl, rfl⟩) (by assumption) ?_
    try simp only [Act.put, List.setIfInBounds_toArray, List.set_cons_zero, List.set_cons_succ]
    refine Late.take (i := 15) (oi := ⟨some 75, Op.load 24 (Operand.tmp 74), _, _, _, _⟩) (v := undef) rfl (by kernel_rfl) (by kernel_rfl) (by kernel_rfl) (by kernel_rfl) (fun _ _ _ h => h) (Or.inr ⟨by rfl, rfl⟩) (by assumption) ?_
    try simp only [Act.put, List.setIfInBounds_toArray, List.set_cons_zero, List.set_cons_succ]
    refine Late.take (i := 16) (oi := ⟨some 76, Op.binOp BinOp.neq 24 (Operand.tmp 68) (Operand.tmp 75) 24, _, _, _, _⟩) (v := undef) rfl (by kernel_rfl) (by kernel_rfl) (by kernel_rfl) (by kernel_rfl) (fun _ _ _ h => h) (Or.inr ⟨by rfl, rfl⟩) (by assumption) ?_
    try simp only [Act.put, List.setIfInBounds_toArray, List.set_cons_zero, List.set_cons_succ]
    refine Late.take (i := 17) (oi := ⟨some 77, Op.pick (Operand.tmp 63) (Operand.tmp 76) (Operand.const (Value.bool false)), _, _, _, _⟩) (v := ?_) rfl (by kernel_rfl) (by kernel_rfl) (by kernel_rfl) (by kernel_rfl) (fun _ _ _ h => h) (Or.inl ⟨by rfl, fun w hSw => ?_⟩) (by assumption) ?_
    rotate_left
    · (have s1 := hSw; go_simp; try with_reducible rfl)
    try simp only [Act.put, List.setIfInBounds_toArray, List.set_cons_zero, List.set_cons_succ]
    refine Late.take (i := 18) (oi := ⟨some 78, Op.move (Operand.tmp 77), _, _, _, _⟩) (v := ?_) rfl (by kernel_rfl) (by kernel_rfl) (by kernel_rfl) (by kernel_rfl) (fun _ _ _ h => h) (Or.inl ⟨by rfl, fun w hSw => ?_⟩) (by assumption) ?_
    rotate_left
    · (have s1 := hSw; go_simp; try with_reducible rfl)
    try simp only [Act.put, List.setIfInBounds_toArray, List.set_cons_zero, List.set_cons_succ]
    refine Late.take (i := 19) (oi := ⟨some 79, Op.move (Operand.tmp 0), _, _, _, _⟩) (v := ?_) rfl (by kernel_rfl) (by kernel_rfl) (by kernel_rfl) (by kernel_rfl) (fun _ _ _ h => h) (Or.inl ⟨by rfl, fun w hSw => ?_⟩) (by assumption) ?_
    rotate_left
    · (have s1 := hSw; go_simp; try with_reducible rfl)
    try simp only [Act.put, List.setIfInBounds_toArray, List.set_cons_zero, List.set_cons_succ]
    refine Late.take (i := 20) (oi := ⟨some 80, Op.call { callee := Callee.builtin Builtin.len, args := #[Operand.tmp 79], argTypes := #[22] }, _, _, _, _⟩) (v := ?_) rfl (by kernel_rfl) (by kernel_rfl) (by kernel_rfl) (by kernel_rfl) (fun _ _ _ h => h) (Or.inl ⟨by rfl, fun w hSw => ?_⟩) (by assumption) ?_
    rotate_left
    · (have s1 := hSw; go_simp; try with_reducible rfl)
    try simp only [Act.put, List.setIfInBounds_toArray, List.set_cons_zero, List.set_cons_succ]
    refine Late.take (i := 21) (oi := ⟨some 81, Op.binOp BinOp.eql 3 (Operand.tmp 80) (Operand.const (Value.int IntKind.i64 0)) 3, _, _, _, _⟩) (v := .bool true) rfl (by kernel_rfl) (by kernel_rfl) (by kernel_rfl) (by kernel_rfl) (fun _ _ _ h => h) (Or.inl ⟨by rfl, fun w hSw => ?_⟩) (by assumption) ?_
    · (go_simp; (try simp); (try omega))
    try simp only [Act.put, List.setIfInBounds_toArray, List.set_cons_zero, List.set_cons_succ]
    refine Late.take (i := 22) (oi := ⟨some 82, Op.move (Operand.tmp 81), _, _, _, _⟩) (v := ?_) rfl (by kernel_rfl) (by kernel_rfl) (by kernel_rfl) (by kernel_rfl) (fun _ _ _ h => h) (Or.inl ⟨by rfl, fun w hSw => ?_⟩) (by assumption) ?_
    rotate_left
    · (have s1 := hSw; go_simp; try with_reducible rfl)
    try simp only [Act.put, List.setIfInBounds_toArray, List.set_cons_zero, List.set_cons_succ]
    refine Late.take (i := 24) (oi := ⟨some 84, Op.build 24 #[], _, _, _, _⟩) (v := .agg (vals zT).toArray) rfl (by kernel_rfl) (by kernel_rfl) (by kernel_rfl) (by kernel_rfl) (fun _ _ _ h => h) (Or.inl ⟨by rfl, fun w hSw => ?_⟩) (by assumption) ?_
    · (kernel_rfl)
    try simp only [Act.put, List.setIfInBounds_toArray, List.set_cons_zero, List.set_cons_succ]
    refine Late.one (i := 23) (o := ⟨some 83, Op.call { callee := Callee.value (Operand.func 11), args := #[Operand.const (Value.slice none 0 0)], argTypes := #[22] }, _, _, _, _⟩) (by kernel_rfl) rfl (fun K hK => ?_)
    go_simp
    refine (head_val 0 zT (Lks.nil (A := none) (B := 0)) rfl (Nat.zero_le _) (by simp [maxLen])).mono ?_
    rintro e v9 ⟨rfl, hb⟩
    have P8 := Lib.hid (PA.out.trans (hb.mono PA.out.size))
    have P88 := Lib.hid (Below.trans (Below.refl v8.heap.size v8).drew (hb.mono (Nat.le_refl _)))
    clear hb
    refine hK.out _ _ (P88.out) (fun hHeld2 => ?_)
    clear hK K hHeld
    have hHeld := hHeld2
    clear hHeld2
    try simp only [Act.put, List.setIfInBounds_toArray, List.set_cons_zero, List.set_cons_succ]
    refine Late.take (i := 25) (oi := ⟨some 85, Op.binOp BinOp.neq 24 (Operand.tmp 83) (Operand.tmp 84) 24, _, _, _, _⟩) (v := .bool false) rfl (by kernel_rfl) (by kernel_rfl) (by kernel_rfl) (by kernel_rfl) (fun _ _ _ h => h) (Or.inl ⟨by rfl, fun w hSw => ?_⟩) (by assumption) ?_
    · (have hn := run_tagNe zT zT zT_len zT_len w; rw [show (!eqB zT zT) = false by assumption] at hn; simp [execOp, Act.eval, hn, run_eqGuard_agg (hm := Tryd.eqGuardType24)])
    try simp only [Act.put, List.setIfInBounds_toArray, List.set_cons_zero, List.set_cons_succ]
    refine Late.take (i := 26) (oi := ⟨some 86, Op.pick (Operand.tmp 82) (Operand.tmp 85) (Operand.const (Value.bool false)), _, _, _, _⟩) (v := ?_) rfl (by kernel_rfl) (by kernel_rfl) (by kernel_rfl) (by kernel_rfl) (fun _ _ _ h => h) (Or.inl ⟨by rfl, fun w hSw => ?_⟩) (by assumption) ?_
    rotate_left
    · (have s1 := hSw; go_simp; try with_reducible rfl)
    try simp only [Act.put, List.setIfInBounds_toArray, List.set_cons_zero, List.set_cons_succ]
    refine Late.take (i := 27) (oi := ⟨some 87, Op.pick (Operand.tmp 78) (Operand.const (Value.bool true)) (Operand.tmp 86), _, _, _, _⟩) (v := ?_) rfl (by kernel_rfl) (by kernel_rfl) (by kernel_rfl) (by kernel_rfl) (fun _ _ _ h => h) (Or.inl ⟨by rfl, fun w hSw => ?_⟩) (by assumption) ?_
    rotate_left
    · (have s1 := hSw; go_simp; try with_reducible rfl)
    try simp only [Act.put, List.setIfInBounds_toArray, List.set_cons_zero, List.set_cons_succ]
    refine Late.done (by kernel_rfl) ?_ _
    refine NoPanic.normal ?_
    have PB := Lib.hid (P8.out)
    clear hHeld PA h0I h0E
    go_wp2
    go_loopw [8] (fun i wr => ∃ k : Nat, k ≤ n + 1 ∧ i = .int .i64 k ∧ Hid (∃ L, wr.ownsRow v3.heap.size 26 71 (.slice D4 (n + 1) d4) (n + 1) (lvs L)) ∧ Hid (Below v3.heap.size v3 wr)) (fun i _ => n + 1 - (intOf i).toNat)
    case atStart => exact ⟨0, by omega, rfl, HOB.out v9 P88.out, PB⟩
    case round =>
      obtain ⟨k, hk, rfl, HOW, HBW⟩ := hrel
      by_cases hlt : k < n + 1
      · obtain ⟨L, how⟩ := HOW.out
        have hLl : L.length = n + 1 := by have := how.1; rw [lvs_len] at this; omega
        obtain ⟨g4, cap4, hv4, hgb4, hgl4⟩ := how.form (by omega)
        injection hv4 with e1 e2 e3
        subst e1 e3
        have hgk : L[k]? = some L[k] := List.getElem?_eq_getElem (by omega)
        have c0 : wr.cell? ⟨g4, k * 71, none⟩ = some (.int .i64 (L[k]).n) := by
          have := how.cells (g := g4) rfl (k * 71) _ (by have := lvs_at L k _ hgk 0 (by omega); exact this)
          rwa [Go.WideShapes.add_plain, Nat.zero_add] at this
        have f0 : wr.frozen? ⟨g4, k * 71, none⟩ = false := how.frozenAt (k * 71)
        have HO2 : Hid (∃ L, (wr.setCell ⟨g4, k * 71, none⟩ (.int .i64 (-9))).ownsRow v3.heap.size 26 71 (.slice (some ⟨g4, 0, none⟩) (n + 1) d4) (n + 1) (lvs L)) := Lib.hid ⟨L.set k { L[k] with n := -9 }, by
          have hst := (how.stored (k * 71) (.int .i64 (-9))).1
          have hs := lvs_set L k L[k] { L[k] with n := -9 } 0 (.int .i64 (-9)) hgk (by omega) rfl
          rw [Nat.add_zero] at hs
          rw [hs] at hst
          exact hst⟩
        have HB2 : Hid (Below v3.heap.size v3 (wr.setCell ⟨g4, k * 71, none⟩ (.int .i64 (-9)))) := Lib.hid (HBW.out.setCell (by show v3.heap.size ≤ g4; exact hgb4) _)
        generalize (L[k]).n = m0 at *
        have hlI : (k : Int) < (n : Int) + 1 := by omega
        have hn1 : ((n + 1 : Nat) : Int) = (n : Int) + 1 := by omega
        clear how hgk hLl hgb4 hgl4 HOW HBW
        go_wp2
        go_roundw
        case rel => exact ⟨k + 1, by omega, by go_num, HO2, HB2⟩
        case measure => simp [intOf]; omega
      · have hkn : k = n + 1 := by omega
        have hge : ¬ (k : Int) < (n : Int) + 1 := by omega
        have HBF := HBW
        have Q0 : Hid (wr.cell? ⟨g3, n * 71, none⟩ = some (.int .i64 (-7))) := Lib.hid (H7.out wr HBF.out)
        obtain ⟨V, hV⟩ : ∃ V, wr = V := ⟨_, rfl⟩
        rw [hV] at HBF Q0
        rw [hV]
        clear HOW HBW hV hkn hlt
        have G1 := HN
        have G2 := HN
        have hnI : (n : Int) < (n : Int) + 1 := by omega
        go_wp2_with (first
          | (have g := G1; clear g; go_at_call 8; refine (rsame_any d3 c (HIN.out V HBF.out) (HA.out V HBF.out) HBF.out.size (Nat.le_trans HB3.out.size HBF.out.size) hnm).mono ?_; rintro e y1 ⟨rfl, hb⟩; have R1 := Lib.hid (HBF.out.trans (hb.mono HBF.out.size)); have m7 := H7.out y1 R1.out; clear hb G1)
          | (have g := G2; clear g; go_at_call 12; refine (auawake_any y1 (HF3.out.below R1.out HF3.out.lt) (HK3.out.below R1.out HK3.out.lt)).mono ?_; rintro e y2 ⟨rfl, hb⟩; have R2 := Lib.hid (R1.out.trans (hb.mono R1.out.size)); clear hb G2))
        go_ret
        exact ⟨rfl, HB3.out.trans (R2.out.mono HB3.out.size)⟩
  · obtain ⟨k, hk⟩ : ∃ k, n = k + 1 := ⟨n - 1, by omega⟩
    obtain ⟨TT, hTT⟩ : ∃ T, headZ l = T := ⟨_, rfl⟩
    have LTT : Hid (TT.length = 32) := Lib.hid (by rw [← hTT]; exact headZ_len _)
    have HHD := Lib.hid hTT
    obtain ⟨b, off, y, hAA, hbb, HY, _, hr⟩ := (HA.out v3 (Below.refl _ _)).at_ (k := k) (by omega)
    have HTT : Hid (∀ W, Below v3.heap.size v3 W → W.rangeAt b (off + k * 71 + 39) (vals TT)) := Lib.hid (fun W hW => by
      rw [← hTT, headZ_last l y (by rw [HN.out, hk, Nat.add_sub_cancel]; exact HY.out)]
      exact range_S (rangeAt_same hr (hW.block _ (Nat.lt_of_lt_of_le hbb HB3.out.size))))
    subst hAA
    have k9 : (!eqB TT TT) = false := by rw [eqB_self]; rfl
    have e1 : (n : Int) - 1 = (k : Int) := by omega
    have gk : IntKind.i64.wrap (k : Int) = (k : Int) := by rw [IntKind.wrap_i64]; omega
    have h0I : 0 < n := by omega
    have h0E := h0I
    have hkI : (k : Int) < (n : Int) := by omega
    have hk0 : (0 : Int) ≤ (k : Int) := by omega
    have hkh := Lib.hid hk
    clear hr hTT hk h0
    refine Late.region (fun w' => Below v8.heap.size v8 w') [] (by kernel_rfl) (Below.refl _ _).drew (fun hHeld => ?_)
    refine Late.take (i := 0) (oi := ⟨some 60, Op.move (Operand.tmp 0), _, _, _, _⟩) (v := ?_) rfl (by kernel_rfl) (by kernel_rfl) (by kernel_rfl) (by kernel_rfl) (fun _ _ _ h => h) (Or.inl ⟨by rfl, fun w hSw => ?_⟩) (by assumption) ?_
    rotate_left
    · (have s1 := hSw; go_simp; try with_reducible rfl)
    try simp only [Act.put, List.setIfInBounds_toArray, List.set_cons_zero, List.set_cons_succ]
    refine Late.take (i := 1) (oi := ⟨some 61, Op.call { callee := Callee.builtin Builtin.len, args := #[Operand.tmp 60], argTypes := #[22] }, _, _, _, _⟩) (v := ?_) rfl (by kernel_rfl) (by kernel_rfl) (by kernel_rfl) (by kernel_rfl) (fun _ _ _ h => h) (Or.inl ⟨by rfl, fun w hSw => ?_⟩) (by assumption) ?_
    rotate_left
    · (have s1 := hSw; go_simp; try with_reducible rfl)
    try simp only [Act.put, List.setIfInBounds_toArray, List.set_cons_zero, List.set_cons_succ]
    refine Late.take (i := 2) (oi := ⟨some 62, Op.binOp BinOp.gtr 3 (Operand.tmp 61) (Operand.const (Value.int IntKind.i64 0)) 3, _, _, _, _⟩) (v := .bool true) rfl (by kernel_rfl) (by kernel_rfl) (by kernel_rfl) (by kernel_rfl) (fun _ _ _ h => h) (Or.inl ⟨by rfl, fun w hSw => ?_⟩) (by assumption) ?_
    · (go_simp; (try simp); (try omega))
    try simp only [Act.put, List.setIfInBounds_toArray, List.set_cons_zero, List.set_cons_succ]
    refine Late.take (i := 3) (oi := ⟨some 63, Op.move (Operand.tmp 62), _, _, _, _⟩) (v := ?_) rfl (by kernel_rfl) (by kernel_rfl) (by kernel_rfl) (by kernel_rfl) (fun _ _ _ h => h) (Or.inl ⟨by rfl, fun w hSw => ?_⟩) (by assumption) ?_
    rotate_left
    · (have s1 := hSw; go_simp; try with_reducible rfl)
    try simp only [Act.put, List.setIfInBounds_toArray, List.set_cons_zero, List.set_cons_succ]
    refine Late.take (i := 4) (oi := ⟨some 64, Op.move (Operand.tmp 5), _, _, _, _⟩) (v := ?_) rfl (by kernel_rfl) (by kernel_rfl) (by kernel_rfl) (by kernel_rfl) (fun _ _ _ h => h) (Or.inl ⟨by rfl, fun w hSw => ?_⟩) (by assumption) ?_
    rotate_left
    · (have s1 := hSw; go_simp; try with_reducible rfl)
    try simp only [Act.put, List.setIfInBounds_toArray, List.set_cons_zero, List.set_cons_succ]
    refine Late.take (i := 5) (oi := ⟨some 65, Op.move (Operand.tmp 0), _, _, _, _⟩) (v := ?_) rfl (by kernel_rfl) (by kernel_rfl) (by kernel_rfl) (by kernel_rfl) (fun _ _ _ h => h) (Or.inl ⟨by rfl, fun w hSw => ?_⟩) (by assumption) ?_
    rotate_left
    · (have s1 := hSw; go_simp; try with_reducible rfl)
    try simp only [Act.put, List.setIfInBounds_toArray, List.set_cons_zero, List.set_cons_succ]
    refine Late.take (i := 6) (oi := ⟨some 66, Op.call { callee := Callee.builtin Builtin.len, args := #[Operand.tmp 65], argTypes := #[22] }, _, _, _, _⟩) (v := ?_) rfl (by kernel_rfl) (by kernel_rfl) (by kernel_rfl) (by kernel_rfl) (fun _ _ _ h => h) (Or.inl ⟨by rfl, fun w hSw => ?_⟩) (by assumption) ?_
    rotate_left
    · (have s1 := hSw; go_simp; try with_reducible rfl)
    try simp only [Act.put, List.setIfInBounds_toArray, List.set_cons_zero, List.set_cons_succ]
    refine Late.take (i := 7) (oi := ⟨some 67, Op.slice 22 (Operand.tmp 64) none (some (Operand.tmp 66)) none, _, _, _, _⟩) (v := ?_) rfl (by kernel_rfl) (by kernel_rfl) (by kernel_rfl) (by kernel_rfl) (fun _ _ _ h => h) (Or.inl ⟨by rfl, fun w hSw => ?_⟩) (by assumption) ?_
    rotate_left
    · (have s1 := hSw; go_simp; try with_reducible rfl)
    try simp only [Act.put, List.setIfInBounds_toArray, List.set_cons_zero, List.set_cons_succ]
    refine Late.take (i := 9) (oi := ⟨some 69, Op.move (Operand.tmp 0), _, _, _, _⟩) (v := ?_) rfl (by kernel_rfl) (by kernel_rfl) (by kernel_rfl) (by kernel_rfl) (fun _ _ _ h => h) (Or.inl ⟨by rfl, fun w hSw => ?_⟩) (by assumption) ?_
    rotate_left
    · (have s1 := hSw; go_simp; try with_reducible rfl)
    try simp only [Act.put, List.setIfInBounds_toArray, List.set_cons_zero, List.set_cons_succ]
    refine Late.take (i := 10) (oi := ⟨some 70, Op.move (Operand.tmp 0), _, _, _, _⟩) (v := ?_) rfl (by kernel_rfl) (by kernel_rfl) (by kernel_rfl) (by kernel_rfl) (fun _ _ _ h => h) (Or.inl ⟨by rfl, fun w hSw => ?_⟩) (by assumption) ?_
    rotate_left
    · (have s1 := hSw; go_simp; try with_reducible rfl)
    try simp only [Act.put, List.setIfInBounds_toArray, List.set_cons_zero, List.set_cons_succ]
    refine Late.take (i := 11) (oi := ⟨some 71, Op.call { callee := Callee.builtin Builtin.len, args := #[Operand.tmp 70], argTypes := #[22] }, _, _, _, _⟩) (v := ?_) rfl (by kernel_rfl) (by kernel_rfl) (by kernel_rfl) (by kernel_rfl) (fun _ _ _ h => h) (Or.inl ⟨by rfl, fun w hSw => ?_⟩) (by assumption) ?_
    rotate_left
    · (have s1 := hSw; go_simp; try with_reducible rfl)
    try simp only [Act.put, List.setIfInBounds_toArray, List.set_cons_zero, List.set_cons_succ]
    refine Late.take (i := 12) (oi := ⟨some 72, Op.binOp BinOp.sub 3 (Operand.tmp 71) (Operand.const (Value.int IntKind.i64 1)) 3, _, _, _, _⟩) (v := ?_) rfl (by kernel_rfl) (by kernel_rfl) (by kernel_rfl) (by kernel_rfl) (fun _ _ _ h => h) (Or.inl ⟨by rfl, fun w hSw => ?_⟩) (by assumption) ?_
    rotate_left
    · (have s1 := hSw; go_simp; try with_reducible rfl)
    try simp only [Act.put, List.setIfInBounds_toArray, List.set_cons_zero, List.set_cons_succ]
    refine Late.take (i := 13) (oi := ⟨some 73, Op.indexAddr 22 (Operand.tmp 69) (Operand.tmp 72), _, _, _, _⟩) (v := ?_) rfl (by kernel_rfl) (by kernel_rfl) (by kernel_rfl) (by kernel_rfl) (fun _ _ _ h => h) (Or.inl ⟨by rfl, fun w hSw => ?_⟩) (by assumption) ?_
    rotate_left
    · (have s1 := hSw; go_simp; try with_reducible rfl)
    try simp only [Act.put, List.setIfInBounds_toArray, List.set_cons_zero, List.set_cons_succ]
    refine Late.take (i := 14) (oi := ⟨some 74, Op.fieldAddr 26 (Operand.tmp 73) 8, _, _, _, _⟩) (v := ?_) rfl (by kernel_rfl) (by kernel_rfl) (by kernel_rfl) (by kernel_rfl) (fun _ _ _ h => h) (Or.inl ⟨by rfl, fun w hSw => ?_⟩) (by assumption) ?_
    rotate_left
    · (have s1 := hSw; go_simp; try with_reducible rfl)
    try simp only [Act.put, List.setIfInBounds_toArray, List.set_cons_zero, List.set_cons_succ]
    refine Late.take (i := 15) (oi := ⟨some 75, Op.load 24 (Operand.tmp 74), _, _, _, _⟩) (v := _) rfl (by kernel_rfl) (by kernel_rfl) (by kernel_rfl) (by kernel_rfl) (fun _ _ _ h => h) (yieldsIf_load_mid (by rfl) _ _ rfl _ _ rfl (vals TT) _ (fun W hW => HTT.out W (PV.out.trans (hW.mono PV.out.size))) Tryd.underlying24 rfl (tag_size TT LTT.out)) (by assumption) ?_
    try simp only [Act.put, List.setIfInBounds_toArray, List.set_cons_zero, List.set_cons_succ]
    refine Late.one (i := 8) (o := ⟨some 68, Op.call { callee := Callee.value (Operand.func 11), args := #[Operand.tmp 67], argTypes := #[22] }, _, _, _, _⟩) (by kernel_rfl) rfl (fun K hK => ?_)
    go_simp
    refine (head_val d3 TT (HIN.out _ PA.out) HHD.out PA.out.size hnm).mono ?_
    rintro e v9 ⟨rfl, hb⟩
    have P8 := Lib.hid (PA.out.trans (hb.mono PA.out.size))
    have P88 := Lib.hid (Below.trans (Below.refl v8.heap.size v8).drew (hb.mono (Nat.le_refl _)))
    clear hb
    refine hK.out _ _ (P88.out) (fun hHeld2 => ?_)
    clear hK K hHeld
    have hHeld := hHeld2
    clear hHeld2
    try simp only [Act.put, List.setIfInBounds_toArray, List.set_cons_zero, List.set_cons_succ]
    refine Late.take (i := 16) (oi := ⟨some 76, Op.binOp BinOp.neq 24 (Operand.tmp 68) (Operand.tmp 75) 24, _, _, _, _⟩) (v := .bool false) rfl (by kernel_rfl) (by kernel_rfl) (by kernel_rfl) (by kernel_rfl) (fun _ _ _ h => h) (Or.inl ⟨by rfl, fun w hSw => ?_⟩) (by assumption) ?_
    · (have hn := run_tagNe TT TT LTT.out LTT.out w; rw [show (!eqB TT TT) = false by assumption] at hn; simp [execOp, Act.eval, hn, run_eqGuard_agg (hm := Tryd.eqGuardType24)])
    try simp only [Act.put, List.setIfInBounds_toArray, List.set_cons_zero, List.set_cons_succ]
    refine Late.take (i := 17) (oi := ⟨some 77, Op.pick (Operand.tmp 63) (Operand.tmp 76) (Operand.const (Value.bool false)), _, _, _, _⟩) (v := ?_) rfl (by kernel_rfl) (by kernel_rfl) (by kernel_rfl) (by kernel_rfl) (fun _ _ _ h => h) (Or.inl ⟨by rfl, fun w hSw => ?_⟩) (by assumption) ?_
    rotate_left
    · (have s1 := hSw; go_simp; try with_reducible rfl)
    try simp only [Act.put, List.setIfInBounds_toArray, List.set_cons_zero, List.set_cons_succ]
    refine Late.take (i := 18) (oi := ⟨some 78, Op.move (Operand.tmp 77), _, _, _, _⟩) (v := ?_) rfl (by kernel_rfl) (by kernel_rfl) (by kernel_rfl) (by kernel_rfl) (fun _ _ _ h => h) (Or.inl ⟨by rfl, fun w hSw => ?_⟩) (by assumption) ?_
    rotate_left
    · (have s1 := hSw; go_simp; try with_reducible rfl)
    try simp only [Act.put, List.setIfInBounds_toArray, List.set_cons_zero, List.set_cons_succ]
    refine Late.take (i := 19) (oi := ⟨some 79, Op.move (Operand.tmp 0), _, _, _, _⟩) (v := ?_) rfl (by kernel_rfl) (by kernel_rfl) (by kernel_rfl) (by kernel_rfl) (fun _ _ _ h => h) (Or.inl ⟨by rfl, fun w hSw => ?_⟩) (by assumption) ?_
    rotate_left
    · (have s1 := hSw; go_simp; try with_reducible rfl)
    try simp only [Act.put, List.setIfInBounds_toArray, List.set_cons_zero, List.set_cons_succ]
    refine Late.take (i := 20) (oi := ⟨some 80, Op.call { callee := Callee.builtin Builtin.len, args := #[Operand.tmp 79], argTypes := #[22] }, _, _, _, _⟩) (v := ?_) rfl (by kernel_rfl) (by kernel_rfl) (by kernel_rfl) (by kernel_rfl) (fun _ _ _ h => h) (Or.inl ⟨by rfl, fun w hSw => ?_⟩) (by assumption) ?_
    rotate_left
    · (have s1 := hSw; go_simp; try with_reducible rfl)
    try simp only [Act.put, List.setIfInBounds_toArray, List.set_cons_zero, List.set_cons_succ]
    refine Late.take (i := 21) (oi := ⟨some 81, Op.binOp BinOp.eql 3 (Operand.tmp 80) (Operand.const (Value.int IntKind.i64 0)) 3, _, _, _, _⟩) (v := .bool false) rfl (by kernel_rfl) (by kernel_rfl) (by kernel_rfl) (by kernel_rfl) (fun _ _ _ h => h) (Or.inl ⟨by rfl, fun w hSw => ?_⟩) (by assumption) ?_
    · (go_simp; (try simp); (try omega))
    try simp only [Act.put, List.setIfInBounds_toArray, List.set_cons_zero, List.set_cons_succ]
    refine Late.take (i := 22) (oi := ⟨some 82, Op.move (Operand.tmp 81), _, _, _, _⟩) (v := ?_) rfl (by kernel_rfl) (by kernel_rfl) (by kernel_rfl) (by kernel_rfl) (fun _ _ _ h => h) (Or.inl ⟨by rfl, fun w hSw => ?_⟩) (by assumption) ?_
    rotate_left
    · (have s1 := hSw; go_simp; try with_reducible rfl)
    try simp only [Act.put, List.setIfInBounds_toArray, List.set_cons_zero, List.set_cons_succ]
    refine Late.take (i := 23) (oi := ⟨some 83, Op.call { callee := Callee.value (Operand.func 11), args := #[Operand.const (Value.slice none 0 0)], argTypes := #[22] }, _, _, _, _⟩) (v := undef) rfl (by kernel_rfl) (by kernel_rfl) (by kernel_rfl) (by kernel_rfl) (fun _ _ _ h => h) (Or.inr ⟨by rfl, rfl⟩) (by assumption) ?_
    try simp only [Act.put, List.setIfInBounds_toArray, List.set_cons_zero, List.set_cons_succ]
    refine Late.take (i := 24) (oi := ⟨some 84, Op.build 24 #[], _, _, _, _⟩) (v := undef) rfl (by kernel_rfl) (by kernel_rfl) (by kernel_rfl) (by kernel_rfl) (fun _ _ _ h => h) (Or.inr ⟨by rfl, rfl⟩) (by assumption) ?_
    try simp only [Act.put, List.setIfInBounds_toArray, List.set_cons_zero, List.set_cons_succ]
    refine Late.take (i := 25) (oi := ⟨some 85, Op.binOp BinOp.neq 24 (Operand.tmp 83) (Operand.tmp 84) 24, _, _, _, _⟩) (v := undef) rfl (by kernel_rfl) (by kernel_rfl) (by kernel_rfl) (by kernel_rfl) (fun _ _ _ h => h) (Or.inr ⟨by rfl, rfl⟩) (by assumption) ?_
    try simp only [Act.put, List.setIfInBounds_toArray, List.set_cons_zero, List.set_cons_succ]
    refine Late.take (i := 26) (oi := ⟨some 86, Op.pick (Operand.tmp 82) (Operand.tmp 85) (Operand.const (Value.bool false)), _, _, _, _⟩) (v := ?_) rfl (by kernel_rfl) (by kernel_rfl) (by kernel_rfl) (by kernel_rfl) (fun _ _ _ h => h) (Or.inl ⟨by rfl, fun w hSw => ?_⟩) (by assumption) ?_
    rotate_left
    · (have s1 := hSw; go_simp; try with_reducible rfl)
    try simp only [Act.put, List.setIfInBounds_toArray, List.set_cons_zero, List.set_cons_succ]
    refine Late.take (i := 27) (oi := ⟨some 87, Op.pick (Operand.tmp 78) (Operand.const (Value.bool true)) (Operand.tmp 86), _, _, _, _⟩) (v := ?_) rfl (by kernel_rfl) (by kernel_rfl) (by kernel_rfl) (by kernel_rfl) (fun _ _ _ h => h) (Or.inl ⟨by rfl, fun w hSw => ?_⟩) (by assumption) ?_
    rotate_left
    · (have s1 := hSw; go_simp; try with_reducible rfl)
    try simp only [Act.put, List.setIfInBounds_toArray, List.set_cons_zero, List.set_cons_succ]
    refine Late.done (by kernel_rfl) ?_ _
    refine NoPanic.normal ?_
    have PB := Lib.hid (P8.out)
    clear hHeld PA h0I h0E
    go_wp2
    go_loopw [8] (fun i wr => ∃ k : Nat, k ≤ n + 1 ∧ i = .int .i64 k ∧ Hid (∃ L, wr.ownsRow v3.heap.size 26 71 (.slice D4 (n + 1) d4) (n + 1) (lvs L)) ∧ Hid (Below v3.heap.size v3 wr)) (fun i _ => n + 1 - (intOf i).toNat)
    case atStart => exact ⟨0, by omega, rfl, HOB.out v9 P88.out, PB⟩
    case round =>
      obtain ⟨k, hk, rfl, HOW, HBW⟩ := hrel
      by_cases hlt : k < n + 1
      · obtain ⟨L, how⟩ := HOW.out
        have hLl : L.length = n + 1 := by have := how.1; rw [lvs_len] at this; omega
        obtain ⟨g4, cap4, hv4, hgb4, hgl4⟩ := how.form (by omega)
        injection hv4 with e1 e2 e3
        subst e1 e3
        have hgk : L[k]? = some L[k] := List.getElem?_eq_getElem (by omega)
        have c0 : wr.cell? ⟨g4, k * 71, none⟩ = some (.int .i64 (L[k]).n) := by
          have := how.cells (g := g4) rfl (k * 71) _ (by have := lvs_at L k _ hgk 0 (by omega); exact this)
          rwa [Go.WideShapes.add_plain, Nat.zero_add] at this
        have f0 : wr.frozen? ⟨g4, k * 71, none⟩ = false := how.frozenAt (k * 71)
        have HO2 : Hid (∃ L, (wr.setCell ⟨g4, k * 71, none⟩ (.int .i64 (-9))).ownsRow v3.heap.size 26 71 (.slice (some ⟨g4, 0, none⟩) (n + 1) d4) (n + 1) (lvs L)) := Lib.hid ⟨L.set k { L[k] with n := -9 }, by
          have hst := (how.stored (k * 71) (.int .i64 (-9))).1
          have hs := lvs_set L k L[k] { L[k] with n := -9 } 0 (.int .i64 (-9)) hgk (by omega) rfl
          rw [Nat.add_zero] at hs
          rw [hs] at hst
          exact hst⟩
        have HB2 : Hid (Below v3.heap.size v3 (wr.setCell ⟨g4, k * 71, none⟩ (.int .i64 (-9)))) := Lib.hid (HBW.out.setCell (by show v3.heap.size ≤ g4; exact hgb4) _)
        generalize (L[k]).n = m0 at *
        have hlI : (k : Int) < (n : Int) + 1 := by omega
        have hn1 : ((n + 1 : Nat) : Int) = (n : Int) + 1 := by omega
        clear how hgk hLl hgb4 hgl4 HOW HBW
        go_wp2
        go_roundw
        case rel => exact ⟨k + 1, by omega, by go_num, HO2, HB2⟩
        case measure => simp [intOf]; omega
      · have hkn : k = n + 1 := by omega
        have hge : ¬ (k : Int) < (n : Int) + 1 := by omega
        have HBF := HBW
        have Q0 : Hid (wr.cell? ⟨g3, n * 71, none⟩ = some (.int .i64 (-7))) := Lib.hid (H7.out wr HBF.out)
        obtain ⟨V, hV⟩ : ∃ V, wr = V := ⟨_, rfl⟩
        rw [hV] at HBF Q0
        rw [hV]
        clear HOW HBW hV hkn hlt
        have G1 := HN
        have G2 := HN
        have hnI : (n : Int) < (n : Int) + 1 := by omega
        go_wp2_with (first
          | (have g := G1; clear g; go_at_call 8; refine (rsame_any d3 c (HIN.out V HBF.out) (HA.out V HBF.out) HBF.out.size (Nat.le_trans HB3.out.size HBF.out.size) hnm).mono ?_; rintro e y1 ⟨rfl, hb⟩; have R1 := Lib.hid (HBF.out.trans (hb.mono HBF.out.size)); have m7 := H7.out y1 R1.out; clear hb G1)
          | (have g := G2; clear g; go_at_call 12; refine (auawake_any y1 (HF3.out.below R1.out HF3.out.lt) (HK3.out.below R1.out HK3.out.lt)).mono ?_; rintro e y2 ⟨rfl, hb⟩; have R2 := Lib.hid (R1.out.trans (hb.mono R1.out.size)); clear hb G2))
        go_ret
        exact ⟨rfl, HB3.out.trans (R2.out.mono HB3.out.size)⟩
end Go.Proofs.YtkaojhcmdichfaaDoor
