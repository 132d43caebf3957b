/- Note: the table that a note makes. -/
import Derived.Test.YtlapdocikhjkcaaRpN
namespace Go.Proofs.Ytlapdocikhjkcaa
open Go.ChangeShapes Go.WideShapes Go.ChangeAt Go.RowKit
set_option linter.unusedVariables false
set_option linter.unusedSimpArgs false
open Plain Sha Au Rp
set_option maxRecDepth 100000 in
set_option maxHeartbeats 8000000 in
theorem note_ok {w : World} {B n : Nat} {A : Option Addr} {l : List LX} {r : RX} (c : Nat) (t id : Int) (x : LX) (h : Las w B A n l) (hB : B ≤ w.heap.size) (hr : ROk w B r) (hn : n ≤ 9223372036854775807) (hnc : n ≤ c) (hcm : c ≤ maxLen) (hm : mayG LX.c LX.id l = true) (hk : askB t id = true) (hx : lastX l t = x) (hs : ¬ id ≤ x.id) (hkn : ∀ y, y ∈ l → y.r.kn ≤ 100000) (hrn : r.kn ≤ 100000) :
    Calls Try.prog 20 #[.slice A n c, .int .i64 t, .int .i64 id, .agg (rc r).toArray] w (NoteOk w (insG LX.c ⟨t, id, r⟩ l)) := by
  obtain ⟨W1, hW1⟩ : ∃ W, W = ((w.alloc (.cells #[.slice A n c] 24)).alloc (.cells #[.int .i64 t] 3)).alloc (.cells (rc r).toArray 33) := ⟨_, rfl⟩
  have b1 := Lib.hid (show Below w.heap.size w W1 by rw [hW1]; exact (((Below.refl _ _).alloc (Nat.le_refl _) _).alloc (by simp) _).alloc (by simp; omega) _)
  have c1 : W1.cell? ⟨w.heap.size, 0, none⟩ = some (.slice A n c) := by
    rw [hW1, (below_one _ _).cell (by simp; omega), (below_one _ _).cell (by simp), cell_of_row _ _ _ _ _ _ (heap_alloc_new w _)]; rfl
  have c2 : W1.cell? ⟨w.heap.size + 1, 0, none⟩ = some (.int .i64 t) := by
    rw [hW1, (below_one _ _).cell (by simp), cell_of_row _ _ _ _ _ _ (by have := heap_alloc_new (w.alloc (.cells #[.slice A n c] 24)) (.cells #[.int .i64 t] 3); simpa using this)]; rfl
  have V1 := Lib.hid (show VBox W1 (w.heap.size + 1 + 1) 75 (rc r) by rw [hW1]; exact vbox_new _ _ _ _ _ (by simp) (rc_len _) (by omega))
  have z1 := Lib.hid (show W1.heap.size = w.heap.size + 1 + 1 + 1 by rw [hW1]; simp)
  have HW1 := Lib.hid hW1
  have HCC := Lib.hid (fun (V : World) (hV : Below W1.heap.size W1 V) => (⟨(hV.cell (p := ⟨w.heap.size, 0, none⟩) (by have := z1.out; show w.heap.size < W1.heap.size; omega)).trans c1, (hV.cell (p := ⟨w.heap.size + 1, 0, none⟩) (by have := z1.out; show w.heap.size + 1 < W1.heap.size; omega)).trans c2⟩ : V.cell? ⟨w.heap.size, 0, none⟩ = some (.slice A n c) ∧ V.cell? ⟨w.heap.size + 1, 0, none⟩ = some (.int .i64 t)))
  have HG := Lib.hid (fun (V : World) (hV : Below W1.heap.size W1 V) => (h.below b1.out hB).below hV (Nat.le_trans hB b1.out.size))
  have HBS := Lib.hid (Nat.le_trans hB b1.out.size)
  have HL := Lib.hid h.len
  have MM := Lib.hid (pmay_any (w := W1) c true (HG.out W1 (Below.refl _ _)) HBS.out hn hm)
  have OM := Lib.hid (fun (V : World) (hV : Below W1.heap.size W1 V) => of_any (w := V) c t x (HG.out V hV) (Nat.le_trans HBS.out hV.size) hn hx)
  have hn4 : n ≤ 4 := by rw [← h.len]; exact may_len hm
  obtain ⟨fr, hfr⟩ := isF_ex (fun j => (l[j]?.map fun y => decide (t ≤ y.c)).getD false) n
  obtain ⟨bh, hbh⟩ := isF_ex (fun j => (l[j]?.map fun y => decide (t < y.c)).getD false) n
  have FM := Lib.hid (fun (V : World) (hV : Below W1.heap.size W1 V) => first_ge (b1 := w.heap.size) (b2 := w.heap.size + 1) (w := V) hn hfr (fun k m hk => by
    have hk' : k < l.length := by rw [h.len]; exact hk
    have hg : l[k]? = some l[k] := List.getElem?_eq_getElem hk'
    refine clos_ge c t _ _ ((HG.out V hV).keep fun _ _ => rfl) hg (HCC.out V hV).1 (HCC.out V hV).2 ?_
    simp [hg]))
  have GM := Lib.hid (fun (V : World) (hV : Below W1.heap.size W1 V) => first_gt (b1 := w.heap.size) (b2 := w.heap.size + 1) (w := V) hn hbh (fun k m hk => by
    have hk' : k < l.length := by rw [h.len]; exact hk
    have hg : l[k]? = some l[k] := List.getElem?_eq_getElem hk'
    refine clos_gt c t _ _ ((HG.out V hV).keep fun _ _ => rfl) hg (HCC.out V hV).1 (HCC.out V hV).2 ?_
    simp [hg]))
  have hfn := hfr.le
  have hbn := hbh.le
  have HINS : Hid (l.take fr ++ [(⟨t, id, r⟩ : LX)] ++ l.drop bh = insG LX.c ⟨t, id, r⟩ l) := Lib.hid (ins_cut (x := (⟨t, id, r⟩ : LX)) (by rw [h.len]; exact hfr) (by rw [h.len]; exact hbh))
  obtain ⟨m, hmm⟩ : ∃ m, fr + 1 + (n - bh) = m := ⟨_, rfl⟩
  have HMM := Lib.hid hmm
  have hm0 : 0 < m := by omega
  have hm5 : m ≤ 9 := by omega
  have HKN : Hid (∀ y, y ∈ insG LX.c ⟨t, id, r⟩ l → y.r.kn ≤ 100000 ∧ XOk W1 W1.heap.size y) := Lib.hid (fun y hy => by
    have ha := askB_iff.1 hk
    rw [← HINS.out] at hy
    simp only [List.mem_append, List.mem_singleton] at hy
    rcases hy with (hy | hy) | hy
    · have hy := List.mem_of_mem_take hy
      exact ⟨hkn y hy, ((h.ok y hy).below b1.out hB).more HBS.out⟩
    · subst hy
      exact ⟨hrn, ⟨by unfold InA; dsimp only; omega, by unfold InA; dsimp only; omega, (hr.below b1.out hB).more HBS.out⟩⟩
    · have hy := List.mem_of_mem_drop hy
      exact ⟨hkn y hy, ((h.ok y hy).below b1.out hB).more HBS.out⟩)
  have HNX := Lib.hid (fun (V : World) (hV : Below W1.heap.size W1 V) => ((HKN.out (⟨t, id, r⟩ : LX) (by unfold insG; simp)).2.below hV (Nat.le_refl _)).more hV.size)
  have HRR := Lib.hid ((hr.below b1.out hB).more HBS.out)
  have ha := askB_iff.1 hk
  have HID := Lib.hid ha
  clear ha
  obtain ⟨T, hT1, hT2⟩ := cut_lL A n c bh (bh : Int) rfl hbn hnc
  have HC1 := Lib.hid (cut_hL A n c fr (fr : Int) rfl (by omega))
  have HC2 := Lib.hid hT1
  have HT2 := Lib.hid hT2
  obtain ⟨LL, hLL⟩ : ∃ z, insG LX.c (⟨t, id, r⟩ : LX) l = z := ⟨_, rfl⟩
  rw [hLL] at HINS HKN
  rw [hLL]
  clear hW1 h hr hx hfr hbh hT1 hT2 hkn hcm hrn hmm hLL
  go_enter Try.func20, Try.ntmps20
  go_upto_region 1 with fail
  rw [← HW1.out]
  go_upto_region 6 with (first
        | (go_at_call 15; refine MM.out.mono ?_; rintro e2 w2 ⟨rfl, b2⟩; have B2 := Lib.hid b2; obtain ⟨d1, d2⟩ := HCC.out w2 b2; clear b2)
        | (go_at_call 24; refine (asked_any t id true hk _).mono ?_; intro e3 w3 q3; obtain ⟨rfl, b3⟩ := q3.belowQ; have B3 := Lib.hid (B2.out.trans (b3.mono B2.out.size)); obtain ⟨f1, f2⟩ := HCC.out w3 B3.out; clear b3 q3)
        | (go_at_call 14; refine (OM.out w3 B3.out).mono ?_; rintro e4 w4 ⟨rfl, b4⟩; have B4 := Lib.hid (B3.out.trans (b4.mono B3.out.size)); obtain ⟨g1, g2⟩ := HCC.out w4 B4.out; clear b4)
        | (go_at_call 29; refine (FM.out w4 B4.out).mono ?_; intro e5 w5 q5; obtain ⟨rfl, b5⟩ := q5.belowQ; have B5 := Lib.hid (B4.out.trans (b5.mono B4.out.size)); obtain ⟨i1, i2⟩ := HCC.out w5 B5.out; clear b5 q5))
  go_upto_region 7 with (first
        | (go_at_call 29; refine (GM.out w5 B5.out).mono ?_; intro e6 w6 q6; obtain ⟨rfl, b6⟩ := q6.belowQ; have B6 := Lib.hid (B5.out.trans (b6.mono B5.out.size)); obtain ⟨j1, j2⟩ := HCC.out w6 B6.out; clear b6 q6))
  clear d1 d2 f1 f2 g1 g2 i1 i2 c1 c2 B2 B3 B4 B5 MM OM FM GM hm hk
  have HCC6 := Lib.hid (fun (V : World) (hV : Below w6.heap.size w6 V) => HCC.out V (B6.out.trans (hV.mono B6.out.size)))
  have HV6 := Lib.hid (fun (V : World) (hV : Below w6.heap.size w6 V) => V1.out.grow (B6.out.trans (hV.mono B6.out.size)))
  have HG6 := Lib.hid (fun (V : World) (hV : Below w6.heap.size w6 V) => HG.out V (B6.out.trans (hV.mono B6.out.size)))
  have HS6 := Lib.hid (Nat.le_trans HBS.out B6.out.size)
  clear j1 j2
  refine Late.region (fun w' => Below w6.heap.size w6 w') [] (by kernel_rfl) (Below.refl _ _).drew (fun hHeld => ?_)
  refine Late.take (i := 0) (oi := ⟨some 36, Op.load 24 (Operand.tmp 4), _, _, _, _⟩) (v := ?_) rfl (by kernel_rfl) (by kernel_rfl) (by kernel_rfl) (by kernel_rfl) (fun _ _ _ h => h) (Or.inl ⟨by rfl, fun w hSw => ?_⟩) (by assumption) ?_
  rotate_left
  · (have s1 := hSw; have d := (HCC6.out _ hSw); obtain ⟨p1, p2⟩ := d; go_simp; try with_reducible rfl)
  try simp only [Act.put, List.setIfInBounds_toArray, List.set_cons_zero, List.set_cons_succ]
  refine Late.take (i := 1) (oi := ⟨some 37, Op.move (Operand.tmp 10), _, _, _, _⟩) (v := ?_) rfl (by kernel_rfl) (by kernel_rfl) (by kernel_rfl) (by kernel_rfl) (fun _ _ _ h => h) (Or.inl ⟨by rfl, fun w hSw => ?_⟩) (by assumption) ?_
  rotate_left
  · (have s1 := hSw; go_simp; try with_reducible rfl)
  try simp only [Act.put, List.setIfInBounds_toArray, List.set_cons_zero, List.set_cons_succ]
  refine Late.take (i := 2) (oi := ⟨some 38, Op.slice 24 (Operand.tmp 36) none (some (Operand.tmp 37)) none, _, _, _, _⟩) (v := .slice A fr c) rfl (by kernel_rfl) (by kernel_rfl) (by kernel_rfl) (by kernel_rfl) (fun _ _ _ h => h) (Or.inl ⟨by rfl, fun w hSw => ?_⟩) (by assumption) ?_
  · (have hn := HC1.out w; simp [execOp, Act.eval, Instr.sliceAt, hn])
  try simp only [Act.put, List.setIfInBounds_toArray, List.set_cons_zero, List.set_cons_succ]
  refine Late.take (i := 3) (oi := ⟨some 39, Op.load 3 (Operand.tmp 5), _, _, _, _⟩) (v := ?_) rfl (by kernel_rfl) (by kernel_rfl) (by kernel_rfl) (by kernel_rfl) (fun _ _ _ h => h) (Or.inl ⟨by rfl, fun w hSw => ?_⟩) (by assumption) ?_
  rotate_left
  · (have s1 := hSw; have d := (HCC6.out _ hSw); obtain ⟨p1, p2⟩ := d; go_simp; try with_reducible rfl)
  try simp only [Act.put, List.setIfInBounds_toArray, List.set_cons_zero, List.set_cons_succ]
  refine Late.take (i := 4) (oi := ⟨some 40, Op.move (Operand.tmp 2), _, _, _, _⟩) (v := ?_) rfl (by kernel_rfl) (by kernel_rfl) (by kernel_rfl) (by kernel_rfl) (fun _ _ _ h => h) (Or.inl ⟨by rfl, fun w hSw => ?_⟩) (by assumption) ?_
  rotate_left
  · (have s1 := hSw; go_simp; try with_reducible rfl)
  try simp only [Act.put, List.setIfInBounds_toArray, List.set_cons_zero, List.set_cons_succ]
  refine Late.take (i := 5) (oi := ⟨some 41, Op.load 33 (Operand.tmp 7), _, _, _, _⟩) (v := _) rfl (by kernel_rfl) (by kernel_rfl) (by kernel_rfl) (by kernel_rfl) (fun _ _ _ h => h) (yieldsIf_load_mid (by rfl) _ _ rfl _ _ rfl (rc r) _ (fun W hW => (HV6.out W hW).range) Try.underlying33 rfl (r_size r)) (by assumption) ?_
  try simp only [Act.put, List.setIfInBounds_toArray, List.set_cons_zero, List.set_cons_succ]
  refine Late.take (i := 6) (oi := ⟨some 42, Op.build 53 #[(0, Operand.tmp 39), (1, Operand.tmp 40), (2, Operand.tmp 41)], _, _, _, _⟩) (v := .agg (xc ⟨t, id, r⟩).toArray) rfl (by kernel_rfl) (by kernel_rfl) (by kernel_rfl) (by kernel_rfl) (fun _ _ _ h => h) (Or.inl ⟨by rfl, fun w hSw => ?_⟩) (by assumption) ?_
  · (exact exec_P rfl rfl rfl rfl rfl)
  try simp only [Act.put, List.setIfInBounds_toArray, List.set_cons_zero, List.set_cons_succ]
  refine Late.take (i := 8) (oi := ⟨some 44, Op.load 24 (Operand.tmp 4), _, _, _, _⟩) (v := ?_) rfl (by kernel_rfl) (by kernel_rfl) (by kernel_rfl) (by kernel_rfl) (fun _ _ _ h => h) (Or.inl ⟨by rfl, fun w hSw => ?_⟩) (by assumption) ?_
  rotate_left
  · (have s1 := hSw; have d := (HCC6.out _ hSw); obtain ⟨p1, p2⟩ := d; go_simp; try with_reducible rfl)
  try simp only [Act.put, List.setIfInBounds_toArray, List.set_cons_zero, List.set_cons_succ]
  refine Late.take (i := 9) (oi := ⟨some 45, Op.move (Operand.tmp 11), _, _, _, _⟩) (v := ?_) rfl (by kernel_rfl) (by kernel_rfl) (by kernel_rfl) (by kernel_rfl) (fun _ _ _ h => h) (Or.inl ⟨by rfl, fun w hSw => ?_⟩) (by assumption) ?_
  rotate_left
  · (have s1 := hSw; go_simp; try with_reducible rfl)
  try simp only [Act.put, List.setIfInBounds_toArray, List.set_cons_zero, List.set_cons_succ]
  refine Late.take (i := 10) (oi := ⟨some 46, Op.slice 24 (Operand.tmp 44) (some (Operand.tmp 45)) none none, _, _, _, _⟩) (v := .slice T (n - bh) (c - bh)) rfl (by kernel_rfl) (by kernel_rfl) (by kernel_rfl) (by kernel_rfl) (fun _ _ _ h => h) (Or.inl ⟨by rfl, fun w hSw => ?_⟩) (by assumption) ?_
  · (have hn := HC2.out w; simp [execOp, Act.eval, Instr.sliceAt, hn])
  try simp only [Act.put, List.setIfInBounds_toArray, List.set_cons_zero, List.set_cons_succ]
  refine Late.one (i := 7) (o := ⟨some 43, Op.buildSlice 24 1 #[(0, Operand.tmp 42)], _, _, _, _⟩) (by kernel_rfl) rfl (fun K hK => ?_)
  refine wp_slice_P (.tmp 42) rfl ⟨t, id, r⟩ rfl ?_
  obtain ⟨W7, hW7⟩ : ∃ W, W = w6.drew.alloc (.cells (xc (⟨t, id, r⟩ : LX)).toArray 53) := ⟨_, rfl⟩
  rw [← hW7]
  have L7 := Lib.hid (show Las W7 (w6.heap.size + 1) (some ⟨w6.heap.size, 0, none⟩) 1 [(⟨t, id, r⟩ : LX)] by rw [hW7]; exact las_one w6.drew _ w6.heap.size ((HNX.out w6 B6.out).keep fun _ _ => rfl) (Nat.le_refl _) _ _ rfl)
  have b7 := Lib.hid (show Below w6.heap.size w6 W7 by rw [hW7]; exact (Below.refl _ _).drew.alloc (Nat.le_refl _) _)
  have z7 := Lib.hid (show W7.heap.size = w6.heap.size + 1 by rw [hW7]; simp)
  clear hW7
  refine hK.out _ _ (b7.out) (fun hHeld2 => ?_)
  clear hK K hHeld
  have hHeld := hHeld2
  clear hHeld2
  try simp only [Act.put, List.setIfInBounds_toArray, List.set_cons_zero, List.set_cons_succ]
  refine Late.one (i := 11) (o := ⟨some 47, Op.buildSlice 72 3 #[(0, Operand.tmp 38), (1, Operand.tmp 43), (2, Operand.tmp 46)], _, _, _, _⟩) (by kernel_rfl) rfl (fun K hK => ?_)
  go_simp
  obtain ⟨W8, hW8⟩ : ∃ W, W = W7.alloc (.cells #[.slice A fr c, .slice (some ⟨w6.heap.size, 0, none⟩) 1 1, .slice T (n - bh) (c - bh)] 24) := ⟨_, rfl⟩
  rw [← hW8]
  have P8 := threeP_of (c1 := c) (c2 := 1) (c3 := c - bh) ((HG6.out W7 b7.out).front fr hfn) L7.out ((HG6.out W7 b7.out).back bh hbn T HT2.out) (Nat.le_trans HS6.out b7.out.size) (by rw [z7.out]; exact Nat.le_refl _) (Nat.le_trans HS6.out b7.out.size) 24
  rw [← hW8, HINS.out, HMM.out] at P8
  have P8 := Lib.hid P8
  have b8 := Lib.hid (show Below w6.heap.size w6 W8 by rw [hW8]; exact b7.out.alloc b7.out.size _)
  have z8 := Lib.hid (show W8.heap.size = W7.heap.size + 1 by rw [hW8]; simp)
  clear hW8
  refine hK.out _ _ (b8.out) (fun hHeld2 => ?_)
  clear hK K hHeld
  have hHeld := hHeld2
  clear hHeld2
  try simp only [Act.put, List.setIfInBounds_toArray, List.set_cons_zero, List.set_cons_succ]
  refine Late.one (i := 12) (o := ⟨some 48, Op.call { callee := Callee.value (Operand.func 32), args := #[Operand.tmp 47], argTypes := #[72] }, _, _, _, _⟩) (by kernel_rfl) rfl (fun K hK => ?_)
  go_simp
  refine (concat_any P8.out (by rw [z8.out]; omega) (by rw [z8.out]; omega) (by omega) hm0).mono ?_
  rintro e9 w9 ⟨D, d, rfl, o9, b9, hd1, hd2⟩
  have O9 := Lib.hid o9
  have B9 := Lib.hid b9
  have HD1 := Lib.hid hd1
  have HD2 := Lib.hid hd2
  have b9' := Lib.hid (b8.out.trans (b9.mono b8.out.size))
  clear o9 b9 hd1 hd2
  refine hK.out _ _ (b9'.out) (fun hHeld2 => ?_)
  clear hK K hHeld
  have hHeld := hHeld2
  clear hHeld2
  try simp only [Act.put, List.setIfInBounds_toArray, List.set_cons_zero, List.set_cons_succ]
  refine Late.take (i := 13) (oi := ⟨some 12, Op.assign (Operand.tmp 48), _, _, _, _⟩) (v := ?_) rfl (by kernel_rfl) (by kernel_rfl) (by kernel_rfl) (by kernel_rfl) (fun _ _ _ h => h) (Or.inl ⟨by rfl, fun w hSw => ?_⟩) (by assumption) ?_
  rotate_left
  · (have s1 := hSw; go_simp; try with_reducible rfl)
  try simp only [Act.put, List.setIfInBounds_toArray, List.set_cons_zero, List.set_cons_succ]
  refine Late.done (by kernel_rfl) ?_ _
  refine NoPanic.normal ?_
  have hgx : ∃ g, D = some ⟨g, 0, none⟩ ∧ W8.heap.size ≤ g := by
    obtain ⟨g, cap, hv, hgb, _⟩ := O9.out.form hm0
    exact ⟨g, by injection hv, hgb⟩
  obtain ⟨g, rfl, hgb⟩ := hgx
  have HGB := Lib.hid hgb
  have HB8 := Lib.hid (B6.out.trans (b8.out.mono B6.out.size))
  clear hgb hHeld
  have hd9 : d ≤ 9223372036854775807 := by have := HD2.out; unfold maxLen at this; exact this
  have hmd : m ≤ d := HD1.out
  go_wp2
  go_loopw [51] (fun i wr => ∃ k : Nat, k ≤ m ∧ i = .int .i64 k ∧ ∃ l' : List LX, Hid (l'.map LX.z = LL.map LX.z) ∧ Hid (wr.ownsRow W8.heap.size 53 77 (.slice (some ⟨g, 0, none⟩) m d) m (xvs l')) ∧ Hid (Below W8.heap.size W8 wr) ∧ Hid (∀ j x, l'[j]? = some x → j < k → OwnR wr (g + 1) x) ∧ Hid (∀ j, k ≤ j → l'[j]? = LL[j]?)) (fun i _ => m - (intOf i).toNat)
  case atStart => exact ⟨0, by omega, rfl, LL, Lib.hid rfl, O9, B9, Lib.hid (fun j x _ h => by omega), Lib.hid (fun j _ => rfl)⟩
  case round =>
    obtain ⟨k, hk, rfl, l', HZ, HO, HW, HP, HQ⟩ := hrel
    have HLN : Hid (l'.length = m) := Lib.hid (by have := HO.out.1; rw [xvs_len] at this; omega)
    by_cases hlt : k < m
    · have hkI : (k : Int) < (m : Int) := by omega
      obtain ⟨y, hy⟩ : ∃ y, l'[k]? = some y := ⟨_, List.getElem?_eq_getElem (by rw [HLN.out]; exact hlt)⟩
      have HY := Lib.hid hy
      have hyL : y ∈ LL := List.mem_of_getElem? ((HQ.out k (Nat.le_refl _)).symm.trans hy)
      have OY := Lib.hid ((HKN.out y hyL).2.below (HB8.out.trans (HW.out.mono HB8.out.size)) (Nat.le_refl _))
      have hykn := (HKN.out y hyL).1
      have hglt : g < wr.heap.size := (HO.out.lt g rfl).2
      have HGL := Lib.hid hglt
      have CM := Lib.hid (copied_any (w := wr) OY.out.r (Nat.le_trans HB8.out.size HW.out.size) hykn)
      have HR := Lib.hid (rng_x (own_rngX HO.out hy)).2.2
      clear hy hyL hglt hykn
      have G1 := HO
      have G2 := HO
      have G3 := HO
      go_wp2_with (first
          | (have g := G1; clear g; refine wpList_load_mid (op := ⟨some 60, .load 33 (.tmp 59), _, _, _, _⟩) rfl 33 (.tmp 59) rfl (g) (k * 77 + 2) rfl (rc y.r) _ (HR.out) Try.underlying33 rfl (r_size y.r) ?_; clear G1)
          | (have g0 := G2; clear g0; go_at_call 26; refine CM.out.mono ?_; rintro ea wa ⟨Dk, dk, rfl, oa, ba⟩; have KA := Lib.hid oa; have BA := Lib.hid ba; have OA := Lib.hid (own_below HO.out ba (Nat.le_refl _)); clear oa ba G2)
          | (have g := G3; clear g; refine wpList_store_as (op := ⟨none, .store 33 (.tmp 63) (.tmp 61), _, _, _, _⟩) rfl 33 (.tmp 63) (.tmp 61) rfl (g) (k * 77 + 2) (rc (CopyX y.r Dk dk)).toArray rfl rfl ((by rw [List.size_toArray, rc_len]; exact own_thereX OA.out (by omega))) (r_sizeA (CopyX y.r Dk dk)) (r_oneA (CopyX y.r Dk dk)) ?_; intro wb hwb; clear G3))
      have HX2 : wb.ownsRow W8.heap.size 53 77 (.slice (some ⟨g, 0, none⟩) m d) m (xvs (l'.set k (SetR y (CopyX y.r Dk dk)))) := by
        rw [hwb.out, ← putR l' k y (CopyX y.r Dk dk) HY.out]
        exact own_setCells _ _ _ _ OA.out
      have HB2 : Below W8.heap.size W8 wb := by
        rw [hwb.out]
        exact below_setCells HGB.out _ _ _ (HW.out.trans (BA.out.mono HW.out.size))
      have HKE : ∀ b, g + 1 ≤ b → wb.heap[b]? = wa.heap[b]? := fun b hb => by rw [hwb.out]; exact heap_setCells g b (by omega) _ _ _
      have HP2 : ∀ j x, (l'.set k (SetR y (CopyX y.r Dk dk)))[j]? = some x → j < k + 1 → OwnR wb (g + 1) x := fun j x hx hj => by
        rw [List.getElem?_set] at hx
        by_cases hjk : k = j
        · subst hjk
          rw [if_pos rfl, if_pos (by rw [HLN.out]; exact hlt)] at hx
          injection hx with hx
          subst hx
          exact (own_of_copy (base := g + 1) OY.out KA.out (by have := HGL.out; omega)).keep (fun b hb _ => HKE b hb)
        · rw [if_neg hjk] at hx
          exact ((HP.out j x hx (by omega)).keep (fun b hb hlt2 => BA.out.block b hlt2)).keep (fun b hb _ => HKE b hb)
      have HQ2 : ∀ j, k + 1 ≤ j → (l'.set k (SetR y (CopyX y.r Dk dk)))[j]? = LL[j]? := fun j hj => by
        rw [List.getElem?_set_ne (by omega)]
        exact HQ.out j (by omega)
      have HZ2 := Lib.hid ((set_z Dk dk HY.out).trans HZ.out)
      have HX2 := Lib.hid HX2
      have HB2 := Lib.hid HB2
      have HP2 := Lib.hid HP2
      have HQ2 := Lib.hid HQ2
      clear hwb HKE
      go_roundw
      case rel => exact ⟨k + 1, by omega, by go_num, _, HZ2, HX2, HB2, HP2, HQ2⟩
      case measure => simp [intOf]; omega
    · have hkm : k = m := by omega
      have hkI : ¬ (k : Int) < (m : Int) := by omega
      have HKM := Lib.hid hkm
      clear hkm
      go_wp2
      go_ret2
      have hbw : Below w.heap.size w wr := b1.out.trans ((HB8.out.trans (HW.out.mono HB8.out.size)).mono b1.out.size)
      have hall : ∀ x, x ∈ l' → OwnR wr (g + 1) x := fun x hx => by
        obtain ⟨j, hj, rfl⟩ := List.mem_iff_getElem.1 hx
        exact HP.out j _ (List.getElem?_eq_getElem hj) (by rw [HKM.out, ← HLN.out]; exact hj)
      have hww : w.heap.size ≤ W8.heap.size := Nat.le_trans b1.out.size HB8.out.size
      exact ⟨g, m, d, l', rfl, HZ.out, own_from HO.out hww, fun x hx => (hall x hx).xok, fun x hx => (kw_own (hall x hx).row (Nat.lt_succ_self g)).from (by have := HGB.out; omega), hbw⟩
end Go.Proofs.Ytlapdocikhjkcaa
