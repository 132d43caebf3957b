/- The law's helpers: which spaces are gone through, a space in memory of its own with room behind. -/
import Derived.Test.YtmlkcedhjnmfgaaSpI
import Derived.Test.YtmlkcedhjnmfgaaB2
namespace Go.Proofs.Ytmlkcedhjnmfgaa
open Go.ChangeShapes Go.WideShapes Go.ChangeAt Go.RowKit
set_option linter.unusedVariables false
set_option linter.unusedSimpArgs false
open Plain Sp
def Sp.tilde : PairZ := ⟨⟨#[126]⟩, ⟨#[]⟩⟩
theorem ownsRow_drewAlloc {w : World} {base size n : Nat} {t : TypeId} {v : Value} {xs : List Value} (h : w.ownsRow base t size v n xs) (o : Obj) : (w.drew.alloc o).ownsRow base t size v n xs := (show w.drew.ownsRow base t size v n xs from h).alloc o
theorem own_farS {w : World} {base size n b : Nat} {t : TypeId} {v : Value} {xs : List Value} (h : w.ownsRow base t size v n xs) (hb : b < base) (o : Nat) (u : Value) : (w.setCell ⟨b, o, none⟩ u).ownsRow base t size v n xs := by
  refine ⟨h.1, ?_⟩
  rcases h.2 with hn | ⟨g, cap, cur, rfl, h1, h2, rest⟩
  · exact .inl hn
  · exact .inr ⟨g, cap, cur, rfl, h1, (Below.heap_setCell _ _ _ _ (by show g ≠ b; omega)).trans h2, rest⟩
theorem lies_newP (w : World) (p : PairZ) (t : TypeId) (g : Nat) (hg : w.heap.size = g) : Lies (w.drew.alloc (.cells #[.string p.k, .string p.v] t)) 2 (some ⟨g, 0, none⟩) 1 (pvs [p]) ∧ Sourced (some ⟨g, 0, none⟩) 1 := by
  subst hg
  refine ⟨⟨rfl, fun ad hA => ?_⟩, fun h => by cases h⟩
  injection hA with hA
  subst hA
  exact World.news_of_block (cs := #[.string p.k, .string p.v]) (t := t) (fr := (0, 0)) (heap_alloc_new w.drew _)
theorem great_any {w : World} {n c : Nat} {A : Option Addr} (KI Y : Int) (q : Bool) (hq : decide (100 < n) = q) :
    Calls Try.prog 9 #[.agg #[.int .i64 KI, .int .i64 Y, .slice A n c]] w (fun e w' => e = .returned (.bool q) ∧ Below w.heap.size w w') := by
  have hb := Lib.hid (below_one w (.cells #[.int .i64 KI, .int .i64 Y, .slice A n c] 24))
  cases q with
  | true =>
    have h : 100 < n := by simpa using hq
    have hI : (100 : Int) < (n : Int) := by omega
    go_enter Try.func9, Try.ntmps9
    go_wp2
    go_ret
    exact ⟨rfl, hb.out⟩
  | false =>
    have h : ¬ 100 < n := by simpa using hq
    have hI : ¬ (100 : Int) < (n : Int) := by omega
    go_enter Try.func9, Try.ntmps9
    go_wp2
    go_ret
    exact ⟨rfl, hb.out⟩
/-- A space in memory of its own, with one pair of room behind it. -/
def ToS (w : World) (KI Y : Int) (n : Nat) (l : List PairZ) (e : Ending) (w' : World) : Prop :=
  ∃ D d, e = .returned (.agg #[.int .i64 KI, .int .i64 Y, .slice D n d]) ∧ NewP w' w.heap.size D (n + 1) d (l ++ [tilde]) ∧ Below w.heap.size w w'
set_option maxRecDepth 100000 in
set_option maxHeartbeats 4000000 in
theorem to_any {w : World} {n c : Nat} {A : Option Addr} {l : List PairZ} (KI Y : Int) (h : Prs w w.heap.size A n l) (hn : n ≤ 1000) :
    Calls Try.prog 10 #[.agg #[.int .i64 KI, .int .i64 Y, .slice A n c]] w (ToS w KI Y n l) := by
  obtain ⟨W1, hW1⟩ : ∃ W, W = ((w.alloc (.cells #[.int .i64 KI, .int .i64 Y, .slice A n c] 24)).alloc (.cells #[.int .i64 0, .int .i64 0, .slice none 0 0] 28)).alloc (.cells #[.int .i64 KI, .int .i64 Y, .slice none 0 0] 28) := ⟨_, rfl⟩
  have b1 := Lib.hid (show Below w.heap.size w W1 by rw [hW1]; exact ((below_one _ _).alloc (by simp) _).alloc (by simp; omega) _)
  have X1 := Lib.hid (show SBox W1 w.heap.size KI Y A n c by rw [hW1]; exact ((sbox_new _ _ _ _ _ _ _ _ rfl).grow (below_one _ _)).grow (below_one _ _))
  have V1 := Lib.hid (show SVar W1 (w.heap.size + 1) by rw [hW1]; exact (svar_new _ _ _ _ _ _ (by simp)).grow (below_one _ _))
  have X3 := Lib.hid (show SBox W1 (w.heap.size + 2) KI Y none 0 0 by rw [hW1]; exact sbox_new _ _ _ _ _ _ _ _ (by simp))
  have V3 := Lib.hid (show SVar W1 (w.heap.size + 2) by rw [hW1]; exact svar_new _ _ _ _ _ _ (by simp))
  have z1 : W1.heap.size = w.heap.size + 3 := by rw [hW1]; simp
  have HP := Lib.hid (h.below b1.out (Nat.le_refl _))
  have HW1 := Lib.hid hW1
  have L := Lib.hid h.len
  have HOK := Lib.hid h.ok
  clear hW1 h
  obtain ⟨x1, x2, x3⟩ := X1.out
  have hbw : w.heap.size < w.heap.size + 2 := by omega
  go_enter Try.func10, Try.ntmps10
  go_upto_region 2 with fail
  rw [← HW1.out]
  go_wp2
  go_loopw [4] (fun i wr => ∃ j : Nat, j ≤ n ∧ i = .int .i64 j ∧ Hid (Below (w.heap.size + 2) W1 wr) ∧ w.heap.size + 3 ≤ wr.heap.size ∧ Hid (SVar wr (w.heap.size + 2)) ∧ ∃ D d, Hid (SBox wr (w.heap.size + 2) KI Y D j d) ∧ Hid (wr.ownsRow (w.heap.size + 3) 46 2 (.slice D j d) j (pvs (l.take j)))) (fun i _ => n - (intOf i).toNat)
  case atStart => exact ⟨0, by omega, rfl, Lib.hid (Below.refl _ _), by omega, V3, none, 0, X3, Lib.hid (World.ownsRow_nil _ _ _ _)⟩
  case round =>
    obtain ⟨j, hj, rfl, HW, hsz, VR, D, d, XR, OW⟩ := hrel
    have y3 := ((X1.out.below HW.out (by omega)).2.2)
    by_cases hlt : j < n
    · have hltI : (j : Int) < (n : Int) := by omega
      obtain ⟨pb, po, p, rfl, hpb, HK, hpo, c0, c1⟩ := (HP.out.below HW.out (by omega)).at_ hlt
      have y4 := XR.out.2.2
      have HST := Lib.hid (fun (V : World) (hV : Below (w.heap.size + 3) wr V) => show V.cell? ⟨w.heap.size, 2, none⟩ = some (.slice (some ⟨pb, po, none⟩) n c) ∧ V.cell? ⟨w.heap.size + 2, 2, none⟩ = some (.slice D j d) ∧ V.cell? ⟨pb, po + j * 2, none⟩ = some (.string p.k) ∧ V.cell? ⟨pb, po + j * 2 + 1, none⟩ = some (.string p.v) from
        ⟨(hV.cell (p := ⟨w.heap.size, 2, none⟩) (by show w.heap.size < _; omega)).trans y3, (hV.cell (p := ⟨w.heap.size + 2, 2, none⟩) (by show w.heap.size + 2 < _; omega)).trans y4, (hV.cell (p := ⟨pb, po + j * 2, none⟩) (by show pb < _; omega)).trans c0, (hV.cell (p := ⟨pb, po + j * 2 + 1, none⟩) (by show pb < _; omega)).trans c1⟩)
      clear hpo c0 c1 x1 x2 x3 y4
      go_upto_region 5 with fail
      clear y3
      refine Late.region (fun w' => w'.cell? ⟨w.heap.size, 2, none⟩ = some (.slice (some ⟨pb, po, none⟩) n c) ∧ w'.cell? ⟨w.heap.size + 2, 2, none⟩ = some (.slice D j d) ∧ w'.cell? ⟨pb, po + j * 2, none⟩ = some (.string p.k) ∧ w'.cell? ⟨pb, po + j * 2 + 1, none⟩ = some (.string p.v)) [18] (by kernel_rfl) (HST.out _ (Below.refl _ _).drew) (fun hHeld => ?_)
      refine Late.take (i := 0) (oi := ⟨some 18, Op.fieldAddr 28 (Operand.tmp 3) 2, _, _, _, _⟩) (v := ?_) rfl (by kernel_rfl) (by kernel_rfl) (by kernel_rfl) (by kernel_rfl) (fun _ _ _ h => h) (Or.inl ⟨by rfl, fun w hSw => ?_⟩) (by assumption) ?_
      rotate_left
      · (obtain ⟨s1, s2, s3, s4⟩ := hSw; go_simp; try with_reducible rfl)
      try simp only [Act.put, List.setIfInBounds_toArray, List.set_cons_zero, List.set_cons_succ]
      refine Late.take (i := 1) (oi := ⟨some 19, Op.load 26 (Operand.tmp 18), _, _, _, _⟩) (v := ?_) rfl (by kernel_rfl) (by kernel_rfl) (by kernel_rfl) (by kernel_rfl) (fun _ _ _ h => h) (Or.inl ⟨by rfl, fun w hSw => ?_⟩) (by assumption) ?_
      rotate_left
      · (obtain ⟨s1, s2, s3, s4⟩ := hSw; go_simp; try with_reducible rfl)
      try simp only [Act.put, List.setIfInBounds_toArray, List.set_cons_zero, List.set_cons_succ]
      refine Late.take (i := 2) (oi := ⟨some 20, Op.fieldAddr 24 (Operand.tmp 1) 2, _, _, _, _⟩) (v := ?_) rfl (by kernel_rfl) (by kernel_rfl) (by kernel_rfl) (by kernel_rfl) (fun _ _ _ h => h) (Or.inl ⟨by rfl, fun w hSw => ?_⟩) (by assumption) ?_
      rotate_left
      · (obtain ⟨s1, s2, s3, s4⟩ := hSw; go_simp; try with_reducible rfl)
      try simp only [Act.put, List.setIfInBounds_toArray, List.set_cons_zero, List.set_cons_succ]
      refine Late.take (i := 3) (oi := ⟨some 21, Op.load 22 (Operand.tmp 20), _, _, _, _⟩) (v := ?_) rfl (by kernel_rfl) (by kernel_rfl) (by kernel_rfl) (by kernel_rfl) (fun _ _ _ h => h) (Or.inl ⟨by rfl, fun w hSw => ?_⟩) (by assumption) ?_
      rotate_left
      · (obtain ⟨s1, s2, s3, s4⟩ := hSw; go_simp; try with_reducible rfl)
      try simp only [Act.put, List.setIfInBounds_toArray, List.set_cons_zero, List.set_cons_succ]
      refine Late.take (i := 4) (oi := ⟨some 22, Op.move (Operand.tmp 4), _, _, _, _⟩) (v := ?_) rfl (by kernel_rfl) (by kernel_rfl) (by kernel_rfl) (by kernel_rfl) (fun _ _ _ h => h) (Or.inl ⟨by rfl, fun w hSw => ?_⟩) (by assumption) ?_
      rotate_left
      · (obtain ⟨s1, s2, s3, s4⟩ := hSw; go_simp; try with_reducible rfl)
      try simp only [Act.put, List.setIfInBounds_toArray, List.set_cons_zero, List.set_cons_succ]
      refine Late.take (i := 5) (oi := ⟨some 23, Op.indexAddr 22 (Operand.tmp 21) (Operand.tmp 22), _, _, _, _⟩) (v := ?_) rfl (by kernel_rfl) (by kernel_rfl) (by kernel_rfl) (by kernel_rfl) (fun _ _ _ h => h) (Or.inl ⟨by rfl, fun w hSw => ?_⟩) (by assumption) ?_
      rotate_left
      · (obtain ⟨s1, s2, s3, s4⟩ := hSw; go_simp; try with_reducible rfl)
      try simp only [Act.put, List.setIfInBounds_toArray, List.set_cons_zero, List.set_cons_succ]
      refine Late.take (i := 6) (oi := ⟨some 24, Op.fieldAddr 66 (Operand.tmp 23) 0, _, _, _, _⟩) (v := ?_) rfl (by kernel_rfl) (by kernel_rfl) (by kernel_rfl) (by kernel_rfl) (fun _ _ _ h => h) (Or.inl ⟨by rfl, fun w hSw => ?_⟩) (by assumption) ?_
      rotate_left
      · (obtain ⟨s1, s2, s3, s4⟩ := hSw; go_simp; try with_reducible rfl)
      try simp only [Act.put, List.setIfInBounds_toArray, List.set_cons_zero, List.set_cons_succ]
      refine Late.take (i := 7) (oi := ⟨some 25, Op.load 9 (Operand.tmp 24), _, _, _, _⟩) (v := ?_) rfl (by kernel_rfl) (by kernel_rfl) (by kernel_rfl) (by kernel_rfl) (fun _ _ _ h => h) (Or.inl ⟨by rfl, fun w hSw => ?_⟩) (by assumption) ?_
      rotate_left
      · (obtain ⟨s1, s2, s3, s4⟩ := hSw; go_simp; try with_reducible rfl)
      try simp only [Act.put, List.setIfInBounds_toArray, List.set_cons_zero, List.set_cons_succ]
      refine Late.take (i := 8) (oi := ⟨some 26, Op.fieldAddr 24 (Operand.tmp 1) 2, _, _, _, _⟩) (v := ?_) rfl (by kernel_rfl) (by kernel_rfl) (by kernel_rfl) (by kernel_rfl) (fun _ _ _ h => h) (Or.inl ⟨by rfl, fun w hSw => ?_⟩) (by assumption) ?_
      rotate_left
      · (obtain ⟨s1, s2, s3, s4⟩ := hSw; go_simp; try with_reducible rfl)
      try simp only [Act.put, List.setIfInBounds_toArray, List.set_cons_zero, List.set_cons_succ]
      refine Late.take (i := 9) (oi := ⟨some 27, Op.load 22 (Operand.tmp 26), _, _, _, _⟩) (v := ?_) rfl (by kernel_rfl) (by kernel_rfl) (by kernel_rfl) (by kernel_rfl) (fun _ _ _ h => h) (Or.inl ⟨by rfl, fun w hSw => ?_⟩) (by assumption) ?_
      rotate_left
      · (obtain ⟨s1, s2, s3, s4⟩ := hSw; go_simp; try with_reducible rfl)
      try simp only [Act.put, List.setIfInBounds_toArray, List.set_cons_zero, List.set_cons_succ]
      refine Late.take (i := 10) (oi := ⟨some 28, Op.move (Operand.tmp 4), _, _, _, _⟩) (v := ?_) rfl (by kernel_rfl) (by kernel_rfl) (by kernel_rfl) (by kernel_rfl) (fun _ _ _ h => h) (Or.inl ⟨by rfl, fun w hSw => ?_⟩) (by assumption) ?_
      rotate_left
      · (obtain ⟨s1, s2, s3, s4⟩ := hSw; go_simp; try with_reducible rfl)
      try simp only [Act.put, List.setIfInBounds_toArray, List.set_cons_zero, List.set_cons_succ]
      refine Late.take (i := 11) (oi := ⟨some 29, Op.indexAddr 22 (Operand.tmp 27) (Operand.tmp 28), _, _, _, _⟩) (v := ?_) rfl (by kernel_rfl) (by kernel_rfl) (by kernel_rfl) (by kernel_rfl) (fun _ _ _ h => h) (Or.inl ⟨by rfl, fun w hSw => ?_⟩) (by assumption) ?_
      rotate_left
      · (obtain ⟨s1, s2, s3, s4⟩ := hSw; go_simp; try with_reducible rfl)
      try simp only [Act.put, List.setIfInBounds_toArray, List.set_cons_zero, List.set_cons_succ]
      refine Late.take (i := 12) (oi := ⟨some 30, Op.fieldAddr 66 (Operand.tmp 29) 1, _, _, _, _⟩) (v := ?_) rfl (by kernel_rfl) (by kernel_rfl) (by kernel_rfl) (by kernel_rfl) (fun _ _ _ h => h) (Or.inl ⟨by rfl, fun w hSw => ?_⟩) (by assumption) ?_
      rotate_left
      · (obtain ⟨s1, s2, s3, s4⟩ := hSw; go_simp; try with_reducible rfl)
      try simp only [Act.put, List.setIfInBounds_toArray, List.set_cons_zero, List.set_cons_succ]
      refine Late.take (i := 13) (oi := ⟨some 31, Op.load 9 (Operand.tmp 30), _, _, _, _⟩) (v := ?_) rfl (by kernel_rfl) (by kernel_rfl) (by kernel_rfl) (by kernel_rfl) (fun _ _ _ h => h) (Or.inl ⟨by rfl, fun w hSw => ?_⟩) (by assumption) ?_
      rotate_left
      · (obtain ⟨s1, s2, s3, s4⟩ := hSw; go_simp; try with_reducible rfl)
      try simp only [Act.put, List.setIfInBounds_toArray, List.set_cons_zero, List.set_cons_succ]
      refine Late.one (i := 14) (o := ⟨some 32, Op.build 46 #[(0, Operand.tmp 25), (1, Operand.tmp 31)], _, _, _, _⟩) (by kernel_rfl) rfl (fun K hK => ?_)
      go_simp
      refine hK.out _ _ (hHeld) (fun hHeld2 => ?_)
      clear hK K hHeld
      have hHeld := hHeld2
      clear hHeld2
      try simp only [Act.put, List.setIfInBounds_toArray, List.set_cons_zero, List.set_cons_succ]
      refine Late.one (i := 15) (o := ⟨some 33, Op.buildSlice 26 1 #[(0, Operand.tmp 32)], _, _, _, _⟩) (by kernel_rfl) rfl (fun K hK => ?_)
      go_simp
      refine hK.out _ _ (HST.out _ ((Below.refl _ _).drew.alloc hsz _)) (fun hHeld2 => ?_)
      clear hK K hHeld
      have hHeld := hHeld2
      clear hHeld2
      try simp only [Act.put, List.setIfInBounds_toArray, List.set_cons_zero, List.set_cons_succ]
      refine Late.one (i := 16) (o := ⟨some 34, Op.call { callee := Callee.builtin Builtin.append, args := #[Operand.tmp 19, Operand.tmp 33], argTypes := #[26, 26] }, _, _, _, _⟩) (by kernel_rfl) rfl (fun K hK => ?_)
      refine step_app _ (by rfl) (.tmp 19) (.tmp 33) 26 (by rfl) (w.heap.size + 3) 46 2 32 Try.underlying26 pair_info (by omega) (.slice D j d) j (pvs (l.take j)) (by rfl) (ownsRow_drewAlloc OW.out _) _ 1 1 (pvs [p]) (by rfl) (lies_newP wr p 46 (wr.heap.size) rfl).1 (lies_newP wr p 46 (wr.heap.size) rfl).2 (pvs_one _) (by unfold maxLen; omega) (by omega) (by simp; omega) ?_
      intro v16 w16 ho16 hg16 _
      have B16 := Lib.hid (show Below (w.heap.size + 3) wr w16 from ((Below.refl _ _).drew.alloc hsz _).grown hg16 (by simp; omega) (fun q hq => (OW.out.lt q hq).1))
      have HO16 := Lib.hid ho16
      clear ho16 hg16
      refine hK.out _ _ (HST.out _ B16.out) (fun hHeld2 => ?_)
      clear hK K hHeld
      have hHeld := hHeld2
      clear hHeld2
      try simp only [Act.put, List.setIfInBounds_toArray, List.set_cons_zero, List.set_cons_succ]
      refine Late.one (i := 17) (o := ⟨some 35, Op.fieldAddr 28 (Operand.tmp 3) 2, _, _, _, _⟩) (by kernel_rfl) rfl (fun K hK => ?_)
      go_simp
      refine hK.out _ _ (hHeld) (fun hHeld2 => ?_)
      clear hK K hHeld
      have hHeld := hHeld2
      clear hHeld2
      try simp only [Act.put, List.setIfInBounds_toArray, List.set_cons_zero, List.set_cons_succ]
      refine Late.end_ (i := 18) (o := ⟨none, Op.store 26 (Operand.tmp 35) (Operand.tmp 34), _, _, _, _⟩) (by kernel_rfl) rfl rfl (fun K hK => ?_)
      obtain ⟨D6, d6, rfl, _, _⟩ := own_shapeP HO16.out
      have f16 := (VR.out.below B16.out (by omega)).free (o := 2) (by omega)
      have c16 := (HST.out _ B16.out).2.1
      go_simp
      refine hK.out _ _ ?_
      clear hK K
      try simp only [Act.put, List.setIfInBounds_toArray, List.set_cons_zero, List.set_cons_succ]
      refine Late.done (by kernel_rfl) ?_ _
      refine NoPanic.normal ?_
      have B17 := Lib.hid (HW.out.trans (((B16.out.mono (show w.heap.size + 2 ≤ w.heap.size + 3 by omega)).setCell (p := ⟨w.heap.size + 2, 2, none⟩) (Nat.le_refl _) (.slice D6 (j + 1) d6))))
      have HOX : Hid ((w16.setCell ⟨w.heap.size + 2, 2, none⟩ (.slice D6 (j + 1) d6)).ownsRow (w.heap.size + 3) 46 2 (.slice D6 (j + 1) d6) (j + 1) (pvs (l.take (j + 1)))) := Lib.hid (by
        rw [take_snocP l j p HK.out, pvs_app]
        exact own_farS HO16.out (by omega) _ _)
      have VX := Lib.hid ((VR.out.below B16.out (by omega)).set1 (w.heap.size + 2) 2 (.slice D6 (j + 1) d6))
      have XX := Lib.hid (sbox_set2 (A' := D6) (n' := j + 1) (c' := d6) (XR.out.below B16.out (by omega)) (VR.out.below B16.out (by omega)))
      have hszX : w.heap.size + 3 ≤ (w16.setCell ⟨w.heap.size + 2, 2, none⟩ (.slice D6 (j + 1) d6)).heap.size := by
        have := B16.out.size
        simp [World.setCell]; omega
      clear HST B16 HO16
      go_wp2
      go_roundw
      case rel => exact ⟨j + 1, by omega, by go_num, B17, hszX, VX, D6, d6, XX, HOX⟩
      case measure => simp [intOf]; omega
    · have e : j = n := by omega
      subst e
      have hl : l.take j = l := List.take_of_length_le (by rw [L.out]; exact Nat.le_refl _)
      rw [hl] at OW
      obtain ⟨y1, y2, _⟩ := X1.out.below HW.out (by omega)
      have y4 := XR.out.2.2
      have VT := Lib.hid (V1.out.below HW.out (by omega))
      have HST := Lib.hid (fun (V : World) (hV : Below (w.heap.size + 3) wr V) => show V.cell? ⟨w.heap.size, 0, none⟩ = some (.int .i64 KI) ∧ V.cell? ⟨w.heap.size, 1, none⟩ = some (.int .i64 Y) ∧ V.cell? ⟨w.heap.size + 2, 2, none⟩ = some (.slice D j d) from
        ⟨(hV.cell (p := ⟨w.heap.size, 0, none⟩) (by show w.heap.size < _; omega)).trans y1, (hV.cell (p := ⟨w.heap.size, 1, none⟩) (by show w.heap.size < _; omega)).trans y2, (hV.cell (p := ⟨w.heap.size + 2, 2, none⟩) (by show w.heap.size + 2 < _; omega)).trans y4⟩)
      go_upto_region 7 with fail
      clear y1 y2 y3 y4 x1 x2 x3
      refine Late.region (fun w' => w'.cell? ⟨w.heap.size, 0, none⟩ = some (.int .i64 KI) ∧ w'.cell? ⟨w.heap.size, 1, none⟩ = some (.int .i64 Y) ∧ w'.cell? ⟨w.heap.size + 2, 2, none⟩ = some (.slice D j d)) [12] (by kernel_rfl) (HST.out _ (Below.refl _ _).drew) (fun hHeld => ?_)
      refine Late.take (i := 0) (oi := ⟨some 39, Op.fieldAddr 24 (Operand.tmp 1) 0, _, _, _, _⟩) (v := ?_) rfl (by kernel_rfl) (by kernel_rfl) (by kernel_rfl) (by kernel_rfl) (fun _ _ _ h => h) (Or.inl ⟨by rfl, fun w hSw => ?_⟩) (by assumption) ?_
      rotate_left
      · (obtain ⟨s1, s2, s3⟩ := hSw; go_simp; try with_reducible rfl)
      try simp only [Act.put, List.setIfInBounds_toArray, List.set_cons_zero, List.set_cons_succ]
      refine Late.take (i := 1) (oi := ⟨some 40, Op.load 3 (Operand.tmp 39), _, _, _, _⟩) (v := ?_) rfl (by kernel_rfl) (by kernel_rfl) (by kernel_rfl) (by kernel_rfl) (fun _ _ _ h => h) (Or.inl ⟨by rfl, fun w hSw => ?_⟩) (by assumption) ?_
      rotate_left
      · (obtain ⟨s1, s2, s3⟩ := hSw; go_simp; try with_reducible rfl)
      try simp only [Act.put, List.setIfInBounds_toArray, List.set_cons_zero, List.set_cons_succ]
      refine Late.take (i := 2) (oi := ⟨some 41, Op.fieldAddr 24 (Operand.tmp 1) 1, _, _, _, _⟩) (v := ?_) rfl (by kernel_rfl) (by kernel_rfl) (by kernel_rfl) (by kernel_rfl) (fun _ _ _ h => h) (Or.inl ⟨by rfl, fun w hSw => ?_⟩) (by assumption) ?_
      rotate_left
      · (obtain ⟨s1, s2, s3⟩ := hSw; go_simp; try with_reducible rfl)
      try simp only [Act.put, List.setIfInBounds_toArray, List.set_cons_zero, List.set_cons_succ]
      refine Late.take (i := 3) (oi := ⟨some 42, Op.load 3 (Operand.tmp 41), _, _, _, _⟩) (v := ?_) rfl (by kernel_rfl) (by kernel_rfl) (by kernel_rfl) (by kernel_rfl) (fun _ _ _ h => h) (Or.inl ⟨by rfl, fun w hSw => ?_⟩) (by assumption) ?_
      rotate_left
      · (obtain ⟨s1, s2, s3⟩ := hSw; go_simp; try with_reducible rfl)
      try simp only [Act.put, List.setIfInBounds_toArray, List.set_cons_zero, List.set_cons_succ]
      refine Late.take (i := 4) (oi := ⟨some 43, Op.fieldAddr 28 (Operand.tmp 3) 2, _, _, _, _⟩) (v := ?_) rfl (by kernel_rfl) (by kernel_rfl) (by kernel_rfl) (by kernel_rfl) (fun _ _ _ h => h) (Or.inl ⟨by rfl, fun w hSw => ?_⟩) (by assumption) ?_
      rotate_left
      · (obtain ⟨s1, s2, s3⟩ := hSw; go_simp; try with_reducible rfl)
      try simp only [Act.put, List.setIfInBounds_toArray, List.set_cons_zero, List.set_cons_succ]
      refine Late.take (i := 5) (oi := ⟨some 44, Op.load 26 (Operand.tmp 43), _, _, _, _⟩) (v := ?_) rfl (by kernel_rfl) (by kernel_rfl) (by kernel_rfl) (by kernel_rfl) (fun _ _ _ h => h) (Or.inl ⟨by rfl, fun w hSw => ?_⟩) (by assumption) ?_
      rotate_left
      · (obtain ⟨s1, s2, s3⟩ := hSw; go_simp; try with_reducible rfl)
      try simp only [Act.put, List.setIfInBounds_toArray, List.set_cons_zero, List.set_cons_succ]
      refine Late.take (i := 9) (oi := ⟨some 48, Op.move (Operand.tmp 5), _, _, _, _⟩) (v := ?_) rfl (by kernel_rfl) (by kernel_rfl) (by kernel_rfl) (by kernel_rfl) (fun _ _ _ h => h) (Or.inl ⟨by rfl, fun w hSw => ?_⟩) (by assumption) ?_
      rotate_left
      · (obtain ⟨s1, s2, s3⟩ := hSw; go_simp; try with_reducible rfl)
      try simp only [Act.put, List.setIfInBounds_toArray, List.set_cons_zero, List.set_cons_succ]
      refine Late.one (i := 6) (o := ⟨some 45, Op.build 46 #[(0, Operand.const (Value.string { data := #[126] }))], _, _, _, _⟩) (by kernel_rfl) rfl (fun K hK => ?_)
      go_simp
      refine hK.out _ _ (hHeld) (fun hHeld2 => ?_)
      clear hK K hHeld
      have hHeld := hHeld2
      clear hHeld2
      try simp only [Act.put, List.setIfInBounds_toArray, List.set_cons_zero, List.set_cons_succ]
      refine Late.one (i := 7) (o := ⟨some 46, Op.buildSlice 26 1 #[(0, Operand.tmp 45)], _, _, _, _⟩) (by kernel_rfl) rfl (fun K hK => ?_)
      go_simp
      refine hK.out _ _ (HST.out _ ((Below.refl _ _).drew.alloc hsz _)) (fun hHeld2 => ?_)
      clear hK K hHeld
      have hHeld := hHeld2
      clear hHeld2
      try simp only [Act.put, List.setIfInBounds_toArray, List.set_cons_zero, List.set_cons_succ]
      refine Late.one (i := 8) (o := ⟨some 47, Op.call { callee := Callee.builtin Builtin.append, args := #[Operand.tmp 44, Operand.tmp 46], argTypes := #[26, 26] }, _, _, _, _⟩) (by kernel_rfl) rfl (fun K hK => ?_)
      refine step_app _ (by rfl) (.tmp 44) (.tmp 46) 26 (by rfl) (w.heap.size + 3) 46 2 32 Try.underlying26 pair_info (by omega) (.slice D j d) j (pvs l) (by rfl) (ownsRow_drewAlloc OW.out _) _ 1 1 (pvs [tilde]) (by rfl) (lies_newP wr tilde 46 (wr.heap.size) rfl).1 (lies_newP wr tilde 46 (wr.heap.size) rfl).2 (pvs_one _) (by unfold maxLen; omega) (by omega) (by simp; omega) ?_
      intro v16 w16 ho16 hg16 _
      have B16 := Lib.hid (show Below (w.heap.size + 3) wr w16 from ((Below.refl _ _).drew.alloc hsz _).grown hg16 (by simp; omega) (fun q hq => (OW.out.lt q hq).1))
      obtain ⟨D6, d6, rfl, hd6, hd7⟩ := own_shapeP ho16
      have hd8 : (j : Int) ≤ (d6 : Int) := by omega
      have HO16 := Lib.hid ho16
      clear ho16 hg16
      refine hK.out _ _ (HST.out _ B16.out) (fun hHeld2 => ?_)
      clear hK K hHeld
      have hHeld := hHeld2
      clear hHeld2
      try simp only [Act.put, List.setIfInBounds_toArray, List.set_cons_zero, List.set_cons_succ]
      refine Late.one (i := 10) (o := ⟨some 49, Op.slice 26 (Operand.tmp 47) none (some (Operand.tmp 48)) none, _, _, _, _⟩) (by kernel_rfl) rfl (fun K hK => ?_)
      go_simp
      refine hK.out _ _ (hHeld) (fun hHeld2 => ?_)
      clear hK K hHeld
      have hHeld := hHeld2
      clear hHeld2
      try simp only [Act.put, List.setIfInBounds_toArray, List.set_cons_zero, List.set_cons_succ]
      refine Late.one (i := 11) (o := ⟨some 50, Op.build 28 #[(0, Operand.tmp 40), (1, Operand.tmp 42), (2, Operand.tmp 49)], _, _, _, _⟩) (by kernel_rfl) rfl (fun K hK => ?_)
      go_simp
      refine hK.out _ _ (hHeld) (fun hHeld2 => ?_)
      clear hK K hHeld
      have hHeld := hHeld2
      clear hHeld2
      try simp only [Act.put, List.setIfInBounds_toArray, List.set_cons_zero, List.set_cons_succ]
      refine Late.end_ (i := 12) (o := ⟨none, Op.store 28 (Operand.tmp 2) (Operand.tmp 50), _, _, _, _⟩) (by kernel_rfl) rfl rfl (fun K hK => ?_)
      refine wp_store_mid 28 (.tmp 2) (.tmp 50) rfl (w.heap.size + 1) 0 #[.int .i64 KI, .int .i64 Y, .slice D6 j d6] rfl rfl (VT.out.below B16.out (by omega)).th sp_size (sp_one _ _ _ _ _) ?_
      refine hK.out _ _ ?_
      clear hK K
      try simp only [Act.put, List.setIfInBounds_toArray, List.set_cons_zero, List.set_cons_succ]
      refine Late.done (by kernel_rfl) ?_ _
      refine NoPanic.normal ?_
      have ho : w16.ownsRow (w.heap.size + 3) 46 2 (.slice D6 (j + 1) d6) (j + 1) (pvs (l ++ [tilde])) := by rw [pvs_app]; exact HO16.out
      have hok : ∀ p, p ∈ l ++ [tilde] → POk p := pok_app HOK.out (fun p hp => by obtain rfl := List.mem_singleton.1 hp; exact ⟨by decide, by decide⟩)
      have N16 := Lib.hid (((newP_own ho hok).far (b := w.heap.size + 1) (by omega) 0 [.int .i64 KI, .int .i64 Y, .slice D6 j d6]).rebase (show w.heap.size ≤ w.heap.size + 3 by omega))
      have R16 := Lib.hid (World.rangeAt_setCells_same w16 (w.heap.size + 1) 0 [.int .i64 KI, .int .i64 Y, .slice D6 j d6] (VT.out.below B16.out (by omega)).th)
      have B17 := Lib.hid (sp_setCells (b := w.heap.size + 1) (by omega) [.int .i64 KI, .int .i64 Y, .slice D6 j d6] 0 w16 (b1.out.trans ((HW.out.mono (show w.heap.size ≤ w.heap.size + 2 by omega)).trans (B16.out.mono (show w.heap.size ≤ w.heap.size + 3 by omega)))))
      go_wp2
      exact bodyPost_ret (v := .agg #[.int .i64 KI, .int .i64 Y, .slice D6 j d6]) (sp_results (p := 2) (ty := 28) rfl _ _ (w.heap.size + 1) 0 [.int .i64 KI, .int .i64 Y, .slice D6 j d6] _ rfl R16.out Try.underlying28 rfl sp_size) rfl ⟨D6, d6, rfl, N16.out, B17.out⟩
end Go.Proofs.Ytmlkcedhjnmfgaa
