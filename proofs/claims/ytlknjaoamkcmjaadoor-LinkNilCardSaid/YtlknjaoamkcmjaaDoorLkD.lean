/- Right, Seal, Print: the program's. -/
import Derived.Test.YtlknjaoamkcmjaaDoorLkC
namespace Go.Proofs.YtlknjaoamkcmjaaDoor
open Go.ChangeShapes Go.WideShapes Go.ChangeAt Go.RowKit
set_option linter.unusedVariables false
set_option maxRecDepth 100000
set_option linter.unusedSimpArgs false
open Plain Sha Wn Lk
/-- A new packet's cells. -/
def zPc : Array Value := (pc px0).toArray
theorem px0_tl : px0.z.tag.length = 32 := rfl
theorem zPc_size : zPc.size = 38 := by unfold zPc; rw [List.size_toArray, pc_len px0_tl]
theorem zPc_ne : ¬ zPc = #[] := fun h => by have := zPc_size; rw [h] at this; simp at this
theorem zPk (w : World) : (zeroValue 26).run Tryd.prog w = .ok (.agg zPc) w := by
  obtain ⟨i, hi, hz, hs, hb⟩ := info_parts (show (Tryd.prog.info? 26).map (fun i => (i.zero, i.size, i.bytes)) = some (some (.agg (pc px0).toArray), 38, 96) by kernel_rfl)
  simp [zeroValue, run_typeInfo w hi, hz, zPc]
theorem zbox_new (w : World) (y : TypeId) (g : Nat) (hg : w.heap.size = g) : VBox (w.alloc (.cells zPc y)) g 38 (pc px0) := vbox_new _ _ _ _ _ hg (pc_len px0_tl) (by omega)
theorem bs_drew {w : World} {B n : Nat} {A : Option Addr} {zs : List Int} (h : Bs w B A n zs) : Bs w.drew B A n zs := h.drew
theorem below_drewB {B : Nat} {a w : World} (h : Below B a w) : Below B a w.drew := h.drew
/-- What Right tells. -/
def RightT (w : World) (q : Bool) (e : Ending) (w' : World) : Prop := e = .returned (.bool q) ∧ Below w.heap.size w w'
set_option maxHeartbeats 4000000 in
theorem right_any {w : World} {B Br n : Nat} (c : Nat) {A : Option Addr} {root : List Int} {x : PX} (hr : Bs w Br A n root) (hBr : Br ≤ w.heap.size) (hn : n ≤ 3000) (h : PXOk w B x) (hB : B ≤ w.heap.size) (hl : x.n ≤ 65000) (hF : LaidF w) (hK : LaidK w) :
    Calls Tryd.prog 12 #[.slice A n c, .agg (pc x).toArray] w (RightT w (eqB x.z.tag (tagR root x.z))) := by
  obtain ⟨W1, hW1⟩ : ∃ W, W = w.alloc (.cells (pc x).toArray 26) := ⟨_, rfl⟩
  obtain ⟨g, hg⟩ : ∃ g, w.heap.size = g := ⟨_, rfl⟩
  obtain ⟨nb, hnb⟩ : ∃ nb, W1.heap.size = nb := ⟨_, rfl⟩
  have hg1 : nb = g + 1 := by rw [← hnb, hW1]; simp [hg]
  have b1 : Below w.heap.size w W1 := by rw [hW1]; exact below_one _ _
  have B1 := Lib.hid b1
  have V1 := Lib.hid (show VBox W1 g 38 (pc x) by rw [hW1]; exact pbox_new w x h.ok.tl _ g hg)
  have HG := Lib.hid hg
  have HN := Lib.hid hg1
  have HNB := Lib.hid hnb
  have HW1 := Lib.hid hW1
  have HX : Hid (∀ W, Below nb W1 W → VBox W g 38 (pc x)) := Lib.hid (fun W hW => V1.out.below hW (by omega))
  have LW : Hid (∀ W, Below nb W1 W → Below w.heap.size w W) := Lib.hid (fun W hW => b1.trans (hW.mono (by omega)))
  have PW : Hid (∀ W, Below nb W1 W → LaidF W ∧ LaidK W ∧ Bs W Br A n root ∧ Br ≤ W.heap.size ∧ PXOk W B x ∧ B ≤ W.heap.size) := Lib.hid (fun W hW => by
    have hb := b1.trans (hW.mono (show w.heap.size ≤ nb by omega))
    exact ⟨hF.below hb hF.lt, hK.below hb hK.lt, hr.belowM hb hBr, Nat.le_trans hBr hb.size, h.below hb hB, Nat.le_trans hB hb.size⟩)
  obtain ⟨T, hT⟩ : ∃ T, tagR root x.z = T := ⟨_, rfl⟩
  have lT : T.length = 32 := by rw [← hT]; exact tagR_len _ _
  have bT : IsBytes T := by rw [← hT]; exact tagR_bytes _ _
  have HT := Lib.hid hT
  have htl := h.ok.tl
  have htb := h.ok.tag
  have P1 : Hid (Below nb W1 W1) := Lib.hid (Below.refl _ _)
  rw [hT]
  clear hW1 hg hnb hg1 b1 hr hBr h hB hT hF hK
  go_enter Tryd.func12, Tryd.ntmps12
  go_upto_region 1 with fail
  rw [← HW1.out, HG.out]
  refine Late.region (fun w' => Below nb W1 w') [] (by kernel_rfl) P1.out.drew (fun hHeld => ?_)
  refine Late.take (i := 0) (oi := ⟨some 5, Op.fieldAddr 26 (Operand.tmp 3) 6, _, _, _, _⟩) (v := ?_) rfl (by kernel_rfl) (by kernel_rfl) (by kernel_rfl) (by kernel_rfl) (fun _ _ _ h => h) (Or.inl ⟨by rfl, fun w hSw => ?_⟩) (by assumption) ?_
  rotate_left
  · (have s1 := hSw; go_simp; try with_reducible rfl)
  try simp only [Act.put, List.setIfInBounds_toArray, List.set_cons_zero, List.set_cons_succ]
  refine Late.take (i := 1) (oi := ⟨some 6, Op.load 24 (Operand.tmp 5), _, _, _, _⟩) (v := _) rfl (by kernel_rfl) (by kernel_rfl) (by kernel_rfl) (by kernel_rfl) (fun _ _ _ h => h) (yieldsIf_load_mid (by rfl) _ _ rfl _ _ rfl (vals x.z.tag) _ (fun W hW => pbox_tag (HX.out W hW)) Tryd.underlying24 rfl (tag_size x.z.tag htl)) (by assumption) ?_
  try simp only [Act.put, List.setIfInBounds_toArray, List.set_cons_zero, List.set_cons_succ]
  refine Late.take (i := 2) (oi := ⟨some 7, Op.move (Operand.tmp 0), _, _, _, _⟩) (v := ?_) rfl (by kernel_rfl) (by kernel_rfl) (by kernel_rfl) (by kernel_rfl) (fun _ _ _ h => h) (Or.inl ⟨by rfl, fun w hSw => ?_⟩) (by assumption) ?_
  rotate_left
  · (have s1 := hSw; go_simp; try with_reducible rfl)
  try simp only [Act.put, List.setIfInBounds_toArray, List.set_cons_zero, List.set_cons_succ]
  refine Late.take (i := 3) (oi := ⟨some 8, Op.load 26 (Operand.tmp 3), _, _, _, _⟩) (v := _) rfl (by kernel_rfl) (by kernel_rfl) (by kernel_rfl) (by kernel_rfl) (fun _ _ _ h => h) (yieldsIf_load_mid (by rfl) _ _ rfl _ _ rfl (pc x) _ (fun W hW => (HX.out W hW).range) Tryd.underlying26 rfl (p_size htl)) (by assumption) ?_
  try simp only [Act.put, List.setIfInBounds_toArray, List.set_cons_zero, List.set_cons_succ]
  refine Late.one (i := 4) (o := ⟨some 9, Op.call { callee := Callee.value (Operand.func 27), args := #[Operand.tmp 7, Operand.tmp 8], argTypes := #[22, 26] }, _, _, _, _⟩) (by kernel_rfl) rfl (fun K hK => ?_)
  go_simp
  obtain ⟨q1, q2, q3, q4, q5, q6⟩ := PW.out _ hHeld
  refine (righttag_any c q3 q4 hn q5 q6 hl q1 q2).mono ?_
  rw [HT.out]
  rintro e w2 ⟨rfl, hb⟩
  have hb2 := hHeld.trans (hb.mono (by have := hHeld.size; have := HNB.out; omega))
  refine hK.out _ _ (hb2) (fun hHeld2 => ?_)
  clear hK K hHeld
  have hHeld := hHeld2
  clear hHeld2
  try simp only [Act.put, List.setIfInBounds_toArray, List.set_cons_zero, List.set_cons_succ]
  refine Late.one (i := 5) (o := ⟨some 10, Op.call { callee := Callee.value (Operand.func 32), args := #[Operand.tmp 6, Operand.tmp 9], argTypes := #[24, 24] }, _, _, _, _⟩) (by kernel_rfl) rfl (fun K hK => ?_)
  go_simp
  refine (hsame_any x.z.tag T htl lT htb bT _).mono ?_
  rintro e w3 ⟨rfl, hb⟩
  have hb3 := hHeld.trans (hb.mono (by have := hHeld.size; have := HNB.out; omega))
  refine hK.out _ _ (hb3) (fun hHeld2 => ?_)
  clear hK K hHeld
  have hHeld := hHeld2
  clear hHeld2
  try simp only [Act.put, List.setIfInBounds_toArray, List.set_cons_zero, List.set_cons_succ]
  refine Late.take (i := 6) (oi := ⟨some 4, Op.assign (Operand.tmp 10), _, _, _, _⟩) (v := ?_) rfl (by kernel_rfl) (by kernel_rfl) (by kernel_rfl) (by kernel_rfl) (fun _ _ _ h => h) (Or.inl ⟨by rfl, fun w hSw => ?_⟩) (by assumption) ?_
  rotate_left
  · (have s1 := hSw; go_simp; try with_reducible rfl)
  try simp only [Act.put, List.setIfInBounds_toArray, List.set_cons_zero, List.set_cons_succ]
  refine Late.done (by kernel_rfl) ?_ _
  refine NoPanic.normal ?_
  have BZ := Lib.hid (LW.out _ hHeld)
  clear hHeld
  go_wp2
  go_ret
  exact ⟨rfl, BZ.out⟩
/-- What Seal tells: the packet with its right tag, its body in new memory. -/
def SealT (w : World) (z : PkZ) (e : Ending) (w' : World) : Prop := ∃ x : PX, e = .returned (.agg (pc x).toArray) ∧ x.z = z ∧ PXOk w' w'.heap.size x ∧ w'.ownsRow w.heap.size 5 1 (.slice x.A x.n x.c) x.n (vals x.z.body) ∧ Below w.heap.size w w'
theorem pc_tag (x : PX) (T : List Int) (hx : x.z.tag.length = 32) (hT : T.length = 32) : (pc x).take 6 ++ vals T = pc { x with z := { x.z with tag := T } } := by
  unfold pc pnum
  rfl
theorem set_tagL (x : PX) (T : List Int) (hx : x.z.tag.length = 32) (hT : T.length = 32) {w w' : World} {g : Nat} (h : VBox w g 38 (pc x)) (hw : Hid (w' = w.setCells g 6 (vals T).toArray.toList)) : VBox w' g 38 (pc { x with z := { x.z with tag := T } }) := by
  refine ⟨fun j v hv => ?_, by rw [hw.out]; exact World.there_setCells h.there _ _ _, pc_len hT, by omega⟩
  have th : w.there g 6 (vals T).length := h.thereI (by rw [vals_len, hT]; omega)
  have r6 : w'.rangeAt g 6 (vals T) := by rw [hw.out]; exact World.rangeAt_setCells_same _ _ _ _ th
  rw [Nat.zero_add]
  by_cases hj : j < 6
  · have e : (pc { x with z := { x.z with tag := T } })[j]? = (pc x)[j]? := by
      have : j = 0 ∨ j = 1 ∨ j = 2 ∨ j = 3 ∨ j = 4 ∨ j = 5 := by omega
      rcases this with rfl | rfl | rfl | rfl | rfl | rfl <;> rfl
    rw [e] at hv
    have := h.range j v hv
    rw [Nat.zero_add] at this
    rw [hw.out]
    rw [show (vals T).toArray.toList = vals T from rfl, World.cell?_setCells_out g (vals T) 6 w ⟨g, j, none⟩ (fun _ _ => .inl hj)]
    exact this
  · have e : (pc { x with z := { x.z with tag := T } })[j]? = (vals T)[j - 6]? := by
      rw [show pc { x with z := { x.z with tag := T } } = (pnum x.z ++ [.slice x.A x.n x.c]) ++ vals T from by simp [pc, pnum]]
      rw [List.getElem?_append_right (by simp [pnum]; omega)]
      rfl
    rw [e] at hv
    have := r6 (j - 6) v hv
    rwa [show 6 + (j - 6) = j by omega] at this
theorem set_body (x : PX) (A : Option Addr) (n c : Nat) : (pc x).set 5 (.slice A n c) = pc { x with A := A, n := n, c := c } := rfl
set_option maxHeartbeats 4000000 in
theorem seal_any {w : World} {B Br n : Nat} (c : Nat) {A : Option Addr} {root : List Int} {x : PX} (hr : Bs w Br A n root) (hBr : Br ≤ w.heap.size) (hn : n ≤ 3000) (h : PXOk w B x) (hB : B ≤ w.heap.size) (hl : x.n ≤ 65000) (hF : LaidF w) (hK : LaidK w) :
    Calls Tryd.prog 9 #[.slice A n c, .agg (pc x).toArray] w (SealT w (sealZ root x.z)) := by
  obtain ⟨W0, hW0⟩ : ∃ W, W = w.alloc (.cells (pc x).toArray 26) := ⟨_, rfl⟩
  obtain ⟨W1, hW1⟩ : ∃ W, W = W0.alloc (.cells zPc 26) := ⟨_, rfl⟩
  obtain ⟨g, hg⟩ : ∃ g, w.heap.size = g := ⟨_, rfl⟩
  have hg0 : W0.heap.size = g + 1 := by rw [hW0, ← hg]; simp
  have hg1 : W1.heap.size = g + 2 := by rw [hW1]; simp [hg0]
  have b0 : Below w.heap.size w W0 := by rw [hW0]; exact below_one _ _
  have b1 : Below w.heap.size w W1 := b0.trans ((show Below W0.heap.size W0 W1 by rw [hW1]; exact below_one _ _).mono b0.size)
  have B1 := Lib.hid b1
  have V0' : VBox W0 g 38 (pc x) := by rw [hW0]; exact pbox_new w x h.ok.tl _ g hg
  have V0 := Lib.hid (show VBox W1 g 38 (pc x) by rw [hW1]; exact V0'.same (Below.heap_alloc _ _ _ (by rw [hg0]; omega)))
  have V1 := Lib.hid (show VBox W1 (g + 1) 38 (pc px0) by rw [hW1]; exact zbox_new W0 _ (g + 1) hg0)
  have HG := Lib.hid hg
  have HG1 := Lib.hid hg1
  have HW : Hid (W1 = (w.alloc (.cells (pc x).toArray 26)).alloc (.cells zPc 26)) := Lib.hid (by rw [hW1, hW0])
  obtain ⟨T, hT⟩ : ∃ T, tagR root x.z = T := ⟨_, rfl⟩
  have lT : Hid (T.length = 32) := Lib.hid (by rw [← hT]; exact tagR_len _ _)
  have bT : Hid (IsBytes T) := Lib.hid (by rw [← hT]; exact tagR_bytes _ _)
  obtain ⟨y, hy⟩ : ∃ y : PX, y = { x with z := { x.z with tag := T } } := ⟨_, rfl⟩
  have HY : Hid (sealZ root x.z = y.z) := Lib.hid (by rw [hy]; unfold sealZ; rw [hT])
  have HX := Lib.hid (righttag_any (w := W1) c (hr.belowM b1 hBr) (Nat.le_trans hBr b1.size) hn (h.below b1 hB) (Nat.le_trans hB b1.size) hl (hF.below b1 hF.lt) (hK.below b1 hK.lt))
  rw [hT] at HX
  have HTL := Lib.hid h.ok.tl
  have HO := Lib.hid h.ok
  have HBD : Hid (∀ W, Below w.heap.size w W → Bs W B x.A x.n x.z.body ∧ B ≤ W.heap.size) := Lib.hid (fun W hW => ⟨h.body.belowM hW hB, Nat.le_trans hB hW.size⟩)
  rw [HY.out]
  clear hW0 hW1 hg hg0 hg1 b0 b1 hr hBr h hB hT hF hK V0'
  have zk := zPk
  have zs := zPc_size
  have zn := zPc_ne
  go_enter Tryd.func9, Tryd.ntmps9
  go_upto_region 1 with fail
  rw [← HW.out, HG.out]
  clear zk zs zn
  go_upto_region 2 with (first
      | (show wpList _ _ _ (⟨some 6, .load 26 (.tmp 3), _, _, _, _⟩ :: _) _ _; refine wpList_load_mid (op := ⟨some 6, .load 26 (.tmp 3), _, _, _, _⟩) rfl 26 (.tmp 3) rfl (g) 0 rfl (pc x) _ (V0.out.range) Tryd.underlying26 rfl (p_size HTL.out) ?_)
      | (go_at_call 27; refine (HX.out).mono ?_; rintro e w2 ⟨rfl, hb⟩; have B2 := Lib.hid hb; have TH := Lib.hid (show w2.there g 6 (vals T).toArray.size by rw [List.size_toArray, vals_len, lT.out]; exact (V0.out.below hb (by have := HG1.out; omega)).thereI (by omega)); clear hb)
      | (show wpList _ _ _ (⟨none, .store 24 (.tmp 8) (.tmp 7), _, _, _, _⟩ :: _) _ _; refine wpList_store_as (op := ⟨none, .store 24 (.tmp 8) (.tmp 7), _, _, _, _⟩) rfl 24 (.tmp 8) (.tmp 7) rfl (g) 6 (vals T).toArray rfl rfl (TH.out) (tag_size T lT.out) (all_oneCell_toArray (vals_one T)) ?_; intro w3 hw3))
  have V3 : VBox w3 g 38 (pc y) := by rw [hy]; exact set_tagL x T HTL.out lT.out (V0.out.below B2.out (by have := HG1.out; omega)) hw3
  have hk3 : ∀ k, k ≠ g → w3.heap[k]? = w2.heap[k]? := fun k hk => by rw [hw3.out]; exact heap_setCells g k hk _ _ _
  have s3 : w3.heap.size = w2.heap.size := by rw [hw3.out]; exact size_setCellsQ _ _ _ _
  have V13 : VBox w3 (g + 1) 38 (pc px0) := (V1.out.below B2.out (by have := HG1.out; omega)).same (hk3 (g + 1) (by omega))
  have BT3 : Below w.heap.size w w3 := by rw [hw3.out]; exact below_setCells (by rw [HG.out]; omega) _ _ _ (B1.out.trans (B2.out.mono B1.out.size))
  have hyA : y.A = x.A ∧ y.n = x.n ∧ y.c = x.c ∧ y.z.body = x.z.body := by rw [hy]; exact ⟨rfl, rfl, rfl, rfl⟩
  have hyT : y.z.tag.length = 32 := by rw [hy]; exact lT.out
  have hyO : POk y.z := by rw [hy]; exact ⟨HO.out.fr, HO.out.tw, HO.out.ep, HO.out.bo, HO.out.sq, HO.out.body, HO.out.bl, bT.out, lT.out⟩
  have Y := Lib.hid hyT
  have YO := Lib.hid hyO
  have V3' := Lib.hid V3
  have V13' := Lib.hid V13
  have BT3' := Lib.hid BT3
  have SZ3 : Hid (g + 2 ≤ w3.heap.size) := Lib.hid (by rw [s3]; have := B2.out.size; have := HG1.out; omega)
  obtain ⟨_, _, _, _, _, c5⟩ := pbox_cells V3
  have f5 := V3.fr1 (i := 5) (by omega)
  have hb5 := (HBD.out w3 BT3)
  rw [← hyA.1, ← hyA.2.1, ← hyA.2.2.2] at hb5
  have hyn : y.n ≤ 1000000 := by rw [hyA.2.1]; omega
  have CL := Lib.hid (bclone_any y.c hb5.1 hb5.2 hyn)
  clear hb5 hyn hy hyA hyT hyO V3 V13 BT3 hk3 s3 hw3
  go_upto_region 3 with (go_at_call 28; refine CL.out.mono ?_; rintro e w4 ⟨X, rfl, hX, hb4⟩; have c5' := (V3'.out.below hb4 (by have := SZ3.out; omega)).at1 (i := 5) rfl; have f5' := (V3'.out.below hb4 (by have := SZ3.out; omega)).fr1 (i := 5) (by omega); obtain ⟨D, d, rfl, ho4, hd1, hd2⟩ := hX; have HX4 := Lib.hid ho4; have HD4 := Lib.hid (And.intro hd1 hd2); have B4 := Lib.hid hb4; clear ho4 hd1 hd2 hb4)
  have ho4 := HX4.out
  obtain ⟨hd1, hd2⟩ := HD4.out
  obtain ⟨w5, hw5⟩ : ∃ W, W = w4.setCell ⟨g, 5, none⟩ (.slice D y.z.body.length d) := ⟨_, rfl⟩
  rw [← hw5]
  obtain ⟨u, hu⟩ : ∃ u : PX, u = { y with A := D, n := y.z.body.length, c := d } := ⟨_, rfl⟩
  have V5 : VBox w5 g 38 (pc u) := by
    have := (V3'.out.below B4.out (by have := SZ3.out; omega)).set1 (i := 5) (by omega) (.slice D y.z.body.length d)
    rw [set_body] at this
    rw [hw5, hu]; exact this
  have V15 : VBox w5 (g + 1) 38 (pc px0) := by rw [hw5]; exact (V13'.out.below B4.out (by have := SZ3.out; omega)).same (Below.heap_setCell _ _ _ _ (by show g + 1 ≠ g; omega))
  have O5 : w5.ownsRow w3.heap.size 5 1 (.slice D y.z.body.length d) y.z.body.length (vals y.z.body) := by
    rw [hw5]; exact own_keepB ho4 (fun k h1 h2 => Below.heap_setCell _ _ _ _ (by show k ≠ g; have := SZ3.out; omega))
  have BT5 : Below w.heap.size w w5 := by rw [hw5]; exact (BT3'.out.trans (B4.out.mono BT3'.out.size)).setCell (p := ⟨g, 5, none⟩) (by show w.heap.size ≤ g; rw [HG.out]; omega) _
  have uz : u.z = y.z := by rw [hu]
  have uA : u.A = D ∧ u.n = y.z.body.length ∧ u.c = d := by rw [hu]; exact ⟨rfl, rfl, rfl⟩
  have UT := Lib.hid (show u.z.tag.length = 32 by rw [uz]; exact Y.out)
  have V5' := Lib.hid V5
  have VT := Lib.hid (vthere V15 (us := pc u) (pc_len UT.out))
  have V15' := Lib.hid V15
  have O5' := Lib.hid O5
  have BT5' := Lib.hid BT5
  have UZ := Lib.hid uz
  have UA := Lib.hid uA
  have UD := Lib.hid (And.intro hd1 hd2)
  clear hw5 hu V5 V15 O5 BT5 uz uA ho4 c5' f5' c5 f5 hd1 hd2
  go_wp2_with (first
      | (show wpList _ _ _ (⟨some 13, .load 26 (.tmp 3), _, _, _, _⟩ :: _) _ _; refine wpList_load_mid (op := ⟨some 13, .load 26 (.tmp 3), _, _, _, _⟩) rfl 26 (.tmp 3) rfl (g) 0 rfl (pc u) _ (V5'.out.range) Tryd.underlying26 rfl (p_size UT.out) ?_)
      | (show wpList _ _ _ (⟨none, .store 26 (.tmp 4) (.tmp 13), _, _, _, _⟩ :: _) _ _; refine wpList_store_as (op := ⟨none, .store 26 (.tmp 4) (.tmp 13), _, _, _, _⟩) rfl 26 (.tmp 4) (.tmp 13) rfl (g + 1) 0 (pc u).toArray rfl rfl (VT.out) (p_sizeA UT.out) (p_oneA u) ?_; intro w9 hw9))
  obtain ⟨V9, b9⟩ := vstored V15'.out (pc_len UT.out) hw9 (by rw [HG.out]; omega) BT5'.out
  have hk9 : ∀ k, k ≠ g + 1 → w9.heap[k]? = w5.heap[k]? := fun k hk => by rw [hw9.out]; exact heap_setCells (g + 1) k hk _ _ _
  have O9 := own_keepB O5'.out (fun k h1 h2 => hk9 k (by have := SZ3.out; omega))
  refine bodyPost_ret (v := .agg (pc u).toArray) (results_mid (p := 4) (ty := 26) rfl _ _ (g + 1) 0 (pc u) _ rfl V9.range Tryd.underlying26 rfl (p_size UT.out)) rfl ?_
  have ho : w9.ownsRow w.heap.size 5 1 (.slice u.A u.n u.c) u.n (vals u.z.body) := by
    rw [UA.out.1, UA.out.2.1, UA.out.2.2, UZ.out]
    exact own_base O9 (by rw [HG.out]; have := SZ3.out; omega)
  have ok : POk u.z := by rw [UZ.out]; exact YO.out
  exact ⟨u, rfl, UZ.out, ⟨ok, bs_of_own ho ok.body, by rw [UA.out.2.1, UA.out.2.2]; exact UD.out.1, by rw [UA.out.2.2]; exact UD.out.2⟩, ho, b9⟩
/-- What Print tells. -/
def PrintT (w : World) (zs : List Int) (er : Int) (e : Ending) (w' : World) : Prop := ∃ u, e = .returned (.tuple #[u, .int .i64 er]) ∧ IsList u w' w.heap.size zs ∧ Below w.heap.size w w'
theorem isList_none (w : World) (b : Nat) : IsList (.slice none 0 0) w b [] := ⟨none, 0, rfl, World.ownsRow_nil _ _ _ _, Nat.le_refl _, by simp [maxLen]⟩
theorem print_no {w : World} {x : PX} (ht : x.z.tag.length = 32) (hm : mayP x.z = false) : Calls Tryd.prog 15 #[.agg (pc x).toArray] w (PrintT w [] 2) := by
  obtain ⟨W1, hW1⟩ : ∃ W, W = w.alloc (.cells (pc x).toArray 26) := ⟨_, rfl⟩
  obtain ⟨g, hg⟩ : ∃ g, w.heap.size = g := ⟨_, rfl⟩
  have B1 := Lib.hid (show Below w.heap.size w W1 by rw [hW1]; exact below_one _ _)
  have V1 := Lib.hid (show VBox W1 g 38 (pc x) by rw [hW1]; exact pbox_new w x ht _ g hg)
  have MM := Lib.hid (pmay_any ht false hm)
  have HG := Lib.hid hg
  have HW1 := Lib.hid hW1
  have HTL := Lib.hid ht
  clear hW1 hg hm ht
  go_enter Tryd.func15, Tryd.ntmps15
  go_upto_region 1 with fail
  rw [← HW1.out, HG.out]
  go_wp2_with (first
      | (show wpList _ _ _ (⟨some 4, .load 26 (.tmp 1), _, _, _, _⟩ :: _) _ _; refine wpList_load_mid (op := ⟨some 4, .load 26 (.tmp 1), _, _, _, _⟩) rfl 26 (.tmp 1) rfl (g) 0 rfl (pc x) _ (V1.out.range) Tryd.underlying26 rfl (p_size HTL.out) ?_)
      | (go_at_call 13; refine (MM.out _).mono ?_; rintro e w2 ⟨rfl, hb⟩; have B2 := Lib.hid hb; clear hb))
  go_ret2
  exact ⟨_, rfl, isList_none _ _, B1.out.trans (B2.out.mono B1.out.size)⟩
set_option maxHeartbeats 4000000 in
theorem print_yes {w : World} {B : Nat} {x : PX} (h : PXOk w B x) (hB : B ≤ w.heap.size) (hl : x.n ≤ 65000) (hm : mayP x.z = true) : Calls Tryd.prog 15 #[.agg (pc x).toArray] w (PrintT w (bytesP x.z) 0) := by
  obtain ⟨W1, hW1⟩ : ∃ W, W = w.alloc (.cells (pc x).toArray 26) := ⟨_, rfl⟩
  obtain ⟨g, hg⟩ : ∃ g, w.heap.size = g := ⟨_, rfl⟩
  have hg1 : W1.heap.size = g + 1 := by rw [hW1]; simp [hg]
  have b1 : Below w.heap.size w W1 := by rw [hW1]; exact below_one _ _
  have B1 := Lib.hid b1
  have V1 := Lib.hid (show VBox W1 g 38 (pc x) by rw [hW1]; exact pbox_new w x h.ok.tl _ g hg)
  have MM := Lib.hid (pmay_any h.ok.tl true hm)
  have HG := Lib.hid hg
  have HG1 := Lib.hid hg1
  have HW1 := Lib.hid hW1
  have HTL := Lib.hid h.ok.tl
  have HH := Lib.hid (h.below b1 hB)
  have HBB := Lib.hid (Nat.le_trans hB b1.size)
  have htl := h.ok.tl
  have htb := h.ok.tag
  have HST := Lib.hid (show wPut (some (headF x.z)) x.z.tag = some (bytesP x.z) from wPut_yes _ _ (by rw [headF_len, h.body.len, h.ok.tl]; omega))
  clear hW1 hg hg1 hm b1 h hB
  go_enter Tryd.func15, Tryd.ntmps15
  go_upto_region 1 with fail
  rw [← HW1.out, HG.out]
  go_upto_region 3 with (first
      | (show wpList _ _ _ (⟨some 4, .load 26 (.tmp 1), _, _, _, _⟩ :: _) _ _; refine wpList_load_mid (op := ⟨some 4, .load 26 (.tmp 1), _, _, _, _⟩) rfl 26 (.tmp 1) rfl (g) 0 rfl (pc x) _ (V1.out.range) Tryd.underlying26 rfl (p_size HTL.out) ?_)
      | (go_at_call 13; refine (MM.out _).mono ?_; rintro e w2 ⟨rfl, hb⟩; have B2 := Lib.hid hb; clear hb))
  obtain ⟨nb, hnb⟩ : ∃ nb, w2.heap.size = nb := ⟨_, rfl⟩
  have HNB := Lib.hid hnb
  have GN : Hid (g < nb) := Lib.hid (by rw [← hnb]; have := B2.out.size; have := HG1.out; omega)
  have V2 := Lib.hid (V1.out.below B2.out (by have := HG1.out; omega))
  have HX : Hid (∀ W, Below nb w2 W → VBox W g 38 (pc x)) := Lib.hid (fun W hW => V2.out.below hW GN.out)
  have PW : Hid (∀ W, Below nb w2 W → PXOk W B x ∧ B ≤ W.heap.size) := Lib.hid (fun W hW => by
    have hb := B2.out.trans (hW.mono (by have := B2.out.size; have := HNB.out; omega))
    exact ⟨HH.out.below hb HBB.out, Nat.le_trans HBB.out hb.size⟩)
  have P2 : Hid (Below nb w2 w2) := Lib.hid (Below.refl _ _)
  have BT : Hid (∀ W, Below nb w2 W → Below w.heap.size w W) := Lib.hid (fun W hW => (B1.out.trans (B2.out.mono B1.out.size)).trans (hW.mono (by rw [HG.out]; have := GN.out; omega)))
  clear hnb
  refine Late.region (fun w' => Below nb w2 w') [] (by kernel_rfl) P2.out.drew (fun hHeld => ?_)
  refine Late.take (i := 0) (oi := ⟨some 7, Op.load 26 (Operand.tmp 1), _, _, _, _⟩) (v := _) rfl (by kernel_rfl) (by kernel_rfl) (by kernel_rfl) (by kernel_rfl) (fun _ _ _ h => h) (yieldsIf_load_mid (by rfl) _ _ rfl _ _ rfl (pc x) _ (fun W hW => (HX.out W hW).range) Tryd.underlying26 rfl (p_size htl)) (by assumption) ?_
  try simp only [Act.put, List.setIfInBounds_toArray, List.set_cons_zero, List.set_cons_succ]
  refine Late.take (i := 2) (oi := ⟨some 9, Op.fieldAddr 26 (Operand.tmp 1) 6, _, _, _, _⟩) (v := ?_) rfl (by kernel_rfl) (by kernel_rfl) (by kernel_rfl) (by kernel_rfl) (fun _ _ _ h => h) (Or.inl ⟨by rfl, fun w hSw => ?_⟩) (by assumption) ?_
  rotate_left
  · (have s1 := hSw; go_simp; try with_reducible rfl)
  try simp only [Act.put, List.setIfInBounds_toArray, List.set_cons_zero, List.set_cons_succ]
  refine Late.take (i := 3) (oi := ⟨some 10, Op.load 24 (Operand.tmp 9), _, _, _, _⟩) (v := _) rfl (by kernel_rfl) (by kernel_rfl) (by kernel_rfl) (by kernel_rfl) (fun _ _ _ h => h) (yieldsIf_load_mid (by rfl) _ _ rfl _ _ rfl (vals x.z.tag) _ (fun W hW => pbox_tag (HX.out W hW)) Tryd.underlying24 rfl (tag_size x.z.tag htl)) (by assumption) ?_
  try simp only [Act.put, List.setIfInBounds_toArray, List.set_cons_zero, List.set_cons_succ]
  refine Late.one (i := 1) (o := ⟨some 8, Op.call { callee := Callee.value (Operand.func 35), args := #[Operand.tmp 7], argTypes := #[26] }, _, _, _, _⟩) (by kernel_rfl) rfl (fun K hK => ?_)
  go_simp
  obtain ⟨q1, q2⟩ := PW.out _ hHeld
  refine (head_any q1 q2 hl).mono ?_
  rintro e w3 ⟨mb, gw, rfl, hr0, hb0, hm0⟩
  have hb3 := hHeld.trans (hb0.mono (by have := hHeld.size; have := HNB.out; omega))
  have hmb : nb ≤ mb := by have := hHeld.size; have := HNB.out; omega
  clear hb0 hm0 q1 q2
  refine hK.out _ _ (hb3) (fun hHeld2 => ?_)
  clear hK K hHeld
  have hHeld := hHeld2
  clear hHeld2
  try simp only [Act.put, List.setIfInBounds_toArray, List.set_cons_zero, List.set_cons_succ]
  refine Late.one (i := 4) (o := ⟨some 11, Op.call { callee := Callee.value (Operand.func 36), args := #[Operand.tmp 8, Operand.tmp 10], argTypes := #[65, 24] }, _, _, _, _⟩) (by kernel_rfl) rfl (fun K hK => ?_)
  go_simp
  refine (tag_wr hr0 x.z.tag htl htb).mono ?_
  rintro e w4 ⟨rfl, gw2, hr1, ho1, hf1⟩
  rw [HST.out] at hr1
  have hb4 := hHeld.trans (Wr.below hr0 ho1 hmb)
  refine hK.out _ _ (hb4) (fun hHeld2 => ?_)
  clear hK K hHeld
  have hHeld := hHeld2
  clear hHeld2
  try simp only [Act.put, List.setIfInBounds_toArray, List.set_cons_zero, List.set_cons_succ]
  refine Late.one (i := 5) (o := ⟨some 12, Op.call { callee := Callee.value (Operand.func 37), args := #[Operand.tmp 11], argTypes := #[65] }, _, _, _, _⟩) (by kernel_rfl) rfl (fun K hK => ?_)
  go_simp
  refine (done_ok hr1).mono ?_
  rintro e w5 ⟨u, rfl, hu, hb0⟩
  have hb5 := hHeld.trans (hb0.mono (by have := hHeld.size; have := HNB.out; omega))
  have hz4 : nb ≤ w4.heap.size := by have := hHeld.size; have := HNB.out; omega
  refine hK.out _ _ (hb5) (fun hHeld2 => ?_)
  clear hK K hHeld
  have hHeld := hHeld2
  clear hHeld2
  try simp only [Act.put, List.setIfInBounds_toArray, List.set_cons_zero, List.set_cons_succ]
  refine Late.take (i := 6) (oi := ⟨some 13, Op.extract (Operand.tmp 12) 0, _, _, _, _⟩) (v := ?_) rfl (by kernel_rfl) (by kernel_rfl) (by kernel_rfl) (by kernel_rfl) (fun _ _ _ h => h) (Or.inl ⟨by rfl, fun w hSw => ?_⟩) (by assumption) ?_
  rotate_left
  · (have s1 := hSw; go_simp; try with_reducible rfl)
  try simp only [Act.put, List.setIfInBounds_toArray, List.set_cons_zero, List.set_cons_succ]
  refine Late.take (i := 7) (oi := ⟨some 14, Op.extract (Operand.tmp 12) 1, _, _, _, _⟩) (v := ?_) rfl (by kernel_rfl) (by kernel_rfl) (by kernel_rfl) (by kernel_rfl) (fun _ _ _ h => h) (Or.inl ⟨by rfl, fun w hSw => ?_⟩) (by assumption) ?_
  rotate_left
  · (have s1 := hSw; go_simp; try with_reducible rfl)
  try simp only [Act.put, List.setIfInBounds_toArray, List.set_cons_zero, List.set_cons_succ]
  refine Late.take (i := 8) (oi := ⟨some 2, Op.assign (Operand.tmp 13), _, _, _, _⟩) (v := ?_) rfl (by kernel_rfl) (by kernel_rfl) (by kernel_rfl) (by kernel_rfl) (fun _ _ _ h => h) (Or.inl ⟨by rfl, fun w hSw => ?_⟩) (by assumption) ?_
  rotate_left
  · (have s1 := hSw; go_simp; try with_reducible rfl)
  try simp only [Act.put, List.setIfInBounds_toArray, List.set_cons_zero, List.set_cons_succ]
  refine Late.take (i := 9) (oi := ⟨some 3, Op.assign (Operand.tmp 14), _, _, _, _⟩) (v := ?_) rfl (by kernel_rfl) (by kernel_rfl) (by kernel_rfl) (by kernel_rfl) (fun _ _ _ h => h) (Or.inl ⟨by rfl, fun w hSw => ?_⟩) (by assumption) ?_
  rotate_left
  · (have s1 := hSw; go_simp; try with_reducible rfl)
  try simp only [Act.put, List.setIfInBounds_toArray, List.set_cons_zero, List.set_cons_succ]
  refine Late.done (by kernel_rfl) ?_ _
  refine NoPanic.normal ?_
  have HU := Lib.hid hu
  have HZ := Lib.hid hz4
  have BZ := Lib.hid (BT.out _ hHeld)
  clear hHeld hu hz4 hr0 hr1
  go_wp2
  go_ret2
  obtain ⟨D, d, e1, e2, e3⟩ := HU.out
  exact ⟨u, rfl, ⟨D, d, e1, own_base e2 (by rw [HG.out]; have := HZ.out; have := GN.out; omega), e3⟩, BZ.out⟩
end Go.Proofs.YtlknjaoamkcmjaaDoor
