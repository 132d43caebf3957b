/- The document's Same of two packets that are the same. -/
import Derived.Test.YtlknjaoamkcmjaaDoorLkD
import Derived.ChangeKeysEq
namespace Go.Proofs.YtlknjaoamkcmjaaDoor
open Go.ChangeShapes Go.WideShapes Go.ChangeAt Go.RowKit
set_option linter.unusedVariables false
set_option maxRecDepth 100000
set_option linter.unusedSimpArgs false
open Plain Sha Wn Lk
theorem run_part8R (a : List Int) (i : Nat) (hi : i < a.length) (w : World) : (part 5 (vals a).toArray (i * 1)).run Tryd.prog w = .ok (.int .u8 (a.getD i 0)) w := by
  have hx := vals_at a i hi
  simp [part, isAgg, run_underlying Tryd.underlying5, hx, go_sem]
theorem run_eqItems8R (d : Nat) (a b : List Int) (hl : a.length = b.length) (w : World) : ∀ (is : List Nat), (∀ i ∈ is, i < a.length) →
    (Op.eqItems (d + 1) 5 1 (vals a).toArray (vals b).toArray is).run Tryd.prog w = .ok (is.all fun i => a.getD i 0 == b.getD i 0) w
  | [], _ => by simp [Op.eqItems]
  | i :: is, h => by
    have hi := h i (by simp)
    simp only [Op.eqItems, Sem.run_bind, run_part8R a i hi w, run_part8R b i (by omega) w, Result.andThen_ok, run_equalIn_int w d 5 .u8 .u8 _ _ Tryd.underlying5, List.all_cons]
    have ih := run_eqItems8R d a b hl w is (fun j hj => h j (by simp [hj]))
    cases hc : (a.getD i 0 == b.getD i 0)
    · simp
    · simp only [Bool.not_true, Bool.false_eq_true, if_false, Bool.true_and]
      exact ih
theorem eqB_rangeR (a b : List Int) (hl : a.length = b.length) : ((List.range a.length).all fun i => a.getD i 0 == b.getD i 0) = eqB a b := by
  rw [Bool.eq_iff_iff]
  simp only [List.all_eq_true, List.mem_range, beq_iff_eq, eqB, decide_eq_true_eq]
  exact ⟨fun h => list_ext_getD hl h, fun h _ _ => by rw [h]⟩
theorem u8_cellsR : Tryd.prog.cellsOf 5 = 1 := by kernel_rfl
theorem run_tagInR (a b : List Int) (ha : a.length = 32) (hb : b.length = 32) (w : World) : (Op.equalIn 10000 24 (.agg (vals a).toArray) (.agg (vals b).toArray)).run Tryd.prog w = .ok (eqB a b) w := by
  obtain ⟨i, z, hi, _⟩ := u8_info
  rw [run_equalIn_array w 9999 (vals a).toArray (vals b).toArray Tryd.underlying24 hi, u8_cellsR]
  have := run_eqItems8R 9998 a b (by omega) w (List.range 32) (fun i hi => by rw [List.mem_range] at hi; omega)
  rw [this, ← eqB_rangeR a b (by omega), ha]
theorem run_tagEqR (a b : List Int) (ha : a.length = 32) (hb : b.length = 32) (w : World) : (binOp .eql 24 (.agg (vals a).toArray) (.agg (vals b).toArray)).run Tryd.prog w = .ok (.bool (eqB a b)) w := by
  rw [run_eql_struct, run_tagInR a b ha hb]; rfl
theorem run_tagNeR (a b : List Int) (ha : a.length = 32) (hb : b.length = 32) (w : World) : (binOp .neq 24 (.agg (vals a).toArray) (.agg (vals b).toArray)).run Tryd.prog w = .ok (.bool (!eqB a b)) w := by
  rw [run_neq_struct, run_tagInR a b ha hb]; rfl
theorem wpList_execGR {P : Program} {ops : Array Oper} {rest : List Oper} {op : Oper} {a : Act} {w : World} {Q : Exit → Act → World → Prop} (hw : Region.wanted op (yielded ops a.tmps) = true) (v : Value)
    (hrun : (execOp a.eval op).run P w = .ok (.value v) w) (h : wpList P ops Q rest (a.put op.dst v) w) : wpList P ops Q (op :: rest) a w := by
  simp only [wpList, hw, if_true]
  exact .inl (by unfold Oper.wp; simp only [hrun]; exact h)
theorem below_quietR {w w' : World} (h : ∃ m, w' = w.drewN m) : Below w.heap.size w w' := by obtain ⟨m, rfl⟩ := h; exact below_drewN (Below.refl _ _) m
set_option maxHeartbeats 8000000 in
theorem rlsame_any {w : World} {B1 B2 : Nat} {x y : PX} (hx : PXOk w B1 x) (hy : PXOk w B2 y) (hB1 : B1 ≤ w.heap.size) (hB2 : B2 ≤ w.heap.size) (he : y.z = x.z) : Calls Tryd.prog 11 #[.agg (pc x).toArray, .agg (pc y).toArray] w (fun e w' => e = .returned (.bool true) ∧ Below w.heap.size w w') := by
  obtain ⟨W0, hW0⟩ : ∃ W, W = w.alloc (.cells (pc x).toArray 26) := ⟨_, rfl⟩
  obtain ⟨W1, hW1⟩ : ∃ W, W = W0.alloc (.cells (pc y).toArray 26) := ⟨_, rfl⟩
  obtain ⟨g, hg⟩ : ∃ g, w.heap.size = g := ⟨_, rfl⟩
  have hg0 : W0.heap.size = g + 1 := by rw [hW0, ← hg]; simp
  have b0 : Below w.heap.size w W0 := by rw [hW0]; exact below_one _ _
  have b1 : Below w.heap.size w W1 := b0.trans ((show Below W0.heap.size W0 W1 by rw [hW1]; exact below_one _ _).mono b0.size)
  have V0' : VBox W0 g 38 (pc x) := by rw [hW0]; exact pbox_new w x hx.ok.tl _ g hg
  have V0 : VBox W1 g 38 (pc x) := by rw [hW1]; exact V0'.same (Below.heap_alloc _ _ _ (by rw [hg0]; omega))
  have V1 : VBox W1 (g + 1) 38 (pc y) := by rw [hW1]; exact pbox_new W0 y hy.ok.tl _ (g + 1) hg0
  obtain ⟨k0, k1, k2, k3, k4, k5⟩ := pbox_cells V0
  have hk := pbox_cells V1
  have ht := pbox_tag V1
  have htl := hx.ok.tl
  have R1 := Lib.hid (pbox_tag V0)
  rw [he] at hk ht
  have R2 := Lib.hid ht
  obtain ⟨j0, j1, j2, j3, j4, j5⟩ := hk
  have B1' := Lib.hid b1
  have HW : Hid (W1 = (w.alloc (.cells (pc x).toArray 26)).alloc (.cells (pc y).toArray 26)) := Lib.hid (by rw [hW1, hW0])
  have HG := Lib.hid hg
  have eqZ : Hid (eqB x.z.body x.z.body = true) := Lib.hid (eqB_self _)
  have hyb := (hy.body.belowM b1 hB2)
  rw [he] at hyb
  have hxl : x.n ≤ maxLen := Nat.le_trans hx.nc hx.cm
  have hyl : y.n ≤ maxLen := Nat.le_trans hy.nc hy.cm
  have SM := Lib.hid (refsame_any (w := W1) x.c y.c (hx.body.belowM b1 hB1) hyb hxl hyl)
  have hTG : ∀ w : World, (Op.equalIn 10000 24 (.agg (vals x.z.tag).toArray) (.agg (vals x.z.tag).toArray)).run Tryd.prog w = .ok true w := fun w => by
    rw [run_tagInR x.z.tag x.z.tag htl htl w, eqB_self]
  have T1 := HG
  clear hW0 hW1 hg hg0 b0 b1 V0' V0 V1 ht hyb hx hy hB1 hB2 he hxl hyl
  go_enter Tryd.func11, Tryd.ntmps11
  go_upto_region 1 with fail
  rw [← HW.out, HG.out]
  go_wp2_with (first
      | (go_at_call 16; refine (SM.out).mono ?_; rw [eqZ.out]; rintro e w2 ⟨rfl, hq⟩; have B2 := Lib.hid (below_quietR hq); clear hq)
      | (have g0 := T1; clear g0; show wpList _ _ _ (⟨some 40, .load 24 (.tmp 39), _, _, _, some (33, true)⟩ :: _) _ _; refine wpList_load_guardL (op := ⟨some 40, .load 24 (.tmp 39), _, _, _, some (33, true)⟩) (by rfl) 24 (.tmp 39) rfl (g) (6) rfl (vals x.z.tag) _ (R1.out) Tryd.underlying24 rfl (tag_size x.z.tag htl) ?_; refine wpList_execGR (op := ⟨some 41, .fieldAddr 26 (.tmp 3) 6, _, _, _, some (33, true)⟩) (by rfl) (.pointer (some ⟨g + 1, 6, none⟩)) (by go_simp; try rfl) ?_; refine wpList_load_guardL (op := ⟨some 42, .load 24 (.tmp 41), _, _, _, some (33, true)⟩) (by rfl) 24 (.tmp 41) rfl (g + 1) (6) rfl (vals x.z.tag) _ (R2.out) Tryd.underlying24 rfl (tag_size x.z.tag htl) ?_; clear T1))
  go_ret
  exact ⟨rfl, B1'.out.trans (B2.out.mono B1'.out.size)⟩
end Go.Proofs.YtlknjaoamkcmjaaDoor
