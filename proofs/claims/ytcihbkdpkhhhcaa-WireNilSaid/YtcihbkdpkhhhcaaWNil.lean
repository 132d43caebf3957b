/- The statement WireNil: the walk. -/
import Derived.Test.YtcihbkdpkhhhcaaNone
import Derived.Test.YtcihbkdpkhhhcaaFields
namespace Go.Proofs.Ytcihbkdpkhhhcaa
open Go.ChangeShapes Go.WideShapes Go.ChangeAt Go.RowKit
set_option linter.unusedVariables false
open Plain
/-- One field in a new row. -/
theorem fields_one {w : World} {B : Nat} {f : FieldZ} (h : FieldOk w B f) (hB : B ≤ w.heap.size) (t : TypeId) (g : Nat) (hg : w.heap.size = g) : Fields (w.alloc (.cells (fCells f).toArray t)) (g + 1) (some ⟨g, 0, none⟩) 1 (fun _ => f) := by
  subst hg
  have hh := heap_alloc_new w (.cells (fCells f).toArray t)
  have ho := h.grown (grown_alloc w (.cells (fCells f).toArray t) none) hB
  refine ⟨fun _ => ⟨w.heap.size, 0, rfl, by omega, fun j hj i v hv => ?_⟩, fun j hj => ⟨ho.kind, ho.n, ho.bs.more (by omega), ho.cap, ho.max, ho.small, ho.tag, ho.bytes⟩⟩
  have : j = 0 := by omega
  subst this
  rw [cell_of_row _ _ _ _ _ _ hh, List.getElem?_toArray]
  simpa using hv
theorem fold_set {α : Type} : ∀ (l : List α) (pre : List α) (init : Array α), init.size = pre.length + l.length → init.toList.take pre.length = pre → (List.foldl (fun cs (x : α × Nat) => cs.setIfInBounds x.snd x.fst) init (l.zipIdx pre.length)) = (pre ++ l).toArray
  | [], pre, init, hs, hp => by
    rw [List.zipIdx_nil, List.foldl_nil, List.append_nil]
    apply Array.toList_inj.1
    rw [List.toList_toArray, ← hp, List.take_of_length_le]
    rw [Array.length_toList]; simp at hs; omega
  | v :: l, pre, init, hs, hp => by
    rw [List.zipIdx_cons, List.foldl_cons]
    have hlt : pre.length < init.size := by rw [hs, List.length_cons]; omega
    have := fold_set l (pre ++ [v]) (init.setIfInBounds pre.length v) (by rw [Array.size_setIfInBounds, hs]; simp; omega) (by
      rw [Array.toList_setIfInBounds, List.length_append, List.length_singleton]
      apply List.ext_getElem?
      intro j
      rw [List.getElem?_take]
      by_cases hj : j < pre.length
      · rw [if_pos (by omega), List.getElem?_set_ne (by omega), List.getElem?_append_left hj]
        have h2 := congrArg (·[j]?) hp
        simpa [List.getElem?_take, hj] using h2
      · by_cases hj2 : j = pre.length
        · subst hj2
          rw [if_pos (by omega), List.getElem?_set_self (by rw [Array.length_toList]; exact hlt), List.getElem?_append_right (Nat.le_refl _)]
          simp
        · rw [if_neg (by omega), List.getElem?_eq_none (by simp; omega)])
    rw [List.length_append, List.length_singleton] at this
    rw [this, List.append_assoc]
    rfl
theorem fold_cells {f : FieldZ} (h : (fCells f).length = 35) (init : Array Value) (hi : init.size = 35) : (List.foldl (fun cs (x : Value × Nat) => cs.setIfInBounds x.snd x.fst) init (fCells f).zipIdx) = (fCells f).toArray := by
  have := fold_set (fCells f) [] init (by rw [hi, h]; rfl) rfl
  simpa using this
/-- Two lists: nobody's writers, nobody's readers. -/
def NilW (w : World) : World := (((w.alloc (.cells #[.bool false, .bool false, .slice none 0 0] 49)).alloc (.cells #[.pointer none, .pointer (some ⟨w.heap.size, 0, none⟩)] 24)).alloc (.cells #[.bool false, .int .i64 0, .slice none 0 0] 52)).alloc (.cells #[.pointer none, .pointer (some ⟨w.heap.size + 2, 0, none⟩)] 38)
theorem nil_world (w : World) : w.grownBy (NilW w) none ∧ (NilW w).heap.size = w.heap.size + 4 ∧ (NilW w).heap[w.heap.size]? = some (.cells #[.bool false, .bool false, .slice none 0 0] 49) ∧ (NilW w).heap[w.heap.size + 1]? = some (.cells #[.pointer none, .pointer (some ⟨w.heap.size, 0, none⟩)] 24) ∧
    (NilW w).heap[w.heap.size + 2]? = some (.cells #[.bool false, .int .i64 0, .slice none 0 0] 52) ∧ (NilW w).heap[w.heap.size + 3]? = some (.cells #[.pointer none, .pointer (some ⟨w.heap.size + 2, 0, none⟩)] 38) := by
  unfold NilW
  refine ⟨grown_trans (grown_trans (grown_trans (grown_alloc _ _ _) (grown_alloc _ _ _)) (grown_alloc _ _ _)) (grown_alloc _ _ _), by simp, ?_, ?_, ?_, ?_⟩
  · rw [Below.heap_alloc _ _ _ (by simp; omega), Below.heap_alloc _ _ _ (by simp; omega), Below.heap_alloc _ _ _ (by simp)]; exact heap_alloc_new _ _
  · rw [Below.heap_alloc _ _ _ (by simp), Below.heap_alloc _ _ _ (by simp)]
    have := heap_alloc_new (w.alloc (.cells #[.bool false, .bool false, .slice none 0 0] 49)) (.cells #[.pointer none, .pointer (some ⟨w.heap.size, 0, none⟩)] 24)
    rwa [show (w.alloc (.cells #[.bool false, .bool false, .slice none 0 0] 49)).heap.size = w.heap.size + 1 by simp] at this
  · rw [Below.heap_alloc _ _ _ (by simp)]
    have := heap_alloc_new ((w.alloc (.cells #[.bool false, .bool false, .slice none 0 0] 49)).alloc (.cells #[.pointer none, .pointer (some ⟨w.heap.size, 0, none⟩)] 24)) (.cells #[.bool false, .int .i64 0, .slice none 0 0] 52)
    rwa [show ((w.alloc (.cells #[.bool false, .bool false, .slice none 0 0] 49)).alloc (.cells #[.pointer none, .pointer (some ⟨w.heap.size, 0, none⟩)] 24)).heap.size = w.heap.size + 2 by simp] at this
  · have := heap_alloc_new (((w.alloc (.cells #[.bool false, .bool false, .slice none 0 0] 49)).alloc (.cells #[.pointer none, .pointer (some ⟨w.heap.size, 0, none⟩)] 24)).alloc (.cells #[.bool false, .int .i64 0, .slice none 0 0] 52)) (.cells #[.pointer none, .pointer (some ⟨w.heap.size + 2, 0, none⟩)] 38)
    rwa [show (((w.alloc (.cells #[.bool false, .bool false, .slice none 0 0] 49)).alloc (.cells #[.pointer none, .pointer (some ⟨w.heap.size, 0, none⟩)] 24)).alloc (.cells #[.bool false, .int .i64 0, .slice none 0 0] 52)).heap.size = w.heap.size + 3 by simp] at this
theorem zt_ne (W : World) : (binOp .neq 28 (.agg (vals ZT).toArray) (.agg #[.int .u8 0, .int .u8 0, .int .u8 0, .int .u8 0, .int .u8 0, .int .u8 0, .int .u8 0, .int .u8 0, .int .u8 0, .int .u8 0, .int .u8 0, .int .u8 0, .int .u8 0, .int .u8 0, .int .u8 0, .int .u8 0, .int .u8 0, .int .u8 0, .int .u8 0, .int .u8 0, .int .u8 0, .int .u8 0, .int .u8 0, .int .u8 0, .int .u8 0, .int .u8 0, .int .u8 0, .int .u8 0, .int .u8 0, .int .u8 0, .int .u8 0, .int .u8 0])).run Try.prog W = .ok (.bool false) W := by
  have := run_tagNe ZT ZT rfl rfl W
  rw [eqB_self] at this
  exact this
theorem zt_in (W : World) : (Op.equalIn 10000 28 (.agg (vals ZT).toArray) (.agg #[.int .u8 0, .int .u8 0, .int .u8 0, .int .u8 0, .int .u8 0, .int .u8 0, .int .u8 0, .int .u8 0, .int .u8 0, .int .u8 0, .int .u8 0, .int .u8 0, .int .u8 0, .int .u8 0, .int .u8 0, .int .u8 0, .int .u8 0, .int .u8 0, .int .u8 0, .int .u8 0, .int .u8 0, .int .u8 0, .int .u8 0, .int .u8 0, .int .u8 0, .int .u8 0, .int .u8 0, .int .u8 0, .int .u8 0, .int .u8 0, .int .u8 0, .int .u8 0])).run Try.prog W = .ok true W := by
  have := run_tagIn ZT ZT rfl rfl W
  rw [eqB_self] at this
  exact this
set_option maxRecDepth 100000 in
set_option maxHeartbeats 2000000 in
theorem wireNil_in (f : FieldZ) (w : World) (hf : FieldOk w w.heap.size f) :
    Calls Try.prog 5 #[.agg (fCells f).toArray] w fun e w' => e = .returned (.bool true) ∧ Below w.heap.size w w' := by
  obtain ⟨W, hW⟩ : ∃ W, w.alloc (.cells (fCells f).toArray 30) = W := ⟨_, rfl⟩
  have G : Hid (w.grownBy W none) := Lib.hid (by rw [← hW]; exact grown_alloc _ _ _)
  have HX : Hid (W.heap[w.heap.size]? = some (.cells (fCells f).toArray 30)) := Lib.hid (by rw [← hW]; exact heap_alloc_new _ _)
  have sW : W.heap.size = w.heap.size + 1 := by rw [← hW]; simp
  have FR : Hid (W.rangeAt w.heap.size 0 (fCells f)) := Lib.hid (fun i v hv => by
    rw [cell_of_row _ _ _ _ _ _ HX.out, List.getElem?_toArray, Nat.zero_add]; exact hv)
  have FI : Hid ((Try.prog.info? 30).map (·.size) = some (fCells f).length) := Lib.hid (by rw [fCells_len hf.tag]; kernel_rfl)
  have HF := Lib.hid (hf.grown G.out (Nat.le_refl _))
  have HG := Lib.hid (great_any 1 (fields_one HF.out G.out.size 30 (w.heap.size + 1) sW) (by simp [maxLen]))
  have HW := Lib.hid hW
  have hlen := fCells_len hf.tag
  clear hW hf
  go_enter Try.func5, Try.ntmps5
  go_upto_region 1 with fail
  rw [HW.out]
  have G1 := FI
  go_wp2_with (have g := G1; clear g; refine wpList_load_mid (op := ⟨some 10, .load 30 (.tmp 1), _, _, _, _⟩) rfl 30 (.tmp 1) rfl w.heap.size 0 rfl (fCells f) _ FR.out Try.underlying30 rfl FI.out ?_; clear G1)
  rw [fold_cells hlen _ rfl]
  refine HG.out.mono ?_
  rintro e w2 ⟨rfl, rfl⟩
  by_cases hg : 4000 < gsum (fun _ => f) 1
  · rw [decide_eq_true hg]
    go_wp2
    go_ret
    exact ⟨rfl, below_of_grown (grown_trans G.out (grown_alloc W _ none)) (Nat.le_refl _) (fun k hk => by cases hk)⟩
  rw [decide_eq_false hg]
  obtain ⟨W2, hW2⟩ : ∃ W2, W.alloc (.cells (fCells f).toArray 30) = W2 := ⟨_, rfl⟩
  rw [hW2]
  have G2 : Hid (w.grownBy W2 none) := Lib.hid (by rw [← hW2]; exact grown_trans G.out (grown_alloc _ _ _))
  have GW2 : Hid (W.grownBy W2 none) := Lib.hid (by rw [← hW2]; exact grown_alloc _ _ _)
  have gE := nil_world W2
  have HE0 : Hid (NilW W2 = ((((W2.alloc (.cells #[.bool false, .bool false, .slice none 0 0] 49)).alloc (.cells #[.pointer none, .pointer (some ⟨W2.heap.size, 0, none⟩)] 24)).alloc (.cells #[.bool false, .int .i64 0, .slice none 0 0] 52)).alloc (.cells #[.pointer none, .pointer (some ⟨W2.heap.size + 2, 0, none⟩)] 38))) := Lib.hid rfl
  obtain ⟨W5, hW5⟩ : ∃ W5, NilW W2 = W5 := ⟨_, rfl⟩
  rw [hW5] at gE HE0
  have GE := Lib.hid gE
  clear hg hW2 HG hW5 gE
  go_upto_region 7 with fail
  rw [← HE0.out]
  obtain ⟨l1, hl1⟩ : ∃ l1, W2.heap.size + 1 = l1 := ⟨_, rfl⟩
  obtain ⟨r3, hr3⟩ : ∃ r3, W2.heap.size + 1 + 1 + 1 = r3 := ⟨_, rfl⟩
  simp only [hr3]
  simp only [hl1]
  have HN : Hid (∀ k, k < 2 → ∃ pa qa, W5.cell? ⟨l1, k, none⟩ = some (.pointer pa) ∧ NoWr W5 (.pointer pa) ∧ W5.cell? ⟨r3, k, none⟩ = some (.pointer qa) ∧ NoRd W5 (.pointer qa) ∧ l1 < W5.heap.size ∧ r3 < W5.heap.size) := Lib.hid (fun k hk => by
    obtain ⟨_, e1, e2, e3, e4, e5⟩ := GE.out
    subst hl1
    have hr : W2.heap.size + 3 = r3 := hr3
    rw [hr] at e5
    match k, hk with
    | 0, _ => exact ⟨none, none, by rw [cell_of_row _ _ _ _ _ _ e3]; rfl, .inl rfl, by rw [cell_of_row _ _ _ _ _ _ e5]; rfl, .inl rfl, by omega, by omega⟩
    | 1, _ => exact ⟨_, _, by rw [cell_of_row _ _ _ _ _ _ e3]; rfl, .inr ⟨_, rfl, by rw [cell_of_row _ _ _ _ _ _ e2]; rfl⟩, by rw [cell_of_row _ _ _ _ _ _ e5]; rfl, .inr ⟨_, rfl, by rw [cell_of_row _ _ _ _ _ _ e4]; rfl, by rw [cell_of_row _ _ _ _ _ _ e4]; rfl⟩, by omega, by omega⟩)
  have G5 : Hid (w.grownBy W5 none) := Lib.hid (grown_trans G2.out GE.out.1)
  have sW2 := GW2.out.size
  have FR5 : Hid (W5.rangeAt w.heap.size 0 (fCells f)) := Lib.hid (rangeAt_same FR.out ((GE.out.1.block w.heap.size (by omega) (by simp)).trans (GW2.out.block w.heap.size (by omega) (by simp))))
  have F5 : Hid (FieldOk W5 w.heap.size f) := Lib.hid ((HF.out.grown GW2.out (by omega)).grown GE.out.1 (by omega))
  have s5 : w.heap.size < W5.heap.size := by have := GE.out.1.size; omega
  clear hr3 hl1
  go_wp2
  go_loopw [7] (fun i wr => ∃ k : Nat, k ≤ 2 ∧ i = .int .i64 k ∧ Hid (W5.grownBy wr none)) (fun i _ => 2 - (intOf i).toNat)
  case atStart => exact ⟨0, by omega, rfl, Lib.hid (grown_refl _ _)⟩
  case round =>
    obtain ⟨k, hk, rfl, GR⟩ := hrel
    by_cases hlt : k < 2
    · obtain ⟨pa, qa, c1, n1, c2, n2, b1, b2⟩ := HN.out k hlt
      have hltI : (k : Int) < 2 := by omega
      have C1 := Lib.hid (GR.out.cell c1 (by simp))
      have C2 := Lib.hid (GR.out.cell c2 (by simp))
      have N1 := Lib.hid (n1.grown GR.out)
      have N2 := Lib.hid (n2.grown GR.out)
      have FR6 := Lib.hid (rangeAt_same FR5.out (GR.out.block w.heap.size s5 (by simp)))
      have F6 := Lib.hid (F5.out.grown GR.out (by omega))
      have s6 := GR.out.size
      have WC := Lib.hid (writeN_any (w := wr.drew) (N1.out.grown (grown_drewN wr 1 none)) f (F6.out.grown (grown_drewN wr 1 none) (by omega)) (show w.heap.size ≤ wr.heap.size by omega))
      clear c1 c2 n1 n2
      go_wp2
      have hi := FI.out
      have hu := Try.underlying30
      refine wp_region_noPanic ?_
      refine wp_region_held_drew (S := fun w' => w'.rangeAt w.heap.size 0 (fCells f) ∧ w'.cell? ⟨l1, k, none⟩ = some (.pointer pa)) (by kernel_rfl) ⟨FR6.out, C1.out⟩ (fun hHeld => ?_)
      refine wpAnyH_take (i := 0) (oi := ⟨some 25, .move (.tmp 5), _, _, _, _⟩) (v := .slice (some ⟨l1, 0, none⟩) 2 2) rfl (by kernel_rfl) (by kernel_rfl) (by kernel_rfl) (fun _ _ _ h => h) (Or.inl ⟨by rfl, fun w hSw => ?_⟩) (by assumption) ?_
      · go_simp
      try simp only [Act.put, List.setIfInBounds_toArray, List.set_cons_zero, List.set_cons_succ]
      refine wpAnyH_take (i := 1) (oi := ⟨some 26, .move (.tmp 7), _, _, _, _⟩) (v := .int .i64 (k : Int)) rfl (by kernel_rfl) (by kernel_rfl) (by kernel_rfl) (fun _ _ _ h => h) (Or.inl ⟨by rfl, fun w hSw => ?_⟩) (by assumption) ?_
      · go_simp
      try simp only [Act.put, List.setIfInBounds_toArray, List.set_cons_zero, List.set_cons_succ]
      refine wpAnyH_take (i := 2) (oi := ⟨some 27, .indexAddr 50 (.tmp 25) (.tmp 26), _, _, _, _⟩) (v := .pointer (some ⟨l1, k, none⟩)) rfl (by kernel_rfl) (by kernel_rfl) (by kernel_rfl) (fun _ _ _ h => h) (Or.inl ⟨by rfl, fun w hSw => ?_⟩) (by assumption) ?_
      · go_simp
      try simp only [Act.put, List.setIfInBounds_toArray, List.set_cons_zero, List.set_cons_succ]
      refine wpAnyH_take (i := 3) (oi := ⟨some 28, .load 24 (.tmp 27), _, _, _, _⟩) (v := .pointer pa) rfl (by kernel_rfl) (by kernel_rfl) (by kernel_rfl) (fun _ _ _ h => h) (Or.inl ⟨by rfl, fun w hSw => ?_⟩) (by assumption) ?_
      · obtain ⟨_, hSw⟩ := hSw
        go_simp
      try simp only [Act.put, List.setIfInBounds_toArray, List.set_cons_zero, List.set_cons_succ]
      refine wpAnyH_take (i := 4) (oi := ⟨some 29, .load 30 (.tmp 1), _, _, _, _⟩) (v := _) rfl (by kernel_rfl) (by kernel_rfl) (by kernel_rfl) (fun _ _ _ h => h) (yieldsIf_load_mid (by rfl) _ _ rfl _ _ rfl (fCells f) _ (fun _ h => h.1) hu rfl hi) (by assumption) ?_
      try simp only [Act.put, List.setIfInBounds_toArray, List.set_cons_zero, List.set_cons_succ]
      refine wpAnyH_ready (rs := [5]) (by kernel_rfl) (by simp) ?_
      refine AllReadyH.cons (o := ⟨some 30, .call { callee := .value (.func 10), args := #[.tmp 28, .tmp 29], argTypes := #[24, 30] }, _, _, _, _⟩) rfl (fun K hK => ?_) AllReadyH.nil
      go_simp
      refine WC.out.mono ?_
      rintro e w3 ⟨rfl, g3⟩
      have d1 : w3.rangeAt w.heap.size 0 (fCells f) := rangeAt_same FR6.out (g3.block w.heap.size (by show w.heap.size < wr.heap.size; omega) (by simp))
      have d2 : w3.cell? ⟨l1, k, none⟩ = some (.pointer pa) := g3.cell C1.out (by simp)
      go_wp2_with fail
      refine hK.out _ _ ⟨d1, d2⟩ (fun hHeld2 => ?_)
      clear hK K hHeld
      have hHeld := hHeld2
      clear hHeld2
      try simp only [Act.put, List.setIfInBounds_toArray, List.set_cons_zero, List.set_cons_succ]
      refine wpAnyH_done (by kernel_rfl) ?_ _
      refine NoPanic.normal ?_
      have G3 := Lib.hid (grown_trans (grown_trans GR.out (grown_drewN wr 1 none)) g3)
      have C1' := Lib.hid d2
      have C2' := Lib.hid (g3.cell (show wr.drew.cell? _ = _ from C2.out) (by simp))
      have N1' := Lib.hid ((N1.out.grown (grown_drewN wr 1 none)).grown g3)
      have N2' := Lib.hid ((N2.out.grown (grown_drewN wr 1 none)).grown g3)
      have HDn := Lib.hid (done_no N1'.out)
      have HBy := Lib.hid (byte_no N2'.out)
      have HIn := Lib.hid (int_no N2'.out)
      have HFg := Lib.hid (flag_no N2'.out)
      have HBs := Lib.hid (bytes_no N2'.out)
      have HTx := Lib.hid (text_no N2'.out)
      have HTg := Lib.hid (tag_no N2'.out)
      have c1v := C1'.out
      have c2v := C2'.out
      have hzne := zt_ne
      have hzin := zt_in
      obtain ⟨qp, hqp⟩ : ∃ qp, qa = qp := ⟨_, rfl⟩
      clear WC N1 N2 C1 C2 GR FR6 F6 d1 d2 g3 N1' hqp qp hu hi HN
      go_wp2_with (first
        | (go_at_call 12; refine HDn.out.mono ?_; rintro e w' ⟨rfl, rfl⟩)
        | (go_at_call 22; refine HBy.out.mono ?_; rintro e w' ⟨rfl, rfl⟩)
        | (go_at_call 23; refine HIn.out.mono ?_; rintro e w' ⟨rfl, rfl⟩)
        | (go_at_call 24; refine HFg.out.mono ?_; rintro e w' ⟨rfl, rfl⟩)
        | (go_at_call 25; refine HBs.out.mono ?_; rintro e w' ⟨rfl, rfl⟩)
        | (go_at_call 26; refine HTx.out.mono ?_; rintro e w' ⟨rfl, rfl⟩)
        | (go_at_call 27; refine HTg.out.mono ?_; rintro e w4 ⟨rfl, g4⟩; have c4 := g4.cell C2'.out (by simp); have N4 := Lib.hid (N2'.out.grown g4); have G4 := Lib.hid (grown_trans G3.out g4); have HCn := Lib.hid (count_no N4.out 5); clear g4)
        | (go_at_call 28; refine HCn.out.mono ?_; rintro e w5 ⟨rfl, g5⟩; have c5 := g5.cell c4 (by simp); have N5 := Lib.hid (N4.out.grown g5); have G5 := Lib.hid (grown_trans G4.out g5); have HLf := Lib.hid (left_no N5.out); have HEr := Lib.hid (err_no N5.out); have HEn := Lib.hid (end_no N5.out); clear g5)
        | (go_at_call 17; refine HLf.out.mono ?_; rintro e w' ⟨rfl, rfl⟩)
        | (go_at_call 19; refine HEr.out.mono ?_; rintro e w' ⟨rfl, rfl⟩)
        | (go_at_call 20; refine HEn.out.mono ?_; rintro e w' ⟨rfl, rfl⟩))
      go_roundw
      case rel => exact ⟨k + 1, by omega, by go_num, G5⟩
      case measure => simp [intOf]; omega
    · obtain rfl : k = 2 := by omega
      go_wp2
      go_ret
      exact ⟨rfl, below_of_grown (grown_trans G5.out GR.out) (Nat.le_refl _) (fun k hk => by cases hk)⟩
end Go.Proofs.Ytcihbkdpkhhhcaa
