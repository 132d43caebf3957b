/- The chapter's examples. -/
import Derived.Test.YtlknjaoamkcmjaaDoorLkW
import Derived.Lib.SlBytesConst
namespace Go.Proofs.YtlknjaoamkcmjaaDoor
open Go.ChangeShapes Go.WideShapes Go.ChangeAt Go.RowKit
set_option linter.unusedVariables false
set_option maxRecDepth 100000
set_option linter.unusedSimpArgs false
open Plain Sha Wn Lk
theorem own8_atL {w : World} {base n c : Nat} {A : Option Addr} {zs : List Int} (h : w.ownsRow base 5 1 (.slice A n c) n (vals zs)) {k : Nat} (hk : k < n) :
    ∃ g u, A = some ⟨g, 0, none⟩ ∧ base ≤ g ∧ g < w.heap.size ∧ Hid (zs.getD k 0 = u) ∧ w.cell? ⟨g, k, none⟩ = some (.int .u8 u) ∧ w.frozen? ⟨g, k, none⟩ = false ∧
      Hid (∀ z : Int, (w.setCell ⟨g, k, none⟩ (.int .u8 z)).ownsRow base 5 1 (.slice A n c) n (vals (zs.set k z))) := by
  have hl : zs.length = n := by have := h.1; rw [vals_len] at this; omega
  obtain ⟨g, cap, hv, hg, hlt⟩ := h.form (by omega)
  injection hv with e1 e2 e3
  subst e1
  refine ⟨g, _, rfl, hg, hlt, rfl, ?_, h.frozenAt k, fun z => ?_⟩
  · rw [h.cellAt k (by omega)]
    simp [vals, List.getElem?_map, List.getD_eq_getElem?_getD, List.getElem?_eq_getElem (show k < zs.length by omega)]
  · have := (h.stored k (.int .u8 z)).1
    simpa [vals, List.map_set] using this
theorem isBytes_setL {zs : List Int} (h : IsBytes zs) {k : Nat} {z : Int} (hk : k < zs.length) (h0 : 0 ≤ z) (h1 : z < 256) : IsBytes (zs.set k z) := by
  intro j hj
  rw [List.length_set] at hj
  rw [getD_set _ _ _ _ hk]
  split
  · exact ⟨h0, h1⟩
  · exact h j hj
theorem xor_one (u : Int) (h0 : 0 ≤ u) (h1 : u < 256) : bits .xor .u8 u 1 ≠ u := by
  rw [u8_xor u 1 h0 h1 (by omega) (by omega)]
  intro h
  have h2 : u.toNat ^^^ 1 = u.toNat := by
    have h3 : ((u.toNat ^^^ (1 : Int).toNat : Nat) : Int) = ((u.toNat : Nat) : Int) := by rw [Int.toNat_of_nonneg h0]; exact h
    exact Int.ofNat.inj h3
  have h4 := congrArg (fun t => u.toNat ^^^ t) h2
  simp only [← Nat.xor_assoc, Nat.xor_self, Nat.zero_xor] at h4
  exact absurd h4 (by decide)
theorem bs_newFL (w : World) (zs : List Int) (n : Nat) (hn : zs.length = n) (h : IsBytes zs) (t : TypeId) (fr : Nat × Nat) (g : Nat) (hg : w.heap.size = g) : Bs (w.alloc (.cells (vals zs).toArray t fr)) (g + 1) (some ⟨g, 0, none⟩) n zs := by
  subst hg
  exact ⟨hn, fun j hj => h j (by omega), fun _ => ⟨w.heap.size, 0, rfl, by omega, fun j hj => by
    have hh : (w.alloc (.cells (vals zs).toArray t fr)).cell? ⟨w.heap.size, 0 + j, none⟩ = (vals zs).toArray[0 + j]? := cell_of_row _ _ _ _ _ _ (heap_alloc_new w _)
    rw [hh, Nat.zero_add]
    simp [vals, List.getElem?_map, List.getD_eq_getElem?_getD, List.getElem?_eq_getElem (show j < zs.length by omega)]⟩⟩
set_option maxHeartbeats 16000000 in
theorem lawake_any (w : World) (hF : LaidF w) (hK : LaidK w) : Calls Tryd.prog 21 #[] w (fun e w' => e = .returned (.bool true) ∧ Below w.heap.size w w') := by
  obtain ⟨r, hr⟩ : ∃ r, w.heap.size = r := ⟨_, rfl⟩
  have HRr := Lib.hid hr
  obtain ⟨W0, hW0⟩ : ∃ W, W = w.alloc (.cells #[.int .u8 114, .int .u8 111, .int .u8 111, .int .u8 116] 5 (4, 5)) := ⟨_, rfl⟩
  have b0 : Below w.heap.size w W0 := by rw [hW0]; exact below_one _ _
  obtain ⟨g, hg⟩ : ∃ g, W0.heap.size = g := ⟨_, rfl⟩
  have hgr : g = r + 1 := by rw [← hg, hW0]; simp [hr]
  have root_b : IsBytes rootX := by unfold rootX; intro j hj; have h4 : j < 4 := hj; have : j = 0 ∨ j = 1 ∨ j = 2 ∨ j = 3 := by omega
                                    rcases this with rfl | rfl | rfl | rfl <;> exact ⟨by decide, by decide⟩
  have R0 : Bs W0 g (some ⟨r, 0, none⟩) 4 rootX := by rw [hgr, hW0]; exact bs_newFL w rootX 4 rfl root_b 5 _ r hr
  have HRT : Hid (∀ W, Below g W0 W → Bs W g (some ⟨r, 0, none⟩) 4 rootX ∧ g ≤ W.heap.size) := Lib.hid (fun W hW => ⟨R0.belowM hW (Nat.le_refl _), by have := hW.size; omega⟩)
  have LL : Hid (∀ W, Below g W0 W → LaidF W ∧ LaidK W) := Lib.hid (fun W hW => by
    have hb := b0.trans (hW.mono (by omega))
    exact ⟨hF.below hb hF.lt, hK.below hb hK.lt⟩)
  have BF : Hid (∀ W, Below g W0 W → Below w.heap.size w W) := Lib.hid (fun W hW => b0.trans (hW.mono (by omega)))
  have HW0 := Lib.hid hW0
  have HG := Lib.hid hg
  clear hr hW0 b0 hg hgr root_b R0 hF hK
  have zk := zPk
  have zs := zPc_size
  have zn := zPc_ne
  have hcv := fun (w : World) (C : Array Value) (n c : Nat) => Go.Lib.run_convert_bytes_const (P := Tryd.prog) w 22 5 C n c Tryd.underlying22 Tryd.underlying5
  go_enter Tryd.func21, Tryd.ntmps21
  go_upto_region 2 with fail
  rw [← HW0.out, HRr.out]
  go_upto_region 3 with (first
      | (show wpList _ _ _ (⟨some 28, .build 26 #[(0, .const (.int .i64 0)), (1, .const (.int .i64 1)), (2, .const (.int .i64 1)), (3, .const (.int .i64 0)), (4, .const (.int .i64 1))], _, _, _, _⟩ :: _) _ _; refine wpList_exec (op := ⟨some 28, .build 26 #[(0, .const (.int .i64 0)), (1, .const (.int .i64 1)), (2, .const (.int .i64 1)), (3, .const (.int .i64 0)), (4, .const (.int .i64 1))], _, _, _, _⟩) rfl (.agg (pc pA).toArray) (by exact exec_bld5 rfl rfl rfl rfl rfl rfl (build_p5 0 1 1 0 1 _)) ?_)
      | (show wpList _ _ _ (⟨none, .store 26 (.tmp 2) (.tmp 28), _, _, _, _⟩ :: _) _ _; refine wpList_store_as (op := ⟨none, .store 26 (.tmp 2) (.tmp 28), _, _, _, _⟩) rfl 26 (.tmp 2) (.tmp 28) rfl (W0.heap.size) 0 (pc pA).toArray rfl rfl (vthere (zbox_new W0 26 _ rfl) (us := pc pA) (pc_len pA_tl)) (p_sizeA (x := pA) pA_tl) (p_oneA pA) ?_; intro w1 hw1))
  obtain ⟨VA', BA'⟩ := vstored (zbox_new W0 26 W0.heap.size rfl) (us := pc pA) (pc_len pA_tl) hw1 (Nat.le_refl _) (below_one W0 _)
  rw [HG.out] at VA' BA' ⊢
  have VA := Lib.hid VA'
  have BA := Lib.hid BA'
  obtain ⟨nb, hnb⟩ : ∃ n, w1.heap.size = n := ⟨_, rfl⟩
  have HNB := Lib.hid hnb
  have GN : Hid (g < nb) := Lib.hid (by rw [← hnb]; exact VA'.lt)
  have HA : Hid (∀ W, Below nb w1 W → VBox W g 38 (pc pA)) := Lib.hid (fun W hW => VA.out.below hW GN.out)
  have P1' : Hid (Below nb w1 w1) := Lib.hid (Below.refl _ _)
  clear hw1 VA' BA' hnb
  refine Late.region (fun w' => Below nb w1 w') [] (by kernel_rfl) P1'.out.drew (fun hHeld => ?_)
  refine Late.take (i := 0) (oi := ⟨some 29, Op.load 26 (Operand.tmp 2), _, _, _, _⟩) (v := _) rfl (by kernel_rfl) (by kernel_rfl) (by kernel_rfl) (by kernel_rfl) (fun _ _ _ h => h) (yieldsIf_load_mid (by rfl) _ _ rfl _ _ rfl (pc pA) _ (fun W hW => (HA.out W hW).range) Tryd.underlying26 rfl (p_size pA_tl)) (by assumption) ?_
  try simp only [Act.put, List.setIfInBounds_toArray, List.set_cons_zero, List.set_cons_succ]
  refine Late.take (i := 1) (oi := ⟨some 30, Op.load 26 (Operand.tmp 2), _, _, _, _⟩) (v := _) rfl (by kernel_rfl) (by kernel_rfl) (by kernel_rfl) (by kernel_rfl) (fun _ _ _ h => h) (yieldsIf_load_mid (by rfl) _ _ rfl _ _ rfl (pc pA) _ (fun W hW => (HA.out W hW).range) Tryd.underlying26 rfl (p_size pA_tl)) (by assumption) ?_
  try simp only [Act.put, List.setIfInBounds_toArray, List.set_cons_zero, List.set_cons_succ]
  refine Late.take (i := 2) (oi := ⟨some 31, Op.load 26 (Operand.tmp 2), _, _, _, _⟩) (v := _) rfl (by kernel_rfl) (by kernel_rfl) (by kernel_rfl) (by kernel_rfl) (fun _ _ _ h => h) (yieldsIf_load_mid (by rfl) _ _ rfl _ _ rfl (pc pA) _ (fun W hW => (HA.out W hW).range) Tryd.underlying26 rfl (p_size pA_tl)) (by assumption) ?_
  try simp only [Act.put, List.setIfInBounds_toArray, List.set_cons_zero, List.set_cons_succ]
  refine Late.ordersN (fun i => match i with | 3 => sfZ nb | 4 => sfZ nb | 5 => sfZ nb | _ => sfTrueL) [3, 4, 5] [3, 4, 5] (f0 := 3) (by kernel_rfl) rfl (by kernel_rfl) (by kernel_rfl) (by kernel_rfl) hHeld (fun w w' h hb => h.trans (hb.mono (by have := h.size; have := HNB.out; omega))) ?_ ?_
  · refine ⟨?_, ?_, ?_, trivial⟩
    · refine StepN.of (o := ⟨some 3, Op.alloc 26, _, _, _, _⟩) rfl (fun a w K hS hA hD hK => ?_)
      go_simp
      refine hK.out _ _ (below_one _ _) ⟨_, rfl, by have := hS.size; have := HNB.out; omega, zbox_new _ _ _ rfl⟩ ⟨Nat.le_refl _, ?_⟩
      show w.heap.size < (w.alloc _).heap.size
      simp
    · refine StepN.of (o := ⟨some 4, Op.alloc 26, _, _, _, _⟩) rfl (fun a w K hS hA hD hK => ?_)
      go_simp
      refine hK.out _ _ (below_one _ _) ⟨_, rfl, by have := hS.size; have := HNB.out; omega, zbox_new _ _ _ rfl⟩ ⟨Nat.le_refl _, ?_⟩
      show w.heap.size < (w.alloc _).heap.size
      simp
    · refine StepN.of (o := ⟨some 5, Op.alloc 26, _, _, _, _⟩) rfl (fun a w K hS hA hD hK => ?_)
      go_simp
      refine hK.out _ _ (below_one _ _) ⟨_, rfl, by have := hS.size; have := HNB.out; omega, zbox_new _ _ _ rfl⟩ ⟨Nat.le_refl _, ?_⟩
      show w.heap.size < (w.alloc _).heap.size
      simp
  intro a wq hS hA hV hP
  obtain ⟨v3, e3, lv3, V3⟩ : (sfZ nb).F (a.tmps[3]?.getD undef) wq := hV 3 3 rfl (by kernel_rfl)
  obtain ⟨v4, e4, lv4, V4⟩ : (sfZ nb).F (a.tmps[4]?.getD undef) wq := hV 4 4 rfl (by kernel_rfl)
  obtain ⟨v5, e5, lv5, V5⟩ : (sfZ nb).F (a.tmps[5]?.getD undef) wq := hV 5 5 rfl (by kernel_rfl)
  have n34 : v3 ≠ v4 := by
    have := hP 3 4 3 4 rfl rfl (by decide) (by kernel_rfl) (by kernel_rfl)
    rw [e3, e4] at this; exact this
  have n35 : v3 ≠ v5 := by
    have := hP 3 5 3 5 rfl rfl (by decide) (by kernel_rfl) (by kernel_rfl)
    rw [e3, e5] at this; exact this
  have n45 : v4 ≠ v5 := by
    have := hP 4 5 4 5 rfl rfl (by decide) (by kernel_rfl) (by kernel_rfl)
    rw [e4, e5] at this; exact this
  clear hP
  have eA := hA.eqL
  simp only [List.foldl_cons, List.foldl_nil] at eA
  rw [e3, e4, e5] at eA
  clear hHeld hA hV e3 e4 e5
  subst eA
  have hHeld := hS
  try simp only [Act.put, List.setIfInBounds_toArray, List.set_cons_zero, List.set_cons_succ]
  refine Late.one (i := 6) (o := ⟨none, Op.store 26 (Operand.tmp 3) (Operand.tmp 29), _, _, _, _⟩) (by kernel_rfl) rfl (fun K hK => ?_)
  rw [if_pos (by rfl)]
  refine wp_store_mid 26 (.tmp 3) (.tmp 29) rfl v3 0 (pc pA).toArray rfl rfl (vthere V3 (us := pc pA) (pc_len pA_tl)) (p_sizeA pA_tl) (p_oneA pA) ?_
  obtain ⟨wa, hwa⟩ : ∃ W, W = wq.setCells v3 0 (pc pA).toArray.toList := ⟨_, rfl⟩
  rw [← hwa]
  have V3wa : VBox wa v3 38 (pc pA) := V3.store (us := pc pA) (pc_len pA_tl) (Lib.hid hwa)
  have V4wa : VBox wa v4 38 (pc px0) := V4.same (by rw [hwa]; exact heap_setCells v3 v4 n34.symm _ _ _)
  have V5wa : VBox wa v5 38 (pc px0) := V5.same (by rw [hwa]; exact heap_setCells v3 v5 n35.symm _ _ _)
  have Swa : Below nb w1 wa := by rw [hwa]; exact below_setCells lv3 _ _ _ hHeld
  clear hwa V3 V4 V5
  refine hK.out _ _ (Swa) (fun hHeld2 => ?_)
  clear hK K hHeld
  have hHeld := hHeld2
  clear hHeld2
  try simp only [Act.put]
  refine Late.one (i := 7) (o := ⟨none, Op.store 26 (Operand.tmp 4) (Operand.tmp 30), _, _, _, _⟩) (by kernel_rfl) rfl (fun K hK => ?_)
  rw [if_pos (by rfl)]
  refine wp_store_mid 26 (.tmp 4) (.tmp 30) rfl v4 0 (pc pA).toArray rfl rfl (vthere V4wa (us := pc pA) (pc_len pA_tl)) (p_sizeA pA_tl) (p_oneA pA) ?_
  obtain ⟨wb, hwb⟩ : ∃ W, W = wa.setCells v4 0 (pc pA).toArray.toList := ⟨_, rfl⟩
  rw [← hwb]
  have V4wawb : VBox wb v4 38 (pc pA) := V4wa.store (us := pc pA) (pc_len pA_tl) (Lib.hid hwb)
  have V3wawb : VBox wb v3 38 (pc pA) := V3wa.same (by rw [hwb]; exact heap_setCells v4 v3 n34 _ _ _)
  have V5wawb : VBox wb v5 38 (pc px0) := V5wa.same (by rw [hwb]; exact heap_setCells v4 v5 n45.symm _ _ _)
  have Swb : Below nb w1 wb := by rw [hwb]; exact below_setCells lv4 _ _ _ hHeld
  clear hwb V4wa V3wa V5wa
  refine hK.out _ _ (Swb) (fun hHeld2 => ?_)
  clear hK K hHeld
  have hHeld := hHeld2
  clear hHeld2
  try simp only [Act.put]
  refine Late.one (i := 8) (o := ⟨none, Op.store 26 (Operand.tmp 5) (Operand.tmp 31), _, _, _, _⟩) (by kernel_rfl) rfl (fun K hK => ?_)
  rw [if_pos (by rfl)]
  refine wp_store_mid 26 (.tmp 5) (.tmp 31) rfl v5 0 (pc pA).toArray rfl rfl (vthere V5wawb (us := pc pA) (pc_len pA_tl)) (p_sizeA pA_tl) (p_oneA pA) ?_
  obtain ⟨wc, hwc⟩ : ∃ W, W = wb.setCells v5 0 (pc pA).toArray.toList := ⟨_, rfl⟩
  rw [← hwc]
  have V5wawbwc : VBox wc v5 38 (pc pA) := V5wawb.store (us := pc pA) (pc_len pA_tl) (Lib.hid hwc)
  have V3wawbwc : VBox wc v3 38 (pc pA) := V3wawb.same (by rw [hwc]; exact heap_setCells v5 v3 n35 _ _ _)
  have V4wawbwc : VBox wc v4 38 (pc pA) := V4wawb.same (by rw [hwc]; exact heap_setCells v5 v4 n45 _ _ _)
  have Swc : Below nb w1 wc := by rw [hwc]; exact below_setCells lv5 _ _ _ hHeld
  clear hwc V5wawb V3wawb V4wawb
  refine hK.out _ _ (Swc) (fun hHeld2 => ?_)
  clear hK K hHeld
  have hHeld := hHeld2
  clear hHeld2
  try simp only [Act.put]
  refine Late.done (by kernel_rfl) ?_ _
  refine NoPanic.normal ?_
  have Hn34 := Lib.hid n34
  have Hn35 := Lib.hid n35
  have Hn45 := Lib.hid n45
  have Vd3 : VBox (wc.setCell ⟨v3, 0, none⟩ (.int .i64 1)) v3 38 (pc pB) := (V3wawbwc).set1 (i := 0) (by omega) (.int .i64 1)
  have Vd4 : VBox (wc.setCell ⟨v3, 0, none⟩ (.int .i64 1)) v4 38 (pc pA) := (V4wawbwc).same (Below.heap_setCell _ _ _ _ n34.symm)
  have Vd5 : VBox (wc.setCell ⟨v3, 0, none⟩ (.int .i64 1)) v5 38 (pc pA) := (V5wawbwc).same (Below.heap_setCell _ _ _ _ n35.symm)
  have Ve3 : VBox ((wc.setCell ⟨v3, 0, none⟩ (.int .i64 1)).setCell ⟨v4, 1, none⟩ (.int .i64 5)) v3 38 (pc pB) := Vd3.same (Below.heap_setCell _ _ _ _ n34)
  have Ve4 : VBox ((wc.setCell ⟨v3, 0, none⟩ (.int .i64 1)).setCell ⟨v4, 1, none⟩ (.int .i64 5)) v4 38 (pc pC) := Vd4.set1 (i := 1) (by omega) (.int .i64 5)
  have Ve5 : VBox ((wc.setCell ⟨v3, 0, none⟩ (.int .i64 1)).setCell ⟨v4, 1, none⟩ (.int .i64 5)) v5 38 (pc pA) := Vd5.same (Below.heap_setCell _ _ _ _ n45.symm)
  obtain ⟨wd, hwd⟩ : ∃ W, W = ((wc.setCell ⟨v3, 0, none⟩ (.int .i64 1)).setCell ⟨v4, 1, none⟩ (.int .i64 5)).setCell ⟨v5, 4, none⟩ (.int .i64 0) := ⟨_, rfl⟩
  have Vf3 := Lib.hid (show VBox wd v3 38 (pc pB) by rw [hwd]; exact Ve3.same (Below.heap_setCell _ _ _ _ n35))
  have Vf4 := Lib.hid (show VBox wd v4 38 (pc pC) by rw [hwd]; exact Ve4.same (Below.heap_setCell _ _ _ _ n45))
  have Vf5 := Lib.hid (show VBox wd v5 38 (pc pD) by rw [hwd]; exact Ve5.set1 (i := 4) (by omega) (.int .i64 0))
  have Bd : Below nb w1 wd := by rw [hwd]; exact ((hHeld.setCell (p := ⟨v3, 0, none⟩) lv3 _).setCell (p := ⟨v4, 1, none⟩) lv4 _).setCell (p := ⟨v5, 4, none⟩) lv5 _
  have VfA := Lib.hid (HA.out wd Bd)
  have Bd' := Lib.hid (show Below g W0 wd from (by rw [← HG.out]; exact (BA.out.trans (Bd.mono (by have := GN.out; omega)) : Below g W0 wd) |> fun h => by rw [← HG.out] at h; exact h))
  have c3 := V3wawbwc.at1 (i := 0) (v := .int .i64 0) rfl
  have f3 := V3wawbwc.fr1 (i := 0) (by omega)
  have c4 := Vd4.at1 (i := 1) (v := .int .i64 1) rfl
  have f4 := Vd4.fr1 (i := 1) (by omega)
  have c5 := Ve5.at1 (i := 4) (v := .int .i64 1) rfl
  have f5 := Ve5.fr1 (i := 4) (by omega)
  have HWD := Lib.hid hwd
  clear Vd3 Vd4 Vd5 Ve3 Ve4 Ve5 V3wawbwc V4wawbwc V5wawbwc hwd hHeld Bd n34 n35 n45 lv3 lv4 lv5
  go_upto_region 5 with fail
  rw [← HWD.out]
  clear c3 f3 c4 f4 c5 f5 HWD
  have M1 := HG
  have M2 := HG
  have M3 := HG
  have M4 := HG
  have N1 := HG
  have N2 := HG
  have N3 := HG
  go_upto_region 7 with (first
      | (show wpList _ _ _ (⟨some 35, .load 26 (.tmp 2), _, _, _, _⟩ :: _) _ _; refine wpList_load_mid (op := ⟨some 35, .load 26 (.tmp 2), _, _, _, _⟩) rfl 26 (.tmp 2) rfl (g) 0 rfl (pc pA) _ (VfA.out.range) Tryd.underlying26 rfl (p_size (x := pA) pA_tl) ?_)
      | (have g0 := M1; clear g0; go_at_call 13; refine (pmay_any (x := pA) pA_tl _ may_A _).mono ?_; rintro e m1 ⟨rfl, hb⟩; have Bm1 := Lib.hid hb; clear hb M1)
      | (show wpList _ _ _ (⟨some 39, .load 26 (.tmp 3), _, _, _, some (3, false)⟩ :: _) _ _; refine wpList_load_guardL (op := ⟨some 39, .load 26 (.tmp 3), _, _, _, some (3, false)⟩) (by rfl) 26 (.tmp 3) rfl (v3) 0 rfl (pc pB) _ ((Vf3.out.grow Bm1.out).range) Tryd.underlying26 rfl (p_size (x := pB) rfl) ?_)
      | (have g0 := M2; clear g0; go_at_call 13; refine (pmay_any (x := pB) rfl _ may_B _).mono ?_; rintro e m2 ⟨rfl, hb⟩; have Bm2 := Lib.hid hb; clear hb M2)
      | (show wpList _ _ _ (⟨some 43, .load 26 (.tmp 4), _, _, _, some (7, false)⟩ :: _) _ _; refine wpList_load_guardL (op := ⟨some 43, .load 26 (.tmp 4), _, _, _, some (7, false)⟩) (by rfl) 26 (.tmp 4) rfl (v4) 0 rfl (pc pC) _ (((Vf4.out.grow Bm1.out).grow Bm2.out).range) Tryd.underlying26 rfl (p_size (x := pC) rfl) ?_)
      | (have g0 := M3; clear g0; go_at_call 13; refine (pmay_any (x := pC) rfl _ may_C _).mono ?_; rintro e m3 ⟨rfl, hb⟩; have Bm3 := Lib.hid hb; clear hb M3)
      | (show wpList _ _ _ (⟨some 47, .load 26 (.tmp 5), _, _, _, some (11, false)⟩ :: _) _ _; refine wpList_load_guardL (op := ⟨some 47, .load 26 (.tmp 5), _, _, _, some (11, false)⟩) (by rfl) 26 (.tmp 5) rfl (v5) 0 rfl (pc pD) _ ((((Vf5.out.grow Bm1.out).grow Bm2.out).grow Bm3.out).range) Tryd.underlying26 rfl (p_size (x := pD) rfl) ?_)
      | (have g0 := M4; clear g0; go_at_call 13; refine (pmay_any (x := pD) rfl _ may_D _).mono ?_; rintro e m4 ⟨rfl, hb⟩; have Bm4' := Lib.hid hb; clear hb M4))
  have Bm4 := Lib.hid (Bd'.out.trans ((Bm1.out.trans ((Bm2.out.mono Bm1.out.size).trans ((Bm3.out.mono (Nat.le_trans Bm1.out.size Bm2.out.size)).trans (Bm4'.out.mono (Nat.le_trans Bm1.out.size (Nat.le_trans Bm2.out.size Bm3.out.size)))))).mono (by have := Bd'.out.size; have := HG.out; omega)))
  clear VfA Vf3 Vf4 Vf5 Bm1 Bm2 Bm3 Bm4' Hn34 Hn35 Hn45 HA VA BA
  go_upto_region 8 with (first
      | (have g0 := N1; clear g0; go_at_call 22; refine (lnew_any 4 (HRT.out _ Bm4.out).1 (HRT.out _ Bm4.out).2 (by omega) (who := 0) (boot := 0) (by unfold InL; decide) (by unfold InL; decide)).mono ?_; rintro e n1 ⟨b1, rfl, hE, hb⟩; have EN1 := Lib.hid hE; have BN1 := Lib.hid hb; clear hE hb N1)
      | (have g0 := N2; clear g0; go_at_call 22; refine (lnew_any 4 (HRT.out _ (Bm4.out.trans (BN1.out.mono (by have := Bm4.out.size; have := HG.out; omega)))).1 (HRT.out _ (Bm4.out.trans (BN1.out.mono (by have := Bm4.out.size; have := HG.out; omega)))).2 (by omega) (who := 1) (boot := 0) (by unfold InL; decide) (by unfold InL; decide)).mono ?_; rintro e n2 ⟨b2, rfl, hE, hb⟩; have EN2 := Lib.hid hE; have BN2 := Lib.hid hb; clear hE hb N2)
      | (have g0 := N3; clear g0; go_at_call 22; refine (lnew_any 4 (HRT.out _ ((Bm4.out.trans (BN1.out.mono (by have := Bm4.out.size; have := HG.out; omega))).trans (BN2.out.mono (by have := Bm4.out.size; have := BN1.out.size; have := HG.out; omega)))).1 (HRT.out _ ((Bm4.out.trans (BN1.out.mono (by have := Bm4.out.size; have := HG.out; omega))).trans (BN2.out.mono (by have := Bm4.out.size; have := BN1.out.size; have := HG.out; omega)))).2 (by omega) (who := 2) (boot := 0) (by unfold InL; decide) (by unfold InL; decide)).mono ?_; rintro e n3 ⟨b3, rfl, hE, hb⟩; have EN3 := Lib.hid hE; have BN3 := Lib.hid hb; clear hE hb N3))
  have TT : ∃ K1 K2 K3, T3 g n3 K1 K2 K3 b1 b2 b3 xa0 xb0 xc0 := by
    have s0 : g ≤ m4.heap.size := by have := Bm4.out.size; have := HG.out; omega
    have s1 := BN1.out.size
    have s2 := BN2.out.size
    have s3 := BN3.out.size
    exact ⟨_, _, _, EN1.out.grow (BN2.out.trans (BN3.out.mono BN2.out.size)), EN2.out.grow BN3.out, EN3.out, fun k h1 h2 => by omega, fun k h1 h2 => by omega, fun k h1 h2 => by omega, fun k h1 => by omega, fun k h1 => by omega, fun k h1 => by omega⟩
  obtain ⟨K1, K2, K3, T⟩ := TT
  have T0 := Lib.hid T
  have BT0 := Lib.hid (Bm4.out.trans ((BN1.out.trans ((BN2.out.mono BN1.out.size).trans (BN3.out.mono (Nat.le_trans BN1.out.size BN2.out.size)))).mono (by have := Bm4.out.size; have := HG.out; omega)))
  clear T EN1 EN2 EN3 BN1 BN2 BN3 Bm4
  go_upto_region 9 with (go_at_call 18; refine (t3_send (T0.out.grow (below_one _ _)) (by have := BT0.out.size; have := HG.out; simp; omega) (by unfold InL; decide) (by unfold InL; decide) 1 (bs_newFL n3 [97] 1 rfl one_bytes 5 _ _ rfl) (by simp) (by omega) ⟨by omega, by unfold maxLen; omega⟩ (by show 0 ≤ xa0.sent 1 1 ∧ xa0.sent 1 1 ≤ 1000000; decide) (LL.out _ (BT0.out.trans ((below_one n3 _).mono (by have := BT0.out.size; have := HG.out; omega)))).1 (LL.out _ (BT0.out.trans ((below_one n3 _).mono (by have := BT0.out.size; have := HG.out; omega)))).2 s_1 P1_bytes).mono ?_; rintro e s1 ⟨A1, c1, rfl, hT, hX, hc1, hc2, hm⟩; rw [P1_len] at hX hc1 ⊢; have T1 := Lib.hid hT; have X1 := Lib.hid hX; have CX1 := Lib.hid (And.intro hc1 hc2); have BT1 := Lib.hid ((BT0.out.trans ((below_one n3 _).mono (by have := BT0.out.size; have := HG.out; omega))).trans (hm.below (B := g) (by have := BT0.out.size; have := HG.out; simp; omega) T0.out.l1)); clear hT hX hc1 hc2 hm)
  go_upto_region 10 with (go_at_call 18; refine (t3_send (T1.out.grow (below_one _ _)) (by have := BT1.out.size; have := HG.out; simp; omega) (by unfold InL; decide) (by unfold InL; decide) 1 (bs_newFL s1 [97] 1 rfl one_bytes 5 _ _ rfl) (by simp) (by omega) ⟨by omega, by unfold maxLen; omega⟩ (by rw [sent_1]; decide) (LL.out _ (BT1.out.trans ((below_one s1 _).mono (by have := BT1.out.size; have := HG.out; omega)))).1 (LL.out _ (BT1.out.trans ((below_one s1 _).mono (by have := BT1.out.size; have := HG.out; omega)))).2 s_2 P2_bytes).mono ?_; rintro e s2 ⟨A2, c2, rfl, hT, hX, hc1, hc2, hm⟩; rw [P2_len] at hX hc1 ⊢; have T2 := Lib.hid hT; have X2 := Lib.hid hX; have CX2 := Lib.hid (And.intro hc1 hc2); have BT2 := Lib.hid ((BT1.out.trans ((below_one s1 _).mono (by have := BT1.out.size; have := HG.out; omega))).trans (hm.below (B := g) (by have := BT1.out.size; have := HG.out; simp; omega) T1.out.l1)); have X1b := Lib.hid ((X1.out.grow (below_one _ _)).s1 hm (Newer.refl _ _)); clear hT hX hc1 hc2 hm)
  go_upto_region 12 with fail
  have U2 := Lib.hid T2.out.swap
  have Y1 := Lib.hid X1b.out.turn
  have Y2 := Lib.hid X2.out.turn
  clear T0 T1 T2 X1 X1b X2 BT0 BT1
  go_upto_region 13 with (first
      | (go_at_call 19; refine (t3_get U2.out (by have := BT2.out.size; have := HG.out; omega) c1 Y1.out.bs (Nat.le_refl _) (by omega) (LL.out _ BT2.out).1 (LL.out _ BT2.out).2 g_1).mono ?_; rintro e q1 ⟨y1, rfl, hy, hok, J1, hT, hm, hn, hk⟩; have U2g := Lib.hid hT; have Zy1 := Lib.hid hy; have Oy1 := Lib.hid hok; have Ty1 := Lib.hid hok.ok.tl; have Ky1 := Lib.hid hk; have BT2g := Lib.hid (BT2.out.trans (hm.below (B := g) (by have := BT2.out.size; have := HG.out; omega) U2.out.l1)); have Y1q := Lib.hid (Y1.out.s1 hm hn); have Y2q := Lib.hid (Y2.out.s1 hm hn); clear hy hok hT hm hn hk)
      | (show wpList _ _ _ (⟨none, .store 26 (.tmp 13) (.tmp 85), _, _, _, _⟩ :: _) _ _; refine wpList_store_as (op := ⟨none, .store 26 (.tmp 13) (.tmp 85), _, _, _, _⟩) rfl 26 (.tmp 13) (.tmp 85) rfl (q1.heap.size) 0 (pc y1).toArray rfl rfl (vthere (zbox_new q1 26 _ rfl) (us := pc y1) (pc_len Ty1.out)) (p_sizeA Ty1.out) (p_oneA y1) ?_; intro q1s hq1s))
  obtain ⟨hv, hT, hb⟩ := kvar_new U2g.out y1 Ty1.out q1.heap.size rfl hq1s
  have U2gs := Lib.hid hT
  have Vy1 := Lib.hid hv
  have BT2gs := Lib.hid (BT2g.out.trans (hb.mono (by have := BT2g.out.size; have := HG.out; omega)))
  have Y1qs := Lib.hid (Y1q.out.grow hb)
  have Y2qs := Lib.hid (Y2q.out.grow hb)
  have Ky1s := Lib.hid (Ky1.out.grow hb)
  clear hv hT hb hq1s U2g BT2g Y1q Y2q Ky1
  clear U2 BT2 Y1 Y2
  go_upto_region 14 with (first
      | (go_at_call 19; refine (t3_get U2gs.out (by have := BT2gs.out.size; have := HG.out; omega) c1 Y1qs.out.bs (Nat.le_refl _) (by omega) (LL.out _ BT2gs.out).1 (LL.out _ BT2gs.out).2 g_2).mono ?_; rintro e q2 ⟨y2, rfl, hy, hok, J2, hT, hm, hn, hk⟩; have U2gsg := Lib.hid hT; have Zy2 := Lib.hid hy; have Oy2 := Lib.hid hok; have Ty2 := Lib.hid hok.ok.tl; have Ky2 := Lib.hid hk; have BT2gsg := Lib.hid (BT2gs.out.trans (hm.below (B := g) (by have := BT2gs.out.size; have := HG.out; omega) U2gs.out.l1)); have Y1qsq := Lib.hid (Y1qs.out.s1 hm hn); have Y2qsq := Lib.hid (Y2qs.out.s1 hm hn); have Vy1q := Lib.hid (Vy1.out.s1 hm hn); have Ky1sq := Lib.hid (Ky1s.out.s1 hm hn); clear hy hok hT hm hn hk)
      | (show wpList _ _ _ (⟨none, .store 26 (.tmp 15) (.tmp 91), _, _, _, _⟩ :: _) _ _; refine wpList_store_as (op := ⟨none, .store 26 (.tmp 15) (.tmp 91), _, _, _, _⟩) rfl 26 (.tmp 15) (.tmp 91) rfl (q2.heap.size) 0 (pc y2).toArray rfl rfl (vthere (zbox_new q2 26 _ rfl) (us := pc y2) (pc_len Ty2.out)) (p_sizeA Ty2.out) (p_oneA y2) ?_; intro q2s hq2s))
  obtain ⟨hv, hT, hb⟩ := kvar_new U2gsg.out y2 Ty2.out q2.heap.size rfl hq2s
  have U2gsgs := Lib.hid hT
  have Vy2 := Lib.hid hv
  have BT2gsgs := Lib.hid (BT2gsg.out.trans (hb.mono (by have := BT2gsg.out.size; have := HG.out; omega)))
  have Y1qsqs := Lib.hid (Y1qsq.out.grow hb)
  have Y2qsqs := Lib.hid (Y2qsq.out.grow hb)
  have Vy1qs := Lib.hid (Vy1q.out.grow hb)
  have Ky1sqs := Lib.hid (Ky1sq.out.grow hb)
  have Ky2s := Lib.hid (Ky2.out.grow hb)
  clear hv hT hb hq2s U2gsg BT2gsg Y1qsq Y2qsq Vy1q Ky1sq Ky2
  clear U2gs BT2gs Y1qs Y2qs Vy1 Ky1s
  clear Vy2 Ky2s
  go_upto_region 15 with (first
      | (go_at_call 19; refine (t3_get U2gsgs.out (by have := BT2gsgs.out.size; have := HG.out; omega) c2 Y2qsqs.out.bs (Nat.le_refl _) (by omega) (LL.out _ BT2gsgs.out).1 (LL.out _ BT2gsgs.out).2 g_3).mono ?_; rintro e q3 ⟨y3, rfl, hy, hok, J3, hT, hm, hn, hk⟩; have U2gsgsg := Lib.hid hT; have Zy3 := Lib.hid hy; have Oy3 := Lib.hid hok; have Ty3 := Lib.hid hok.ok.tl; have Ky3 := Lib.hid hk; have BT2gsgsg := Lib.hid (BT2gsgs.out.trans (hm.below (B := g) (by have := BT2gsgs.out.size; have := HG.out; omega) U2gsgs.out.l1)); have Y1qsqsq := Lib.hid (Y1qsqs.out.s1 hm hn); have Y2qsqsq := Lib.hid (Y2qsqs.out.s1 hm hn); have Vy1qsq := Lib.hid (Vy1qs.out.s1 hm hn); have Ky1sqsq := Lib.hid (Ky1sqs.out.s1 hm hn); clear hy hok hT hm hn hk)
      | (show wpList _ _ _ (⟨none, .store 26 (.tmp 17) (.tmp 97), _, _, _, _⟩ :: _) _ _; refine wpList_store_as (op := ⟨none, .store 26 (.tmp 17) (.tmp 97), _, _, _, _⟩) rfl 26 (.tmp 17) (.tmp 97) rfl (q3.heap.size) 0 (pc y3).toArray rfl rfl (vthere (zbox_new q3 26 _ rfl) (us := pc y3) (pc_len Ty3.out)) (p_sizeA Ty3.out) (p_oneA y3) ?_; intro q3s hq3s))
  obtain ⟨hv, hT, hb⟩ := kvar_new U2gsgsg.out y3 Ty3.out q3.heap.size rfl hq3s
  have U2gsgsgs := Lib.hid hT
  have Vy3 := Lib.hid hv
  have BT2gsgsgs := Lib.hid (BT2gsgsg.out.trans (hb.mono (by have := BT2gsgsg.out.size; have := HG.out; omega)))
  have Y1qsqsqs := Lib.hid (Y1qsqsq.out.grow hb)
  have Y2qsqsqs := Lib.hid (Y2qsqsq.out.grow hb)
  have Vy1qsqs := Lib.hid (Vy1qsq.out.grow hb)
  have Ky1sqsqs := Lib.hid (Ky1sqsq.out.grow hb)
  have Ky3s := Lib.hid (Ky3.out.grow hb)
  clear hv hT hb hq3s U2gsgsg BT2gsgsg Y1qsqsq Y2qsqsq Vy1qsq Ky1sqsq Ky3
  clear U2gsgs BT2gsgs Y1qsqs Y2qsqs Vy1qs Ky1sqs
  clear Vy3 Ky3s
  have U5 := Lib.hid U2gsgsgs.out.swap3
  have Z1 := Lib.hid Y1qsqsqs.out.turn3
  have Z4 := Lib.hid Vy1qsqs.out.turn3
  have Z5 := Lib.hid Ky1sqsqs.out.turn3
  clear U2gsgsgs Y1qsqsqs Y2qsqsqs Vy1qsqs Ky1sqsqs
  go_upto_region 16 with (first
      | (go_at_call 19; refine (t3_get U5.out (by have := BT2gsgsgs.out.size; have := HG.out; omega) c1 Z1.out.bs (Nat.le_refl _) (by omega) (LL.out _ BT2gsgsgs.out).1 (LL.out _ BT2gsgsgs.out).2 g_4).mono ?_; rintro e q4 ⟨y4, rfl, hy, hok, J4, hT, hm, hn, hk⟩; have U5g := Lib.hid hT; have Zy4 := Lib.hid hy; have Oy4 := Lib.hid hok; have Ty4 := Lib.hid hok.ok.tl; have Ky4 := Lib.hid hk; have BT2gsgsgsg := Lib.hid (BT2gsgsgs.out.trans (hm.below (B := g) (by have := BT2gsgsgs.out.size; have := HG.out; omega) U5.out.l1)); have Z1q := Lib.hid (Z1.out.s1 hm hn); have Z4q := Lib.hid (Z4.out.s1 hm hn); have Z5q := Lib.hid (Z5.out.s1 hm hn); clear hy hok hT hm hn hk)
      | (show wpList _ _ _ (⟨none, .store 26 (.tmp 19) (.tmp 103), _, _, _, _⟩ :: _) _ _; refine wpList_store_as (op := ⟨none, .store 26 (.tmp 19) (.tmp 103), _, _, _, _⟩) rfl 26 (.tmp 19) (.tmp 103) rfl (q4.heap.size) 0 (pc y4).toArray rfl rfl (vthere (zbox_new q4 26 _ rfl) (us := pc y4) (pc_len Ty4.out)) (p_sizeA Ty4.out) (p_oneA y4) ?_; intro q4s hq4s))
  obtain ⟨hv, hT, hb⟩ := kvar_new U5g.out y4 Ty4.out q4.heap.size rfl hq4s
  have U5gs := Lib.hid hT
  have Vy4 := Lib.hid hv
  have BT2gsgsgsgs := Lib.hid (BT2gsgsgsg.out.trans (hb.mono (by have := BT2gsgsgsg.out.size; have := HG.out; omega)))
  have Z1qs := Lib.hid (Z1q.out.grow hb)
  have Z4qs := Lib.hid (Z4q.out.grow hb)
  have Z5qs := Lib.hid (Z5q.out.grow hb)
  have Ky4s := Lib.hid (Ky4.out.grow hb)
  clear hv hT hb hq4s U5g BT2gsgsgsg Z1q Z4q Z5q Ky4
  clear U5 BT2gsgsgs Z1 Z4 Z5
  clear Vy4 Ky4s
  have C1 := Lib.hid (cat1_any c1 22 Z1qs.out.bs (Nat.le_refl _) (by omega) 1 q4s.heap.size rfl)
  go_upto_region 17 with (go_at_call 25; refine C1.out.mono ?_; intro e k1 hm; obtain ⟨Az, cz, rfl, ho, hb, hz1, hz2⟩ := hm.n P1_len; have OZ := Lib.hid ho; have CZ := Lib.hid (And.intro hz1 hz2); have BK := Lib.hid ((below_one q4s (.cells #[.slice A1 77 c1] 22)).trans (hb.mono (by simp))); have SZ := Lib.hid (show q4s.heap.size ≤ (q4s.alloc (.cells #[.slice A1 77 c1] 22)).heap.size by simp); clear hm ho hb hz1 hz2)
  obtain ⟨gz, u, rfl, hgz, hgz2, HU, cu, fu, HST⟩ := own8_atL OZ.out (k := 76) (by omega)
  have hu : 0 ≤ u ∧ u < 256 := by rw [← HU.out]; exact P1_bytes 76 (by rw [P1_len]; omega)
  have hxr := xor_u8_range u 1 hu.1 hu.2 (by omega) (by omega)
  have hxn := xor_one u hu.1 hu.2
  have HX := Lib.hid (And.intro hxr hxn)
  have HGZ := Lib.hid (And.intro hgz hgz2)
  clear hu hxr hxn hgz hgz2
  go_upto_region 18 with fail
  obtain ⟨k2, hk2⟩ : ∃ W, W = k1.setCell ⟨gz, 76, none⟩ (.int .u8 (bits .xor .u8 u 1)) := ⟨_, rfl⟩
  try simp only [← hk2]
  obtain ⟨Lz, hLz⟩ : ∃ L, (bytesP P1).set 76 (bits .xor .u8 u 1) = L := ⟨_, rfl⟩
  have zb : IsBytes Lz := by rw [← hLz]; exact isBytes_setL P1_bytes (by rw [P1_len]; omega) HX.out.1.1 HX.out.1.2
  have zo := HST.out (bits .xor .u8 u 1)
  rw [hLz, ← hk2] at zo
  have B2k : Below q4s.heap.size q4s k2 := by rw [hk2]; exact BK.out.setCell (p := ⟨gz, 76, none⟩) (Nat.le_trans SZ.out HGZ.out.1) _
  have G5 := Lib.hid (show getZ xb3 Lz = (p0, 91, xb3) by rw [← hLz]; exact g_5 _ HX.out.1 (by rw [HU.out]; exact HX.out.2))
  have ZZ := Lib.hid (bs_of_own zo zb)
  have U6 := Lib.hid (U5gs.out.grow B2k).swap3
  have Z4b := Lib.hid (Z4qs.out.grow B2k).turn3
  have Z5b := Lib.hid (Z5qs.out.grow B2k).turn3
  have BT6 := Lib.hid (BT2gsgsgsgs.out.trans (B2k.mono (by have := BT2gsgsgsgs.out.size; have := HG.out; omega)))
  clear hk2 hLz zb zo B2k OZ BK HST HX HU cu fu C1 U5gs Z1qs Z4qs Z5qs BT2gsgsgsgs
  go_upto_region 19 with (first
      | (go_at_call 19; refine (t3_get U6.out (by have := BT6.out.size; have := HG.out; omega) cz ZZ.out (Nat.le_refl _) (by omega) (LL.out _ BT6.out).1 (LL.out _ BT6.out).2 G5.out).mono ?_; rintro e q5 ⟨y5, rfl, hy, hok, J5, hT, hm, hn, hk⟩; have U6g := Lib.hid hT; have Ty5 := Lib.hid hok.ok.tl; have BT6g := Lib.hid (BT6.out.trans (hm.below (B := g) (by have := BT6.out.size; have := HG.out; omega) U6.out.l1)); have Z4bq := Lib.hid (Z4b.out.s1 hm hn); have Z5bq := Lib.hid (Z5b.out.s1 hm hn); clear hy hok hT hm hn hk)
      | (show wpList _ _ _ (⟨none, .store 26 (.tmp 22) (.tmp 124), _, _, _, _⟩ :: _) _ _; refine wpList_store_as (op := ⟨none, .store 26 (.tmp 22) (.tmp 124), _, _, _, _⟩) rfl 26 (.tmp 22) (.tmp 124) rfl (q5.heap.size) 0 (pc y5).toArray rfl rfl (vthere (zbox_new q5 26 _ rfl) (us := pc y5) (pc_len Ty5.out)) (p_sizeA Ty5.out) (p_oneA y5) ?_; intro q5s hq5s))
  obtain ⟨hv, hT, hb⟩ := kvar_new U6g.out y5 Ty5.out q5.heap.size rfl hq5s
  have U6gs := Lib.hid hT
  have Vy5 := Lib.hid hv
  have BT6gs := Lib.hid (BT6g.out.trans (hb.mono (by have := BT6g.out.size; have := HG.out; omega)))
  have Z4bqs := Lib.hid (Z4bq.out.grow hb)
  have Z5bqs := Lib.hid (Z5bq.out.grow hb)
  clear hv hT hb hq5s U6g BT6g Z4bq Z5bq
  clear U6 BT6 Z4b Z5b Vy5 ZZ G5
  have I8 := Lib.hid (U6gs.out.grow (below_one q5s (.cells #[.int .u8 120] 5 (1, 2))))
  have BT7 := Lib.hid (BT6gs.out.trans ((below_one q5s (.cells #[.int .u8 120] 5 (1, 2))).mono (by have := BT6gs.out.size; have := HG.out; omega)))
  have Z4c := Lib.hid (Z4bqs.out.grow (below_one q5s (.cells #[.int .u8 120] 5 (1, 2))))
  have Z5c := Lib.hid (Z5bqs.out.grow (below_one q5s (.cells #[.int .u8 120] 5 (1, 2))))
  clear Z4bqs Z5bqs
  go_upto_region 20 with (first
      | (go_at_call 19; refine (t3_get I8.out (by have := BT7.out.size; have := HG.out; omega) 1 (bs_newFL q5s [120] 1 rfl (one_byte 120 (by omega) (by omega)) 5 _ _ rfl) (by simp) (by omega) (LL.out _ BT7.out).1 (LL.out _ BT7.out).2 (g_6 _)).mono ?_; rintro e q6 ⟨y6, rfl, hy, hok, J6, hT, hm, hn, hk⟩; have I9 := Lib.hid hT; have Ty6 := Lib.hid hok.ok.tl; have BT8 := Lib.hid (BT7.out.trans (hm.below (B := g) (by have := BT7.out.size; have := HG.out; omega) I8.out.l1)); have Z4d := Lib.hid (Z4c.out.s1 hm hn); have Z5d := Lib.hid (Z5c.out.s1 hm hn); clear hy hok hT hm hn hk)
      | (show wpList _ _ _ (⟨none, .store 26 (.tmp 24) (.tmp 131), _, _, _, _⟩ :: _) _ _; refine wpList_store_as (op := ⟨none, .store 26 (.tmp 24) (.tmp 131), _, _, _, _⟩) rfl 26 (.tmp 24) (.tmp 131) rfl (q6.heap.size) 0 (pc y6).toArray rfl rfl (vthere (zbox_new q6 26 _ rfl) (us := pc y6) (pc_len Ty6.out)) (p_sizeA Ty6.out) (p_oneA y6) ?_; intro q6s hq6s))
  obtain ⟨hv, hT, hb⟩ := kvar_new I9.out y6 Ty6.out q6.heap.size rfl hq6s
  have I9s := Lib.hid hT
  have Vy6 := Lib.hid hv
  have BT8s := Lib.hid (BT8.out.trans (hb.mono (by have := BT8.out.size; have := HG.out; omega)))
  have Z4ds := Lib.hid (Z4d.out.grow hb)
  have Z5ds := Lib.hid (Z5d.out.grow hb)
  clear hv hT hb hq6s I9 BT8 Z4d Z5d
  have cy := Z4ds.out.box.at1 (i := 5) (v := .slice y1.A y1.n y1.c) rfl
  have hyn : Hid (y1.n = 1) := Lib.hid (by have h1 := Z5ds.out.bs.len; rw [Zy1.out] at h1; exact h1.symm)
  have hb5 := Z5ds.out.bs
  rw [Zy1.out, hyn.out] at hb5
  rw [hyn.out] at cy
  have HB5 := Lib.hid hb5
  clear hb5 I8 BT7 Z4c Z5c Vy6 U6gs BT6gs
  go_wp2_with (go_at_call 23; refine (same_any y1.c 1 (HB5.out.alloc (Nat.le_refl _) _) (bs_newFL q6s [97] 1 rfl one_bytes 5 _ _ rfl) (by unfold maxLen; omega) (by unfold maxLen; omega)).mono ?_; rintro e z1 ⟨rfl, hq⟩; obtain ⟨nq, rfl⟩ := hq)
  go_ret
  refine ⟨rfl, ?_⟩
  exact BF.out _ (below_drewN (BT8s.out.trans ((below_one q6s _).mono (by have := BT8s.out.size; have := HG.out; omega))) _)
end Go.Proofs.YtlknjaoamkcmjaaDoor
