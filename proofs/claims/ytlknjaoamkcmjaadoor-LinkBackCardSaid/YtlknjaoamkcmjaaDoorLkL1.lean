/- The statement LinkBack: the walk. -/
import Derived.Test.YtlknjaoamkcmjaaDoorLkX
import Derived.Test.YtlknjaoamkcmjaaDoorLkOp
import Derived.Test.YtlknjaoamkcmjaaDoorB1
import Derived.ChangeKeysEq
namespace Go.Proofs.YtlknjaoamkcmjaaDoor
open Go.ChangeShapes Go.WideShapes Go.ChangeAt Go.RowKit
set_option linter.unusedVariables false
set_option maxRecDepth 100000
set_option linter.unusedSimpArgs false
open Plain Sha Wn Lk
theorem run_part8L (a : List Int) (i : Nat) (hi : i < a.length) (w : World) : (part 5 (vals a).toArray (i * 1)).run Tryd.prog w = .ok (.int .u8 (a.getD i 0)) w := by
  have hx := vals_at a i hi
  simp [part, isAgg, run_underlying Tryd.underlying5, hx, go_sem]
theorem run_eqItems8L (d : Nat) (a b : List Int) (hl : a.length = b.length) (w : World) : ∀ (is : List Nat), (∀ i ∈ is, i < a.length) →
    (Op.eqItems (d + 1) 5 1 (vals a).toArray (vals b).toArray is).run Tryd.prog w = .ok (is.all fun i => a.getD i 0 == b.getD i 0) w
  | [], _ => by simp [Op.eqItems]
  | i :: is, h => by
    have hi := h i (by simp)
    simp only [Op.eqItems, Sem.run_bind, run_part8L a i hi w, run_part8L b i (by omega) w, Result.andThen_ok, run_equalIn_int w d 5 .u8 .u8 _ _ Tryd.underlying5, List.all_cons]
    have ih := run_eqItems8L d a b hl w is (fun j hj => h j (by simp [hj]))
    cases hc : (a.getD i 0 == b.getD i 0)
    · simp
    · simp only [Bool.not_true, Bool.false_eq_true, if_false, Bool.true_and]
      exact ih
theorem eqB_rangeL (a b : List Int) (hl : a.length = b.length) : ((List.range a.length).all fun i => a.getD i 0 == b.getD i 0) = eqB a b := by
  rw [Bool.eq_iff_iff]
  simp only [List.all_eq_true, List.mem_range, beq_iff_eq, eqB, decide_eq_true_eq]
  exact ⟨fun h => list_ext_getD hl h, fun h _ _ => by rw [h]⟩
theorem u8_cellsL : Tryd.prog.cellsOf 5 = 1 := by kernel_rfl
theorem run_tagInL (a b : List Int) (ha : a.length = 32) (hb : b.length = 32) (w : World) : (Op.equalIn 10000 24 (.agg (vals a).toArray) (.agg (vals b).toArray)).run Tryd.prog w = .ok (eqB a b) w := by
  obtain ⟨i, z, hi, _⟩ := u8_info
  rw [run_equalIn_array w 9999 (vals a).toArray (vals b).toArray Tryd.underlying24 hi, u8_cellsL]
  have := run_eqItems8L 9998 a b (by omega) w (List.range 32) (fun i hi => by rw [List.mem_range] at hi; omega)
  rw [this, ← eqB_rangeL a b (by omega), ha]
theorem run_tagEqL (a b : List Int) (ha : a.length = 32) (hb : b.length = 32) (w : World) : (binOp .eql 24 (.agg (vals a).toArray) (.agg (vals b).toArray)).run Tryd.prog w = .ok (.bool (eqB a b)) w := by
  rw [run_eql_struct, run_tagInL a b ha hb]; rfl
theorem run_tagNeL (a b : List Int) (ha : a.length = 32) (hb : b.length = 32) (w : World) : (binOp .neq 24 (.agg (vals a).toArray) (.agg (vals b).toArray)).run Tryd.prog w = .ok (.bool (!eqB a b)) w := by
  rw [run_neq_struct, run_tagInL a b ha hb]; rfl
theorem wpList_execGL {P : Program} {ops : Array Oper} {rest : List Oper} {op : Oper} {a : Act} {w : World} {Q : Exit → Act → World → Prop} (hw : Region.wanted op (yielded ops a.tmps) = true) (v : Value)
    (hrun : (execOp a.eval op).run P w = .ok (.value v) w) (h : wpList P ops Q rest (a.put op.dst v) w) : wpList P ops Q (op :: rest) a w := by
  simp only [wpList, hw, if_true]
  exact .inl (by unfold Oper.wp; simp only [hrun]; exact h)
theorem IsList.n {x : Value} {w : World} {base N : Nat} {zs : List Int} (h : IsList x w base zs) (hn : zs.length = N) : ∃ A c, x = .slice A N c ∧ w.ownsRow base 5 1 (.slice A N c) N (vals zs) ∧ N ≤ c ∧ c ≤ maxLen := by
  subst hn
  obtain ⟨A, c, rfl, h⟩ := h
  exact ⟨A, c, rfl, h⟩
theorem below_quiet {w w' : World} (h : ∃ m, w' = w.drewN m) : Below w.heap.size w w' := by obtain ⟨m, rfl⟩ := h; exact below_drewN (Below.refl _ _) m
set_option maxHeartbeats 16000000 in
theorem lkback_long (px : PX) (cut : Int) (w : World) (h : PXIn w px) (hM : px.n ≤ 140737488355328) (hcut1 : -9223372036854775808 ≤ cut) (hcut2 : cut ≤ 9223372036854775807) (hF : LaidF w) (hK : LaidK w) (hl : 500 < px.n)
    : Calls Tryd.prog 6 #[.agg (pc px).toArray, .int .i64 cut] w (fun e w' => e = .returned (.bool true) ∧ Below w.heap.size w w') := by
  obtain ⟨W1, hW1⟩ : ∃ W, W = w.alloc (.cells (pc px).toArray 26) := ⟨_, rfl⟩
  obtain ⟨g, hg⟩ : ∃ g, w.heap.size = g := ⟨_, rfl⟩
  have b1 : Below w.heap.size w W1 := by rw [hW1]; exact below_one _ _
  have B1 := Lib.hid b1
  have V1 := Lib.hid (show VBox W1 g 38 (pc px) by rw [hW1]; exact pbox_new w px h.tl _ g hg)
  have HG := Lib.hid hg
  have HW1 := Lib.hid hW1
  have AW := Lib.hid (lawake_any W1 (hF.below b1 hF.lt) (hK.below b1 hK.lt))
  have HTL := Lib.hid h.tl
  have htl := h.tl
  have hl2 : (500 : Int) < (px.n : Int) := by omega
  clear hW1 hg b1 h hF hK
  go_enter Tryd.func6, Tryd.ntmps6
  go_upto_region 1 with fail
  rw [← HW1.out, HG.out]
  clear hl
  go_wp2_with (go_at_call 21; refine AW.out.mono ?_; rintro e w2 ⟨rfl, hb⟩; obtain ⟨_, _, _, _, _, c5⟩ := pbox_cells (V1.out.grow hb); have B2 := Lib.hid hb; clear hb)
  go_ret
  exact ⟨rfl, B1.out.trans (B2.out.mono B1.out.size)⟩
set_option maxHeartbeats 16000000 in
theorem lkback_no (px : PX) (cut : Int) (w : World) (h : PXIn w px) (hM : px.n ≤ 140737488355328) (hcut1 : -9223372036854775808 ≤ cut) (hcut2 : cut ≤ 9223372036854775807) (hF : LaidF w) (hK : LaidK w) (hl : ¬ 500 < px.n) (hm : mayP px.z = false)
    : Calls Tryd.prog 6 #[.agg (pc px).toArray, .int .i64 cut] w (fun e w' => e = .returned (.bool true) ∧ Below w.heap.size w w') := by
  obtain ⟨W1, hW1⟩ : ∃ W, W = w.alloc (.cells (pc px).toArray 26) := ⟨_, rfl⟩
  obtain ⟨g, hg⟩ : ∃ g, w.heap.size = g := ⟨_, rfl⟩
  have b1 : Below w.heap.size w W1 := by rw [hW1]; exact below_one _ _
  have B1 := Lib.hid b1
  have V1 := Lib.hid (show VBox W1 g 38 (pc px) by rw [hW1]; exact pbox_new w px h.tl _ g hg)
  have HG := Lib.hid hg
  have HW1 := Lib.hid hW1
  have AW := Lib.hid (lawake_any W1 (hF.below b1 hF.lt) (hK.below b1 hK.lt))
  have HTL := Lib.hid h.tl
  have htl := h.tl
  have hl2 : ¬ (500 : Int) < (px.n : Int) := by omega
  have HOK := Lib.hid ((h.ok (by omega)).below b1 (Nat.le_refl _))
  have hll : px.n ≤ 65000 := by omega
  have HM := Lib.hid hm
  clear hW1 hg b1 h hF hK
  go_enter Tryd.func6, Tryd.ntmps6
  go_upto_region 1 with fail
  rw [← HW1.out, HG.out]
  clear hl hm
  go_upto_region 5 with (go_at_call 21; refine AW.out.mono ?_; rintro e w2 ⟨rfl, hb⟩; obtain ⟨_, _, _, _, _, c5⟩ := pbox_cells (V1.out.grow hb); have B2 := Lib.hid hb; clear hb)
  have V2 := Lib.hid (V1.out.grow B2.out)
  have OK2 := Lib.hid (HOK.out.below B2.out B1.out.size)
  have BB2 := Lib.hid (Nat.le_trans B1.out.size B2.out.size)
  have BT2 := Lib.hid (B1.out.trans (B2.out.mono B1.out.size))
  clear c5
  have PN := Lib.hid (print_no (w := w2) HTL.out HM.out)
  have MN := Lib.hid (pmay_any HTL.out false HM.out)
  go_wp2_with (first
      | (with_reducible show wpList _ _ _ (⟨some 22, .load 26 (.tmp 2), _, _, _, _⟩ :: _) _ _; refine wpList_load_mid (op := ⟨some 22, .load 26 (.tmp 2), _, _, _, _⟩) rfl 26 (.tmp 2) rfl (g) 0 rfl (pc px) _ (V2.out.range) Tryd.underlying26 rfl (p_size HTL.out) ?_)
      | (go_at_call 15; refine (PN.out).mono ?_; rintro e w3 ⟨u, rfl, hu, hb⟩; have B3 := Lib.hid hb; clear hu hb)
      | (with_reducible show wpList _ _ _ (⟨some 28, .load 26 (.tmp 2), _, _, _, _⟩ :: _) _ _; refine wpList_load_mid (op := ⟨some 28, .load 26 (.tmp 2), _, _, _, _⟩) rfl 26 (.tmp 2) rfl (g) 0 rfl (pc px) _ ((V2.out.grow B3.out).range) Tryd.underlying26 rfl (p_size HTL.out) ?_)
      | (go_at_call 13; refine (MN.out _).mono ?_; rintro e w4 ⟨rfl, hb⟩; have B4 := Lib.hid hb; clear hb))
  go_ret
  exact ⟨rfl, BT2.out.trans ((B3.out.trans (B4.out.mono B3.out.size)).mono BT2.out.size)⟩
set_option maxHeartbeats 16000000 in
theorem lkback_yes (px : PX) (cut : Int) (w : World) (h : PXIn w px) (hM : px.n ≤ 140737488355328) (hcut1 : -9223372036854775808 ≤ cut) (hcut2 : cut ≤ 9223372036854775807) (hF : LaidF w) (hK : LaidK w) (hl : ¬ 500 < px.n) (hm : mayP px.z = true)
    : Calls Tryd.prog 6 #[.agg (pc px).toArray, .int .i64 cut] w (fun e w' => e = .returned (.bool true) ∧ Below w.heap.size w w') := by
  obtain ⟨W1, hW1⟩ : ∃ W, W = w.alloc (.cells (pc px).toArray 26) := ⟨_, rfl⟩
  obtain ⟨g, hg⟩ : ∃ g, w.heap.size = g := ⟨_, rfl⟩
  have b1 : Below w.heap.size w W1 := by rw [hW1]; exact below_one _ _
  have B1 := Lib.hid b1
  have V1 := Lib.hid (show VBox W1 g 38 (pc px) by rw [hW1]; exact pbox_new w px h.tl _ g hg)
  have HG := Lib.hid hg
  have HW1 := Lib.hid hW1
  have AW := Lib.hid (lawake_any W1 (hF.below b1 hF.lt) (hK.below b1 hK.lt))
  have HTL := Lib.hid h.tl
  have htl := h.tl
  have hl2 : ¬ (500 : Int) < (px.n : Int) := by omega
  have HOK := Lib.hid ((h.ok (by omega)).below b1 (Nat.le_refl _))
  have hll : px.n ≤ 65000 := by omega
  obtain ⟨L, hL⟩ : ∃ L, bytesP px.z = L := ⟨_, rfl⟩
  obtain ⟨N, hN⟩ : ∃ N, L.length = N := ⟨_, rfl⟩
  have hok := (h.ok (by omega)).ok
  have hbl : px.z.body.length ≤ 65000 := by rw [h.body.len]; omega
  have HN := Lib.hid hN
  have hNN : N = 76 + px.n := by rw [← hN, ← hL, bytesP_len hok, h.body.len]
  have hNa : N ≤ 576 := by omega
  have hNb : 76 ≤ N := by omega
  have hLb : IsBytes L := by rw [← hL]; exact bytesP_bytes hok
  have HLB := Lib.hid hLb
  have PP : Hid (∀ (W : World) (x : PX), PXOk W W.heap.size x → x.z = px.z → x.n ≤ 65000 → Calls Tryd.prog 15 #[.agg (pc x).toArray] W (PrintT W L 0)) := Lib.hid (fun W x hx hz hn => by
    have := print_yes hx (Nat.le_refl _) hn (by rw [hz]; exact hm)
    rwa [hz, hL] at this)
  have PR : Hid (∀ (W : World) (B : Nat) (A : Option Addr) (c : Nat), Bs W B A N L → B ≤ W.heap.size → Calls Tryd.prog 24 #[.slice A N c] W (ReadsP W px.z 0)) := Lib.hid (fun W B A c hb hB => by
    have := lparse_any c hb hB (by omega)
    rwa [← hL, parseL_form hok hbl hm] at this)
  have PR2 : Hid (∀ (W : World) (B : Nat) (A : Option Addr) (c : Nat), Bs W B A (N + 1) (L ++ [0]) → B ≤ W.heap.size → Calls Tryd.prog 24 #[.slice A (N + 1) c] W (ReadsP W p0 190)) := Lib.hid (fun W B A c hb hB => by
    have := lparse_any c hb hB (by omega)
    rwa [← hL, parseL_behind hok hbl (by simp) (by simp)] at this)
  have PR3 : Hid (∀ (W : World) (B m : Nat) (A : Option Addr) (c : Nat), m < N → Bs W B A m (L.take m) → B ≤ W.heap.size → Calls Tryd.prog 24 #[.slice A m c] W (ReadsP W p0 190)) := Lib.hid (fun W B m A c hm' hb hB => by
    have := lparse_any c hb hB (by omega)
    rwa [← hL, parseL_cut hok hbl (by rw [hL, hN]; exact hm')] at this)
  have LA : Hid ((L ++ [0]).length = N + 1) := Lib.hid (by rw [List.length_append, hN]; rfl)
  have LAB := Lib.hid (hLb.app (one_byte 0 (by omega) (by omega)))
  have eqL : Hid (eqB L L = true) := Lib.hid (eqB_self L)
  have eqZ : Hid (eqB px.z.body px.z.body = true) := Lib.hid (eqB_self _)
  have HBD := Lib.hid (h.body.belowM b1 (Nat.le_refl _))
  have hTG : ∀ w : World, (Op.equalIn 10000 24 (.agg (vals px.z.tag).toArray) (.agg (vals px.z.tag).toArray)).run Tryd.prog w = .ok true w := fun w => by
    rw [run_tagInL px.z.tag px.z.tag htl htl w, eqB_self]
  clear hW1 hg b1 h hF hK
  go_enter Tryd.func6, Tryd.ntmps6
  go_upto_region 1 with fail
  rw [← HW1.out, HG.out]
  clear hl hm hL hN hNN hok hbl hLb
  have zk := zPk
  have zs := zPc_size
  have zn := zPc_ne
  go_upto_region 5 with (go_at_call 21; refine AW.out.mono ?_; rintro e w2 ⟨rfl, hb⟩; obtain ⟨_, _, _, _, _, c5⟩ := pbox_cells (V1.out.grow hb); have B2 := Lib.hid hb; clear hb)
  have V2 := Lib.hid (V1.out.grow B2.out)
  have OK2 := Lib.hid (HOK.out.below B2.out B1.out.size)
  have BB2 := Lib.hid (Nat.le_trans B1.out.size B2.out.size)
  have BT2 := Lib.hid (B1.out.trans (B2.out.mono B1.out.size))
  clear c5
  go_upto_region 8 with (first
      | (with_reducible show wpList _ _ _ (⟨some 22, .load 26 (.tmp 2), _, _, _, _⟩ :: _) _ _; refine wpList_load_mid (op := ⟨some 22, .load 26 (.tmp 2), _, _, _, _⟩) rfl 26 (.tmp 2) rfl (g) 0 rfl (pc px) _ (V2.out.range) Tryd.underlying26 rfl (p_size HTL.out) ?_)
      | (go_at_call 15; refine (PP.out _ px ⟨OK2.out.ok, OK2.out.body.more BB2.out, OK2.out.nc, OK2.out.cm⟩ rfl hll).mono ?_; rintro e w3 ⟨u, rfl, hu, hb⟩; obtain ⟨D3, d3, rfl, ho, hd1, hd2⟩ := hu.n HN.out; have O3 := Lib.hid ho; have B3 := Lib.hid hb; have DD3 := Lib.hid (And.intro hd1 hd2); clear ho hb hu hd1 hd2))
  have V3 := Lib.hid (V2.out.grow B3.out)
  have L3 := Lib.hid (bs_of_own O3.out HLB.out)
  have BT3 := Lib.hid (BT2.out.trans (B3.out.mono BT2.out.size))
  go_upto_region 9 with (first
      | (go_at_call 24; refine (PR.out _ _ _ _ L3.out (Nat.le_refl _)).mono ?_; rintro e w4 ⟨y, rfl, hy, hok, ho, hb⟩; have YZ := Lib.hid hy; have YOK := Lib.hid hok; have YT := Lib.hid hok.ok.tl; have YO := Lib.hid ho; have B4 := Lib.hid hb; clear hy hok ho hb)
      | (with_reducible show wpList _ _ _ (⟨none, .store 26 (.tmp 7) (.tmp 34), _, _, _, _⟩ :: _) _ _; refine wpList_store_as (op := ⟨none, .store 26 (.tmp 7) (.tmp 34), _, _, _, _⟩) rfl 26 (.tmp 7) (.tmp 34) rfl (w4.heap.size) 0 (pc y).toArray rfl rfl (vthere (zbox_new w4 26 _ rfl) (us := pc y) (pc_len YT.out)) (p_sizeA YT.out) (p_oneA y) ?_; intro w5 hw5))
  obtain ⟨VY, hb5⟩ := vstored (zbox_new w4 26 w4.heap.size rfl) (us := pc y) (pc_len YT.out) hw5 (Nat.le_refl _) (below_one w4 _)
  obtain ⟨gy, hgy⟩ : ∃ k, w4.heap.size = k := ⟨_, rfl⟩
  have B45 := Lib.hid (B4.out.trans (hb5.mono B4.out.size))
  have YOK5 := Lib.hid (show PXOk w5 w5.heap.size y from ⟨YOK.out.ok, bs_of_own (own_below YO.out hb5 (Nat.le_refl _)) YOK.out.ok.body, YOK.out.nc, YOK.out.cm⟩)
  rw [hgy] at VY ⊢
  have V5 := Lib.hid (V3.out.grow B45.out)
  have VY5 := Lib.hid VY
  have L5 := Lib.hid (L3.out.belowM B45.out (Nat.le_refl _))
  have SZ5 := Lib.hid (B45.out.size)
  have BT5 := Lib.hid (BT3.out.trans (B45.out.mono BT3.out.size))
  have hyn : Hid (y.n = px.n) := Lib.hid (by rw [← YOK.out.body.len, YZ.out]; exact HBD.out.len)
  clear hw5 hb5 VY hgy
  go_upto_region 10 with (first
      | (with_reducible show wpList _ _ _ (⟨some 37, .load 26 (.tmp 7), _, _, _, _⟩ :: _) _ _; refine wpList_load_mid (op := ⟨some 37, .load 26 (.tmp 7), _, _, _, _⟩) rfl 26 (.tmp 7) rfl (gy) 0 rfl (pc y) _ (VY5.out.range) Tryd.underlying26 rfl (p_size YT.out) ?_)
      | (go_at_call 15; refine (PP.out _ y YOK5.out YZ.out (by rw [hyn.out]; exact hll)).mono ?_; rintro e w6 ⟨u, rfl, hu, hb⟩; obtain ⟨D6, d6, rfl, ho, hd1, hd2⟩ := hu.n HN.out; have O6 := Lib.hid ho; have B6 := Lib.hid hb; clear ho hb hu hd1 hd2))
  have BA6 : Hid (Below w6.heap.size w6 (w6.alloc (.cells #[.int .u8 0] 5))) := Lib.hid (below_one _ _)
  have V6 := Lib.hid (V5.out.grow B6.out)
  have VY6 := Lib.hid (VY5.out.grow B6.out)
  have L6 := Lib.hid (L5.out.belowM B6.out SZ5.out)
  have C6 := Lib.hid (bs_of_own O6.out HLB.out)
  have Y6 := Lib.hid (YOK5.out.below B6.out (Nat.le_refl _))
  have SZ6 := Lib.hid (B6.out.size)
  have BT6 := Lib.hid (BT5.out.trans (B6.out.mono BT5.out.size))
  have CC := Lib.hid (cat2_any (w := w6.alloc (.cells #[.int .u8 0] 5)) d3 1 22 (L6.out.belowM BA6.out (Nat.le_trans SZ5.out SZ6.out)) (bs_new w6 [0] 1 rfl (one_byte 0 (by omega) (by omega)) 5 _ rfl) (by have := SZ5.out; have := SZ6.out; simp; omega) (by simp) (by omega) 2 (w6.heap.size + 1) (by simp))
  have BA7 : Hid (Below w6.heap.size w6 ((w6.alloc (.cells #[.int .u8 0] 5)).alloc (.cells #[.slice D3 N d3, .slice (some ⟨w6.heap.size, 0, none⟩) 1 1] 22))) := Lib.hid (BA6.out.alloc (by simp) _)
  go_upto_region 11 with (first
      | (go_at_call 25; refine CC.out.mono ?_; intro e w7 hm; obtain ⟨D7, d7, rfl, ho, hb, _, _⟩ := hm.n LA.out; have Z7 := Lib.hid (Made.bs ho LAB.out); have B7 := Lib.hid (BA7.out.trans (hb.mono (by simp; omega))); clear hm ho hb)
      | (go_at_call 24; refine (PR2.out _ _ _ _ Z7.out (Nat.le_refl _)).mono ?_; rintro e w8 ⟨y8, rfl, hy, hok, ho, hb⟩; have Y8T := Lib.hid hok.ok.tl; have B8 := Lib.hid (B7.out.trans (hb.mono B7.out.size)); clear hy hok ho hb)
      | (with_reducible show wpList _ _ _ (⟨none, .store 26 (.tmp 11) (.tmp 47), _, _, _, _⟩ :: _) _ _; refine wpList_store_as (op := ⟨none, .store 26 (.tmp 11) (.tmp 47), _, _, _, _⟩) rfl 26 (.tmp 11) (.tmp 47) rfl (w8.heap.size) 0 (pc y8).toArray rfl rfl (vthere (zbox_new w8 26 _ rfl) (us := pc y8) (pc_len Y8T.out)) (p_sizeA Y8T.out) (p_oneA y8) ?_; intro w9 hw9))
  obtain ⟨_, hb9⟩ := vstored (zbox_new w8 26 w8.heap.size rfl) (us := pc y8) (pc_len Y8T.out) hw9 (Nat.le_refl _) (below_one w8 _)
  have B9 := Lib.hid (B8.out.trans (hb9.mono B8.out.size))
  have V9 := Lib.hid (V6.out.grow B9.out)
  have VY9 := Lib.hid (VY6.out.grow B9.out)
  have L9 := Lib.hid (L6.out.belowM B9.out (Nat.le_trans SZ5.out SZ6.out))
  have C9 := Lib.hid (C6.out.belowM B9.out (Nat.le_refl _))
  have Y9 := Lib.hid (Y6.out.below B9.out SZ6.out)
  have SZ9 := Lib.hid (B9.out.size)
  have BT9 := Lib.hid (BT6.out.trans (B9.out.mono BT6.out.size))
  have HBD9 := Lib.hid (HBD.out.belowM ((B2.out.trans (B3.out.mono B2.out.size)).trans (((B45.out.trans (B6.out.mono B45.out.size)).trans (B9.out.mono (Nat.le_trans B45.out.size B6.out.size))).mono (Nat.le_trans B2.out.size B3.out.size))) B1.out.size)
  have SZB : Hid (w.heap.size ≤ w9.heap.size ∧ w3.heap.size ≤ w9.heap.size ∧ w5.heap.size ≤ w9.heap.size) := Lib.hid ⟨BT9.out.size, Nat.le_trans SZ5.out (Nat.le_trans SZ6.out SZ9.out), Nat.le_trans SZ6.out SZ9.out⟩
  clear hw9 hb9 CC BA6 BA7 PP PR PR2 zk zs zn V1 V2 V3 V5 V6 VY5 VY6 L3 L5 L6 C6 Y6 O3 O6 HBD OK2 BB2 YOK YOK5 YO
  have S1 := HG
  have S2 := HG
  have T1 := HG
  go_upto_region 13 with (first
      | (have g0 := S1; clear g0; go_at_call 23; refine (same_any d3 d6 L9.out C9.out (by unfold maxLen; omega) (by unfold maxLen; omega)).mono ?_; rw [eqL.out]; rintro e w10 ⟨rfl, hq⟩; have B10 := Lib.hid (below_quiet hq); clear hq S1; obtain ⟨k0, k1, k2, k3, k4, k5⟩ := pbox_cells (V9.out.grow B10.out); have hk := pbox_cells (VY9.out.grow B10.out); rw [YZ.out, hyn.out] at hk; obtain ⟨j0, j1, j2, j3, j4, j5⟩ := hk)
      | (have g0 := S2; clear g0; go_at_call 23; refine (same_any y.c px.c (n1 := px.n) (zs1 := px.z.body) (by have := (Y9.out.below B10.out SZB.out.2.2).body; rw [YZ.out, hyn.out] at this; exact this) (HBD9.out.belowM B10.out SZB.out.1) (by unfold maxLen; omega) (by unfold maxLen; omega)).mono ?_; rw [eqZ.out]; rintro e w11 ⟨rfl, hq⟩; have B11 := Lib.hid (below_quiet hq); clear hq S2 k0 k1 k2 k3 k4 k5 j0 j1 j2 j3 j4 j5)
      | (have g0 := T1; clear g0; show wpList _ _ _ (⟨some 102, .load 24 (.tmp 101), _, _, _, some (51, false)⟩ :: _) _ _; refine wpList_load_guardL (op := ⟨some 102, .load 24 (.tmp 101), _, _, _, some (51, false)⟩) (by rfl) 24 (.tmp 101) rfl (gy) (6) rfl (vals px.z.tag) _ ((by have := pbox_tag (VY9.out.grow B10.out); rwa [YZ.out] at this)) Tryd.underlying24 rfl (tag_size px.z.tag htl) ?_; refine wpList_execGL (op := ⟨some 103, .fieldAddr 26 (.tmp 2) 6, _, _, _, some (51, false)⟩) (by rfl) (.pointer (some ⟨g, 6, none⟩)) (by go_simp; try rfl) ?_; refine wpList_load_guardL (op := ⟨some 104, .load 24 (.tmp 103), _, _, _, some (51, false)⟩) (by rfl) 24 (.tmp 103) rfl (g) (6) rfl (vals px.z.tag) _ ((pbox_tag (V9.out.grow B10.out))) Tryd.underlying24 rfl (tag_size px.z.tag htl) ?_; clear T1))
  have BT11 := Lib.hid (BT9.out.trans ((B10.out.trans (B11.out.mono B10.out.size)).mono BT9.out.size))
  have L11 := Lib.hid (L9.out.belowM (B10.out.trans (B11.out.mono B10.out.size)) SZB.out.2.1)
  have SZ11 : Hid (w3.heap.size ≤ w11.heap.size) := Lib.hid (Nat.le_trans SZB.out.2.1 (Nat.le_trans B10.out.size B11.out.size))
  clear V9 VY9 L9 C9 Y9 HBD9 hTG
  by_cases hc1 : cut < 1
  · go_wp2
    go_ret
    exact ⟨rfl, BT11.out⟩
  by_cases hc2 : (N : Int) < cut
  · go_wp2
    go_ret
    exact ⟨rfl, BT11.out⟩
  have hw : IntKind.i64.wrap ((N : Int) - cut) = (N : Int) - cut := by rw [IntKind.wrap_i64]; omega
  obtain ⟨m, hm⟩ : ∃ m : Nat, (N : Int) - cut = m := ⟨((N : Int) - cut).toNat, by omega⟩
  have hsl := cut_h D3 N d3 m (m : Int) rfl (by have := DD3.out; omega)
  have hmN : m < N := by omega
  have HMN := Lib.hid hmN
  have zk := zPk
  have zs := zPc_size
  have zn := zPc_ne
  clear hmN
  go_upto_region 16 with (first
      | (go_at_call 24; refine (PR3.out _ _ m D3 _ HMN.out (show Bs w11 _ D3 m (L.take m) from (by have := L11.out.cut (k := 0) (m := m) (by have := HMN.out; omega) D3 (fun b off e h0 => by simpa using e); rwa [List.drop_zero] at this)) SZ11.out).mono ?_; rintro e w12 ⟨y12, rfl, hy, hok, ho, hb⟩; have Y12T := Lib.hid hok.ok.tl; have B12 := Lib.hid hb; clear hy hok ho hb)
      | (with_reducible show wpList _ _ _ (⟨none, .store 26 (.tmp 13) (.tmp 131), _, _, _, _⟩ :: _) _ _; refine wpList_store_as (op := ⟨none, .store 26 (.tmp 13) (.tmp 131), _, _, _, _⟩) rfl 26 (.tmp 13) (.tmp 131) rfl (w12.heap.size) 0 (pc y12).toArray rfl rfl (vthere (zbox_new w12 26 _ rfl) (us := pc y12) (pc_len Y12T.out)) (p_sizeA Y12T.out) (p_oneA y12) ?_; intro w13 hw13))
  obtain ⟨_, hb13⟩ := vstored (zbox_new w12 26 w12.heap.size rfl) (us := pc y12) (pc_len Y12T.out) hw13 (Nat.le_refl _) (below_one w12 _)
  have BT13 := Lib.hid (BT11.out.trans ((B12.out.trans (hb13.mono B12.out.size)).mono BT11.out.size))
  clear hw13 hb13 zk zs zn
  go_wp2
  go_ret
  exact ⟨rfl, BT13.out⟩
theorem lkback_in (px : PX) (cut : Int) (w : World) (h : PXIn w px) (hM : px.n ≤ 140737488355328) (hcut : -9223372036854775808 ≤ cut ∧ cut ≤ 9223372036854775807) (hF : LaidF w) (hK : LaidK w) :
    Calls Tryd.prog 6 #[.agg (pc px).toArray, .int .i64 cut] w (fun e w' => e = .returned (.bool true) ∧ Below w.heap.size w w') := by
  by_cases hl : 500 < px.n
  · exact lkback_long px cut w h hM hcut.1 hcut.2 hF hK hl
  · cases hm : mayP px.z with
    | false => exact lkback_no px cut w h hM hcut.1 hcut.2 hF hK hl hm
    | true => exact lkback_yes px cut w h hM hcut.1 hcut.2 hF hK hl hm
end Go.Proofs.YtlknjaoamkcmjaaDoor
