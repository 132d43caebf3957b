/- The statement AuditChecks: the walk. -/
import Derived.Test.YtkaojhcmdichfaaDoorAuV
import Derived.Test.YtkaojhcmdichfaaDoorAuRC
namespace Go.Proofs.YtkaojhcmdichfaaDoor
open Go.ChangeShapes Go.WideShapes Go.ChangeAt Go.RowKit
set_option linter.unusedVariables false
set_option linter.unusedSimpArgs false
open Plain Sha Au
set_option maxRecDepth 100000 in
set_option maxHeartbeats 8000000 in
theorem auchecks_any (A : Option Addr) (n c : Nat) (l : List LinkZ) (i : Int) (w : World) (h : Lks w w.heap.size A n l) (hnc : n ≤ c) (hcm : c ≤ maxLen) (hi : -9223372036854775808 ≤ i ∧ i ≤ 9223372036854775807) (hF : LaidF w) (hK : LaidK w) :
    Calls Tryd.prog 4 #[.slice A n c, .int .i64 i] w (fun e w' => e = .returned (.bool true) ∧ Below w.heap.size w w') := by
  have hnm : n ≤ maxLen := Nat.le_trans hnc hcm
  have hn9 : n ≤ 9223372036854775807 := by unfold maxLen at hnm; exact hnm
  have HN := Lib.hid h.len
  have HOK := Lib.hid h.ok
  have H := Lib.hid h
  have HF := Lib.hid hF
  have HK := Lib.hid hK
  obtain ⟨hi0, hi1⟩ := hi
  clear h hF hK
  go_enter Tryd.func4, Tryd.ntmps4
  by_cases hbig : 40 < n
  · have hb : (40 : Int) < n := by omega
    go_wp2
    go_ret
    exact ⟨rfl, Below.refl _ _⟩
  · have hb : ¬ (40 : Int) < n := by omega
    have O1 := Lib.hid (own_noneA w w.heap.size (Nat.le_refl _))
    have B1 : Hid (Below w.heap.size w (w.alloc (.cells #[] 26))) := Lib.hid ((Below.refl _ _).alloc (Nat.le_refl _) _)
    have H1 := Lib.hid (H.out.below B1.out (Nat.le_refl _))
    have zk := zLk
    have zs := zLc_size
    have zn := zLc_ne
    have G1 := HN
    go_upto_region 4 with (first
      | (have g := G1; clear g; at_builtin; refine wpList_newL (B := w.heap.size) rfl (.tmp 11) (.tmp 12) rfl rfl O1.out rfl H1.out (by omega) B1.out.size ?_; intro D d v3 ho3 hb3; have B3 := Lib.hid (B1.out.trans (hb3.mono B1.out.size)); have HO3 := Lib.hid ho3; clear G1 ho3 hb3))
    obtain ⟨_, _, q, hnd, hdm⟩ := own_shapeA HO3.out
    injection q with q1 q2 q3
    subst q1
    subst q3
    have HB3 := B3
    have HI3 := Lib.hid (lks_of_own HO3.out HOK.out)
    have HIN : Hid (∀ W, Below v3.heap.size v3 W → Lks W v3.heap.size D n l) := Lib.hid (fun W hW => HI3.out.below hW (Nat.le_refl _))
    have HA : Hid (∀ W, Below v3.heap.size v3 W → Lks W w.heap.size A n l) := Lib.hid (fun W hW => (H.out.below HB3.out (Nat.le_refl _)).below hW HB3.out.size)
    have HF3 := Lib.hid (HF.out.below HB3.out HF.out.lt)
    have HK3 := Lib.hid (HK.out.below HB3.out HK.out.lt)
    obtain ⟨z, hz⟩ : ∃ z, checkZ l = z := ⟨_, rfl⟩
    have HZ := Lib.hid hz
    clear O1 B1 H1 B3 HO3 HI3 H HF HK hz hbig
    by_cases hlow : i < 1
    · have G1 := HN
      have G2 := HN
      go_upto_region 5 with (first
            | (have g := G1; clear g; go_at_call 13; refine (at_low (w := v3) D n d i hlow hnm).mono ?_; rintro e v4 ⟨rfl, hb⟩; have P4 := Lib.hid hb; have TH4 := Lib.hid (lthere_new v4 l0 26 _ rfl); clear hb G1)
            | (have g := G2; clear g; refine wpList_store_as (op := ⟨none, .store 26 (.tmp 6) (.tmp 18), _, _, _, _⟩) rfl 26 (.tmp 6) (.tmp 18) rfl (v4.heap.size) 0 (lc l0).toArray rfl rfl (TH4.out) (lk_sizeA l0) (lk_one l0) ?_; intro v5 hv5; clear G2))
      obtain ⟨y5, b5, _⟩ := lbox_stored rfl hv5
      have P5 := Lib.hid (P4.out.trans (b5.mono P4.out.size))
      have Y5 := Lib.hid y5
      clear hv5 y5 b5 zk zs zn
      have G1 := HN
      have G2 := HN
      have G3 := HN
      go_upto_region 10 with (first
            | (have g := G1; clear g; refine wpList_load_mid (op := ⟨some 28, .load 26 (.tmp 6), _, _, _, _⟩) rfl 26 (.tmp 6) rfl (v4.heap.size) (0) rfl (lc l0) _ (Y5.out.range) Tryd.underlying26 rfl (lk_size l0) ?_; clear G1)
            | (have g := G2; clear g; refine wpList_exec (op := ⟨some 29, .build 26 #[], _, _, _, _⟩) rfl (.agg (lc l0).toArray) (by kernel_rfl) ?_; clear G2)
            | (have g := G3; clear g; refine wpList_exec (op := ⟨some 30, .binOp .neq 26 (.tmp 28) (.tmp 29) 26, _, _, _, _⟩) rfl (.bool false) (exec_cmp .neq 26 (.tmp 28) (.tmp 29) _ _ rfl rfl rfl Tryd.eqGuardType26 (run_lkNe l0 _)) ?_; clear G3))
      have G1 := HN
      have G2 := HN
      have G3 := HN
      have G4 := HN
      go_wp2_with (first
            | (have g := G1; clear g; go_at_call 14; refine (check_val z (HIN.out v5 P5.out) HZ.out P5.out.size (by omega) hnd hdm (HF3.out.below P5.out HF3.out.lt) (HK3.out.below P5.out HK3.out.lt)).mono ?_; rintro e y1 ⟨rfl, hb⟩; have R1 := Lib.hid (P5.out.trans (hb.mono P5.out.size)); clear hb G1)
            | (have g := G2; clear g; go_at_call 15; refine (refcheck_any c (HA.out y1 R1.out) (Nat.le_trans HB3.out.size R1.out.size) (by omega)).mono ?_; rw [HZ.out]; rintro e y2 ⟨rfl, hb⟩; have R2 := Lib.hid (R1.out.trans (hb.mono R1.out.size)); clear hb G2)
            | (have g := G3; clear g; go_at_call 8; refine (rsame_any d c (HIN.out y2 R2.out) (HA.out y2 R2.out) R2.out.size (Nat.le_trans HB3.out.size R2.out.size) hnm).mono ?_; rintro e y3 ⟨rfl, hb⟩; have R3 := Lib.hid (R2.out.trans (hb.mono R2.out.size)); clear hb G3)
            | (have g := G4; clear g; go_at_call 12; refine (auawake_any y3 (HF3.out.below R3.out HF3.out.lt) (HK3.out.below R3.out HK3.out.lt)).mono ?_; rintro e y4 ⟨rfl, hb⟩; have R4 := Lib.hid (R3.out.trans (hb.mono R3.out.size)); clear hb G4))
      go_ret
      exact ⟨rfl, HB3.out.trans (R4.out.mono HB3.out.size)⟩
    · by_cases hhi : (n : Int) < i
      · have G1 := HN
        have G2 := HN
        go_upto_region 5 with (first
              | (have g := G1; clear g; go_at_call 13; refine (at_high (w := v3) D n d i hlow hhi hnm).mono ?_; rintro e v4 ⟨rfl, hb⟩; have P4 := Lib.hid hb; have TH4 := Lib.hid (lthere_new v4 l0 26 _ rfl); clear hb G1)
              | (have g := G2; clear g; refine wpList_store_as (op := ⟨none, .store 26 (.tmp 6) (.tmp 18), _, _, _, _⟩) rfl 26 (.tmp 6) (.tmp 18) rfl (v4.heap.size) 0 (lc l0).toArray rfl rfl (TH4.out) (lk_sizeA l0) (lk_one l0) ?_; intro v5 hv5; clear G2))
        obtain ⟨y5, b5, _⟩ := lbox_stored rfl hv5
        have P5 := Lib.hid (P4.out.trans (b5.mono P4.out.size))
        have Y5 := Lib.hid y5
        clear hv5 y5 b5 zk zs zn
        have G1 := HN
        have G2 := HN
        have G3 := HN
        go_upto_region 10 with (first
              | (have g := G1; clear g; refine wpList_load_mid (op := ⟨some 28, .load 26 (.tmp 6), _, _, _, _⟩) rfl 26 (.tmp 6) rfl (v4.heap.size) (0) rfl (lc l0) _ (Y5.out.range) Tryd.underlying26 rfl (lk_size l0) ?_; clear G1)
              | (have g := G2; clear g; refine wpList_exec (op := ⟨some 29, .build 26 #[], _, _, _, _⟩) rfl (.agg (lc l0).toArray) (by kernel_rfl) ?_; clear G2)
              | (have g := G3; clear g; refine wpList_exec (op := ⟨some 30, .binOp .neq 26 (.tmp 28) (.tmp 29) 26, _, _, _, _⟩) rfl (.bool false) (exec_cmp .neq 26 (.tmp 28) (.tmp 29) _ _ rfl rfl rfl Tryd.eqGuardType26 (run_lkNe l0 _)) ?_; clear G3))
        have G1 := HN
        have G2 := HN
        have G3 := HN
        have G4 := HN
        go_wp2_with (first
              | (have g := G1; clear g; go_at_call 14; refine (check_val z (HIN.out v5 P5.out) HZ.out P5.out.size (by omega) hnd hdm (HF3.out.below P5.out HF3.out.lt) (HK3.out.below P5.out HK3.out.lt)).mono ?_; rintro e y1 ⟨rfl, hb⟩; have R1 := Lib.hid (P5.out.trans (hb.mono P5.out.size)); clear hb G1)
              | (have g := G2; clear g; go_at_call 15; refine (refcheck_any c (HA.out y1 R1.out) (Nat.le_trans HB3.out.size R1.out.size) (by omega)).mono ?_; rw [HZ.out]; rintro e y2 ⟨rfl, hb⟩; have R2 := Lib.hid (R1.out.trans (hb.mono R1.out.size)); clear hb G2)
              | (have g := G3; clear g; go_at_call 8; refine (rsame_any d c (HIN.out y2 R2.out) (HA.out y2 R2.out) R2.out.size (Nat.le_trans HB3.out.size R2.out.size) hnm).mono ?_; rintro e y3 ⟨rfl, hb⟩; have R3 := Lib.hid (R2.out.trans (hb.mono R2.out.size)); clear hb G3)
              | (have g := G4; clear g; go_at_call 12; refine (auawake_any y3 (HF3.out.below R3.out HF3.out.lt) (HK3.out.below R3.out HK3.out.lt)).mono ?_; rintro e y4 ⟨rfl, hb⟩; have R4 := Lib.hid (R3.out.trans (hb.mono R3.out.size)); clear hb G4))
        go_ret
        exact ⟨rfl, HB3.out.trans (R4.out.mono HB3.out.size)⟩
      · obtain ⟨k, rfl⟩ : ∃ k : Nat, i = (k : Int) + 1 := ⟨(i - 1).toNat, by omega⟩
        have hkn : k < n := by omega
        have hlI : (k : Int) < n := by omega
        obtain ⟨b, off, g, hAA, hbb, HG, _, hr⟩ := (HA.out v3 (Below.refl _ _)).at_ hkn
        have HRGG : Hid (∀ W, Below v3.heap.size v3 W → W.rangeAt b (off + k * 71) (lc g)) := Lib.hid (fun W hW => rangeAt_same hr (hW.block _ (Nat.lt_of_lt_of_le hbb HB3.out.size)))
        have hAd := hAA
        subst hAd
        have e1 : (k : Int) + 1 - 1 = (k : Int) := by omega
        have G1 := HN
        have G2 := HN
        clear hr hAA hi0 hi1
        go_upto_region 5 with (first
      | (have g := G1; clear g; go_at_call 13; refine (at_yes (k := k) d (HIN.out v3 (Below.refl _ _)) (Nat.le_refl _) hnm g HG.out).mono ?_; rintro e v4 ⟨rfl, hb⟩; have P4 := Lib.hid hb; have TH4 := Lib.hid (lthere_new v4 g 26 _ rfl); clear hb G1)
      | (have g := G2; clear g; refine wpList_store_as (op := ⟨none, .store 26 (.tmp 6) (.tmp 18), _, _, _, _⟩) rfl 26 (.tmp 6) (.tmp 18) rfl (v4.heap.size) 0 (lc g).toArray rfl rfl (TH4.out) (lk_sizeA g) (lk_one g) ?_; intro v5 hv5; clear G2))
        obtain ⟨y5, b5, _⟩ := lbox_stored rfl hv5
        have P5 := Lib.hid (P4.out.trans (b5.mono P4.out.size))
        have HX5 : Hid (∀ W, Below v5.heap.size v5 W → LBox W v4.heap.size g) := Lib.hid (fun W hW => y5.grow hW)
        have HRG : Hid (∀ W, Below v5.heap.size v5 W → W.rangeAt b (off + k * 71) (lc g)) := Lib.hid (fun W hW => HRGG.out W (P5.out.trans (hW.mono P5.out.size)))
        clear hv5 y5 b5 zk zs zn HRGG
        go_upto_region 8 with fail
        have gk : IntKind.i64.wrap (k : Int) = (k : Int) := by rw [IntKind.wrap_i64]; omega
        have hk0 : (0 : Int) ≤ (k : Int) := by omega
        refine Late.region (fun w' => Below v5.heap.size v5 w') [] (by kernel_rfl) (Below.refl _ _).drew (fun hHeld => ?_)
        refine Late.take (i := 0) (oi := ⟨some 35, Op.load 26 (Operand.tmp 6), _, _, _, _⟩) (v := _) rfl (by kernel_rfl) (by kernel_rfl) (by kernel_rfl) (by kernel_rfl) (fun _ _ _ h => h) (yieldsIf_load_mid (by rfl) _ _ rfl _ _ rfl (lc g) _ (fun W hW => (HX5.out W hW).range) Tryd.underlying26 rfl (lk_size g)) (by assumption) ?_
        try simp only [Act.put, List.setIfInBounds_toArray, List.set_cons_zero, List.set_cons_succ]
        refine Late.take (i := 1) (oi := ⟨some 36, Op.move (Operand.tmp 0), _, _, _, _⟩) (v := ?_) rfl (by kernel_rfl) (by kernel_rfl) (by kernel_rfl) (by kernel_rfl) (fun _ _ _ h => h) (Or.inl ⟨by rfl, fun w hSw => ?_⟩) (by assumption) ?_
        rotate_left
        · (have s1 := hSw; go_simp; try with_reducible rfl)
        try simp only [Act.put, List.setIfInBounds_toArray, List.set_cons_zero, List.set_cons_succ]
        refine Late.take (i := 2) (oi := ⟨some 37, Op.move (Operand.tmp 1), _, _, _, _⟩) (v := ?_) rfl (by kernel_rfl) (by kernel_rfl) (by kernel_rfl) (by kernel_rfl) (fun _ _ _ h => h) (Or.inl ⟨by rfl, fun w hSw => ?_⟩) (by assumption) ?_
        rotate_left
        · (have s1 := hSw; go_simp; try with_reducible rfl)
        try simp only [Act.put, List.setIfInBounds_toArray, List.set_cons_zero, List.set_cons_succ]
        refine Late.take (i := 3) (oi := ⟨some 38, Op.binOp BinOp.sub 3 (Operand.tmp 37) (Operand.const (Value.int IntKind.i64 1)) 3, _, _, _, _⟩) (v := ?_) rfl (by kernel_rfl) (by kernel_rfl) (by kernel_rfl) (by kernel_rfl) (fun _ _ _ h => h) (Or.inl ⟨by rfl, fun w hSw => ?_⟩) (by assumption) ?_
        rotate_left
        · (have s1 := hSw; go_simp; try with_reducible rfl)
        try simp only [Act.put, List.setIfInBounds_toArray, List.set_cons_zero, List.set_cons_succ]
        refine Late.take (i := 4) (oi := ⟨some 39, Op.indexAddr 22 (Operand.tmp 36) (Operand.tmp 38), _, _, _, _⟩) (v := ?_) rfl (by kernel_rfl) (by kernel_rfl) (by kernel_rfl) (by kernel_rfl) (fun _ _ _ h => h) (Or.inl ⟨by rfl, fun w hSw => ?_⟩) (by assumption) ?_
        rotate_left
        · (have s1 := hSw; go_simp; try with_reducible rfl)
        try simp only [Act.put, List.setIfInBounds_toArray, List.set_cons_zero, List.set_cons_succ]
        refine Late.take (i := 5) (oi := ⟨some 40, Op.load 26 (Operand.tmp 39), _, _, _, _⟩) (v := _) rfl (by kernel_rfl) (by kernel_rfl) (by kernel_rfl) (by kernel_rfl) (fun _ _ _ h => h) (yieldsIf_load_mid (by rfl) _ _ rfl _ _ rfl (lc g) _ (fun W hW => HRG.out W hW) Tryd.underlying26 rfl (lk_size g)) (by assumption) ?_
        try simp only [Act.put, List.setIfInBounds_toArray, List.set_cons_zero, List.set_cons_succ]
        refine Late.take (i := 6) (oi := ⟨some 41, Op.binOp BinOp.neq 26 (Operand.tmp 35) (Operand.tmp 40) 26, _, _, _, _⟩) (v := .bool false) rfl (by kernel_rfl) (by kernel_rfl) (by kernel_rfl) (by kernel_rfl) (fun _ _ _ h => h) (Or.inl ⟨by rfl, fun w hSw => ?_⟩) (by assumption) ?_
        · (have hn := run_lkNe g w; simp [execOp, Act.eval, hn, run_eqGuard_agg (hm := Tryd.eqGuardType26)])
        try simp only [Act.put, List.setIfInBounds_toArray, List.set_cons_zero, List.set_cons_succ]
        refine Late.take (i := 7) (oi := ⟨some 42, Op.move (Operand.tmp 41), _, _, _, _⟩) (v := ?_) rfl (by kernel_rfl) (by kernel_rfl) (by kernel_rfl) (by kernel_rfl) (fun _ _ _ h => h) (Or.inl ⟨by rfl, fun w hSw => ?_⟩) (by assumption) ?_
        rotate_left
        · (have s1 := hSw; go_simp; try with_reducible rfl)
        try simp only [Act.put, List.setIfInBounds_toArray, List.set_cons_zero, List.set_cons_succ]
        refine Late.take (i := 8) (oi := ⟨some 43, Op.move (Operand.tmp 7), _, _, _, _⟩) (v := ?_) rfl (by kernel_rfl) (by kernel_rfl) (by kernel_rfl) (by kernel_rfl) (fun _ _ _ h => h) (Or.inl ⟨by rfl, fun w hSw => ?_⟩) (by assumption) ?_
        rotate_left
        · (have s1 := hSw; go_simp; try with_reducible rfl)
        try simp only [Act.put, List.setIfInBounds_toArray, List.set_cons_zero, List.set_cons_succ]
        refine Late.take (i := 9) (oi := ⟨some 44, Op.binOp BinOp.neq 33 (Operand.tmp 43) (Operand.const (Value.int IntKind.i64 0)) 33, _, _, _, _⟩) (v := ?_) rfl (by kernel_rfl) (by kernel_rfl) (by kernel_rfl) (by kernel_rfl) (fun _ _ _ h => h) (Or.inl ⟨by rfl, fun w hSw => ?_⟩) (by assumption) ?_
        rotate_left
        · (have s1 := hSw; go_simp; try with_reducible rfl)
        try simp only [Act.put, List.setIfInBounds_toArray, List.set_cons_zero, List.set_cons_succ]
        refine Late.take (i := 10) (oi := ⟨some 45, Op.pick (Operand.tmp 42) (Operand.const (Value.bool true)) (Operand.tmp 44), _, _, _, _⟩) (v := ?_) rfl (by kernel_rfl) (by kernel_rfl) (by kernel_rfl) (by kernel_rfl) (fun _ _ _ h => h) (Or.inl ⟨by rfl, fun w hSw => ?_⟩) (by assumption) ?_
        rotate_left
        · (have s1 := hSw; go_simp; try with_reducible rfl)
        try simp only [Act.put, List.setIfInBounds_toArray, List.set_cons_zero, List.set_cons_succ]
        refine Late.done (by kernel_rfl) ?_ _
        refine NoPanic.normal ?_
        have P6 := Lib.hid (P5.out.trans (hHeld.mono P5.out.size))
        clear hHeld
        go_upto_region 10 with fail
        have G1 := HN
        have G2 := HN
        have G3 := HN
        have G4 := HN
        go_wp2_with (first
              | (have g := G1; clear g; go_at_call 14; refine (check_val z (HIN.out _ P6.out) HZ.out P6.out.size (by omega) hnd hdm (HF3.out.below P6.out HF3.out.lt) (HK3.out.below P6.out HK3.out.lt)).mono ?_; rintro e y1 ⟨rfl, hb⟩; have R1 := Lib.hid (P6.out.trans (hb.mono P6.out.size)); clear hb G1)
              | (have g := G2; clear g; go_at_call 15; refine (refcheck_any c (HA.out y1 R1.out) (Nat.le_trans HB3.out.size R1.out.size) (by omega)).mono ?_; rw [HZ.out]; rintro e y2 ⟨rfl, hb⟩; have R2 := Lib.hid (R1.out.trans (hb.mono R1.out.size)); clear hb G2)
              | (have g := G3; clear g; go_at_call 8; refine (rsame_any d c (HIN.out y2 R2.out) (HA.out y2 R2.out) R2.out.size (Nat.le_trans HB3.out.size R2.out.size) hnm).mono ?_; rintro e y3 ⟨rfl, hb⟩; have R3 := Lib.hid (R2.out.trans (hb.mono R2.out.size)); clear hb G3)
              | (have g := G4; clear g; go_at_call 12; refine (auawake_any y3 (HF3.out.below R3.out HF3.out.lt) (HK3.out.below R3.out HK3.out.lt)).mono ?_; rintro e y4 ⟨rfl, hb⟩; have R4 := Lib.hid (R3.out.trans (hb.mono R3.out.size)); clear hb G4))
        go_ret
        exact ⟨rfl, HB3.out.trans (R4.out.mono HB3.out.size)⟩
end Go.Proofs.YtkaojhcmdichfaaDoor
