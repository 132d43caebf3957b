/- However bytes are cut into two pieces, the hash of the pieces is Sum of all; so it is written byte by byte. -/
import Derived.Test.YtmglhfhcljdfcaaDoorShaEnds
import Derived.Test.YtmglhfhcljdfcaaDoorCuts
import Derived.Test.YtmglhfhcljdfcaaDoorApp
import Derived.Deep.Cut
namespace Go.Proofs.YtmglhfhcljdfcaaDoor
open Go.ChangeShapes Go.WideShapes Go.ChangeAt Go.RowKit
set_option linter.unusedVariables false
open Plain Sha
theorem take_drop_one (xs : List Int) (k : Nat) (h : k < xs.length) : xs.take (k + 1) = xs.take k ++ (xs.drop k).take 1 := by
  rw [List.take_add]
set_option maxRecDepth 100000 in
set_option maxHeartbeats 8000000 in
theorem shaCut_in {na k : Nat} {A0 : Option Addr} (c0 : Nat) {xs : List Int} (w : World) (zA : Bs w w.heap.size A0 na xs)
    (ha : na ≤ 1000) (hk : k ≤ na) (hc : na ≤ c0) (hF : LaidF w) (hK : LaidK w) :
    Calls Tryd.prog 5 #[.slice A0 na c0, .int .i64 (k : Int)] w fun e w' => e = .returned (.bool true) ∧ Below w.heap.size w w' := by
  obtain ⟨T, hT⟩ : ∃ T, shaZ xs = T := ⟨_, rfl⟩
  have lT : Hid (T.length = 32) := Lib.hid (by rw [← hT]; exact shaZ_len _)
  have hE : ∀ w, (binOp .eql 25 (.agg (vals T).toArray) (.agg (vals T).toArray)).run Tryd.prog w = .ok (.bool true) w := fun w => by rw [run_tagEq T T lT.out lT.out w, show eqB T T = true by simp [eqB]]
  have hs1 := cut_h A0 na c0 k (k : Int) rfl (by omega)
  obtain ⟨A2, hs2, ct2⟩ := cut_l A0 na c0 k (k : Int) rfl hk hc
  have LX := Lib.hid zA.len
  have Z1 : Hid (Bs w w.heap.size A0 k (xs.take k)) := Lib.hid (by
    have := zA.cut (k := 0) (m := k) (by omega) A0 (fun b off e _ => by rw [e]; simp)
    simpa using this)
  have Z2 : Hid (Bs w w.heap.size A2 (na - k) (xs.drop k)) := Lib.hid (by
    have := zA.cut (k := k) (m := na - k) (by omega) A2 ct2
    rwa [List.take_of_length_le (by rw [List.length_drop, zA.len]; exact Nat.le_refl _)] at this)
  have HTD : Hid (xs.take k ++ xs.drop k = xs) := Lib.hid (List.take_append_drop k xs)
  have g1 : ¬ 1000 < (na : Int) := by omega
  have g2 : ¬ (k : Int) < 0 := by omega
  have g3 : ¬ (na : Int) < (k : Int) := by omega
  have i0 : (0 : Int) ≤ (k : Int) := by omega
  have i1 : (k : Int) ≤ (c0 : Int) := by omega
  have i2 : (k : Int) ≤ (na : Int) := by omega
  have ZA := Lib.hid zA
  have HT := Lib.hid hT
  have HF := Lib.hid hF
  have HK := Lib.hid hK
  have HFl := Lib.hid hF.lt
  have HKl := Lib.hid hK.lt
  have bA := Lib.hid zA.isBytes
  clear hT zA hF hK ct2
  go_enter Tryd.func5, Tryd.ntmps5
  go_wp2_with fail
  refine (shaAwake_any w HF.out HK.out).mono ?_
  rintro e w1 ⟨rfl, q1⟩
  go_wp2_with fail
  refine (new_any w1 (HF.out.below q1 HFl.out)).mono ?_
  rintro e w2 ⟨rfl, h2, b2, s2⟩
  have q2 := Lib.hid (q1.trans (b2.mono q1.size))
  have sg := q1.size
  have H2 := Lib.hid h2
  clear h2 b2
  obtain ⟨gb, hgb⟩ : ∃ g, w1.heap.size = g := ⟨_, rfl⟩
  rw [hgb] at s2 sg H2
  simp only [hgb]
  clear hgb q1
  go_wp2_with fail
  refine (new_any w2 (HF.out.below q2.out HFl.out)).mono ?_
  rintro e w3 ⟨rfl, h3, b3, s3⟩
  have q3 := Lib.hid (q2.out.trans (b3.mono q2.out.size))
  have H2' := Lib.hid (H2.out.below b3 s2)
  have H3 := Lib.hid h3
  clear h3 b3 H2
  obtain ⟨hb', hhb⟩ : ∃ g, w2.heap.size = g := ⟨_, rfl⟩
  rw [hhb] at s2 s3 H3
  simp only [hhb]
  clear hhb q2
  go_wp2_with fail
  refine (write_any H2'.out IsBytes.nil c0 (Z1.out.belowM q3.out (Nat.le_refl _)) q3.out.size (by simp; omega) (HK.out.below q3.out HKl.out) (by have := HKl.out; omega)).mono ?_
  rw [List.nil_append]
  rintro e w4 ⟨rfl, h4, g4'⟩
  have q4 := Lib.hid (below_hash g4' sg q3.out q3.out.size)
  have H3' := Lib.hid (H3.out.grown g4' (by omega))
  have H4 := Lib.hid h4
  have s4 := g4'.size
  clear h4 g4' H2' H3 q3
  go_wp2_with fail
  refine (write_any H4.out (Z1.out.isBytes) (c0 - k) (Z2.out.belowM q4.out (Nat.le_refl _)) q4.out.size (by rw [Z1.out.len]; omega) (HK.out.below q4.out HKl.out) (by have := HKl.out; omega)).mono ?_
  rw [HTD.out]
  rintro e w5 ⟨rfl, h5, g5⟩
  have q5 := Lib.hid (below_hash g5 sg q4.out q4.out.size)
  have H5h := Lib.hid (H3'.out.grown g5 (by omega))
  have H5 := Lib.hid h5
  have s5 := g5.size
  clear h5 g5 H3' H4 q4 hs1 hs2
  go_wp2
  go_loopw [7] (fun i wr => ∃ j : Nat, j ≤ na ∧ i = .int .i64 j ∧ Hid (HashOf wr gb xs) ∧ Hid (HashOf wr hb' (xs.take j)) ∧ Below w.heap.size w wr ∧ w5.heap.size ≤ wr.heap.size) (fun i _ => na - (intOf i).toNat)
  case atStart => exact ⟨0, by omega, rfl, H5, Lib.hid (by simpa using H5h.out), q5.out, Nat.le_refl _⟩
  case round =>
    obtain ⟨j, hj, rfl, HG, HH, hbel, hsz⟩ := hrel
    have q6 := Lib.hid hbel
    have s6 := hbel.size
    clear hbel
    by_cases hlt : j < na
    · have hjI : (j : Int) < (na : Int) := by omega
      have gw : IntKind.i64.wrap ((j : Int) + 1) = (j : Int) + 1 := by rw [IntKind.wrap_i64]; omega
      obtain ⟨A3, hs3, ct3⟩ := cut_lh A0 na c0 j (j + 1) (j : Int) ((j : Int) + 1) rfl (by omega) (by omega) (by omega)
      have Z3 : Hid (Bs w w.heap.size A3 1 ((xs.drop j).take 1)) := Lib.hid (by
        have := ZA.out.cut (k := j) (m := 1) (by omega) A3 (show CutAt A0 A3 j 1 by simpa using ct3)
        exact this)
      have hs3' : ∀ W, (Instr.slice 22 (.slice A0 na c0) (some (.int .i64 (j : Int))) (some (.int .i64 ((j : Int) + 1))) none).run Tryd.prog W = .ok (.slice A3 1 (c0 - j)) W := by simpa using hs3
      have HN : Hid (xs.take j ++ (xs.drop j).take 1 = xs.take (j + 1)) := Lib.hid (take_drop_one xs j (by rw [LX.out]; exact hlt)).symm
      have LJ : Hid ((xs.take j).length = j) := Lib.hid (by rw [List.length_take, LX.out]; omega)
      have BJ : Hid (IsBytes (xs.take j)) := Lib.hid (by
        have := (ZA.out.cut (k := 0) (m := j) (by omega) A0 (fun b off e _ => by rw [e]; simp)).isBytes
        simpa using this)
      clear hs3 ct3
      go_wp2_with fail
      refine (write_any HH.out BJ.out (c0 - j) (Z3.out.belowM q6.out (Nat.le_refl _)) q6.out.size (by rw [LJ.out]; omega) (HK.out.below q6.out HKl.out) (by have := HKl.out; omega)).mono ?_
      rw [HN.out]
      rintro e w7 ⟨rfl, h7, g7⟩
      have q7 := below_hash g7 (by omega) q6.out q6.out.size
      have HG7 := Lib.hid (HG.out.grown g7 (by omega))
      have H7 := Lib.hid h7
      have s7 := g7.size
      clear h7 g7 hs3' q6 HG HH
      go_wp2
      go_roundw
      case rel => exact ⟨j + 1, by omega, by go_num, HG7, H7, q7, by omega⟩
      case measure => simp [intOf]; omega
    · have hjn : j = na := by omega
      have HHx : Hid (HashOf wr hb' xs) := Lib.hid (by have := HH.out; rwa [hjn, List.take_of_length_le (by rw [LX.out]; omega)] at this)
      have hge : ¬ (j : Int) < (na : Int) := by omega
      clear HH hjn
      go_wp2_with fail
      refine (sum_any HG.out bA.out (by rw [LX.out]; omega) (HK.out.below q6.out HKl.out)).mono ?_
      rw [HT.out]
      rintro e w8 ⟨rfl, b8⟩
      have q8 := Lib.hid (q6.out.trans (b8.mono s6))
      have HG8 := Lib.hid (HG.out.below b8 (by omega))
      have HH8 := Lib.hid (HHx.out.below b8 (by omega))
      have s8 := b8.size
      clear b8 HG HHx q6
      have G := lT
      go_upto_region 14 with (have g := G; clear g; refine wpList_store_as (op := ⟨none, .store 25 (.tmp 8) (.tmp 60), _, _, _, _⟩) rfl 25 (.tmp 8) (.tmp 60) rfl w8.heap.size 0 (vals T).toArray rfl rfl (tag_there w8 T lT.out) (tag_size T lT.out) (all_oneCell_toArray (vals_one T)) ?_; intro w9 hw9; clear G)
      obtain ⟨r9, b9, s9⟩ := stored_tag lT.out hw9
      have q9 := Lib.hid (q8.out.trans (b9.mono q8.out.size))
      have HG9 := Lib.hid (HG8.out.below b9 (by omega))
      have HH9 := Lib.hid (HH8.out.below b9 (by omega))
      have R9 := Lib.hid r9
      obtain ⟨xb, hxb⟩ : ∃ g, w8.heap.size = g := ⟨_, rfl⟩
      rw [hxb] at R9 s9 s8
      simp only [hxb]
      clear hw9 hxb r9 b9 HG8 HH8 q8
      go_wp2_with fail
      refine (sum_any HH9.out bA.out (by rw [LX.out]; omega) (HK.out.below q9.out HKl.out)).mono ?_
      rw [HT.out]
      rintro e w10 ⟨rfl, b10⟩
      have q10 := Lib.hid (q9.out.trans (b10.mono q9.out.size))
      have HG10 := Lib.hid (HG9.out.below b10 (by omega))
      have HH10 := Lib.hid (HH9.out.below b10 (by omega))
      have R10 := Lib.hid (rangeAt_same R9.out (b10.block xb (by omega)))
      have s10 := b10.size
      clear b10 HG9 HH9 R9 q9
      have G := lT
      go_upto_region 15 with (have g := G; clear g; refine wpList_store_as (op := ⟨none, .store 25 (.tmp 10) (.tmp 65), _, _, _, _⟩) rfl 25 (.tmp 10) (.tmp 65) rfl w10.heap.size 0 (vals T).toArray rfl rfl (tag_there w10 T lT.out) (tag_size T lT.out) (all_oneCell_toArray (vals_one T)) ?_; intro w11 hw11; clear G)
      obtain ⟨r11, b11, s11⟩ := stored_tag lT.out hw11
      have q11 := Lib.hid (q10.out.trans (b11.mono q10.out.size))
      have HG11 := Lib.hid (HG10.out.below b11 (by omega))
      have HH11 := Lib.hid (HH10.out.below b11 (by omega))
      have R11x := Lib.hid (rangeAt_same R10.out (b11.block xb (by omega)))
      have R11 := Lib.hid r11
      obtain ⟨yb, hyb⟩ : ∃ g, w10.heap.size = g := ⟨_, rfl⟩
      rw [hyb] at R11 s11 s10
      simp only [hyb]
      have hlx : xb < w11.heap.size := by omega
      have hly : yb < w11.heap.size := by omega
      have hlg : gb < w11.heap.size := by omega
      have hlh : hb' < w11.heap.size := by omega
      have hu := Tryd.underlying25
      have hiT := tag_size T lT.out
      have ZA11 := Lib.hid (ZA.out.belowM q11.out.drew (Nat.le_refl _))
      have LF := Lib.hid (HF.out.below q11.out.drew HFl.out)
      have LK := Lib.hid (HK.out.below q11.out.drew HKl.out)
      have S11 := Lib.hid q11.out.size
      clear hw11 hyb r11 b11 HG10 HH10 R10 q10
      refine wp_region_noPanic ?_
      refine wp_region_held_drew (S := fun w' => w'.rangeAt xb 0 (vals T) ∧ w'.rangeAt yb 0 (vals T)) (by kernel_rfl) ⟨R11x.out, R11.out⟩ (fun hHeld => ?_)
      refine wpAnyH_take (i := 0) (oi := ⟨some 67, .move (.tmp 9), _, _, _, _⟩) (v := .int .i64 0) rfl (by kernel_rfl) (by kernel_rfl) (by kernel_rfl) (fun _ _ _ h => h) (Or.inl ⟨by rfl, fun w hSw => ?_⟩) (by assumption) ?_
      · go_simp
      try simp only [Act.put, List.setIfInBounds_toArray, List.set_cons_zero, List.set_cons_succ]
      refine wpAnyH_take (i := 1) (oi := ⟨some 68, .binOp .eql 33 (.tmp 67) (.const (.int .i64 0)) 33, _, _, _, _⟩) (v := .bool true) rfl (by kernel_rfl) (by kernel_rfl) (by kernel_rfl) (fun _ _ _ h => h) (Or.inl ⟨by rfl, fun w hSw => ?_⟩) (by assumption) ?_
      · go_simp
      try simp only [Act.put, List.setIfInBounds_toArray, List.set_cons_zero, List.set_cons_succ]
      refine wpAnyH_take (i := 2) (oi := ⟨some 69, .move (.tmp 68), _, _, _, _⟩) (v := .bool true) rfl (by kernel_rfl) (by kernel_rfl) (by kernel_rfl) (fun _ _ _ h => h) (Or.inl ⟨by rfl, fun w hSw => ?_⟩) (by assumption) ?_
      · go_simp
      try simp only [Act.put, List.setIfInBounds_toArray, List.set_cons_zero, List.set_cons_succ]
      refine wpAnyH_take (i := 3) (oi := ⟨some 70, .move (.tmp 11), _, _, _, _⟩) (v := .int .i64 0) rfl (by kernel_rfl) (by kernel_rfl) (by kernel_rfl) (fun _ _ _ h => h) (Or.inl ⟨by rfl, fun w hSw => ?_⟩) (by assumption) ?_
      · go_simp
      try simp only [Act.put, List.setIfInBounds_toArray, List.set_cons_zero, List.set_cons_succ]
      refine wpAnyH_take (i := 4) (oi := ⟨some 71, .binOp .eql 33 (.tmp 70) (.const (.int .i64 0)) 33, _, _, _, _⟩) (v := .bool true) rfl (by kernel_rfl) (by kernel_rfl) (by kernel_rfl) (fun _ _ _ h => h) (Or.inl ⟨by rfl, fun w hSw => ?_⟩) (by assumption) ?_
      · go_simp
      try simp only [Act.put, List.setIfInBounds_toArray, List.set_cons_zero, List.set_cons_succ]
      refine wpAnyH_take (i := 5) (oi := ⟨some 72, .pick (.tmp 69) (.tmp 71) (.const (.bool false)), _, _, _, _⟩) (v := .bool true) rfl (by kernel_rfl) (by kernel_rfl) (by kernel_rfl) (fun _ _ _ h => h) (Or.inl ⟨by rfl, fun w hSw => ?_⟩) (by assumption) ?_
      · go_simp
      try simp only [Act.put, List.setIfInBounds_toArray, List.set_cons_zero, List.set_cons_succ]
      refine wpAnyH_take (i := 6) (oi := ⟨some 73, .move (.tmp 72), _, _, _, _⟩) (v := .bool true) rfl (by kernel_rfl) (by kernel_rfl) (by kernel_rfl) (fun _ _ _ h => h) (Or.inl ⟨by rfl, fun w hSw => ?_⟩) (by assumption) ?_
      · go_simp
      try simp only [Act.put, List.setIfInBounds_toArray, List.set_cons_zero, List.set_cons_succ]
      refine wpAnyH_take (i := 7) (oi := ⟨some 74, .load 25 (.tmp 8), _, _, _, _⟩) (v := _) rfl (by kernel_rfl) (by kernel_rfl) (by kernel_rfl) (fun _ _ _ h => h) (yieldsIf_load_mid (by rfl) _ _ rfl _ _ rfl (vals T) _ (fun _ h => h.1) hu rfl hiT) (by assumption) ?_
      try simp only [Act.put, List.setIfInBounds_toArray, List.set_cons_zero, List.set_cons_succ]
      refine wpAnyH_take (i := 8) (oi := ⟨some 75, .move (.tmp 0), _, _, _, _⟩) (v := .slice A0 na c0) rfl (by kernel_rfl) (by kernel_rfl) (by kernel_rfl) (fun _ _ _ h => h) (Or.inl ⟨by rfl, fun w hSw => ?_⟩) (by assumption) ?_
      · go_simp
      try simp only [Act.put, List.setIfInBounds_toArray, List.set_cons_zero, List.set_cons_succ]
      refine wpAnyH_ready (rs := [9]) (by kernel_rfl) (by simp) ?_
      refine AllReadyH.cons (o := ⟨some 76, .call { callee := .value (.func 14), args := #[.tmp 75], argTypes := #[22] }, _, _, _, _⟩) rfl (fun K hK => ?_) AllReadyH.nil
      go_simp
      refine (sumB_any c0 ZA11.out S11.out (by omega) LF.out LK.out).mono ?_
      rw [HT.out]
      rintro e w12 ⟨rfl, b12⟩
      have r12x := rangeAt_same R11x.out (b12.block xb hlx)
      have r12y := rangeAt_same R11.out (b12.block yb hly)
      have q12 := Lib.hid (q11.out.drew.trans (b12.mono S11.out))
      have HG12 := Lib.hid (HashOf.below (w := w11.drew) (HG11.out.same rfl) b12 hlg)
      have HH12 := Lib.hid (HashOf.below (w := w11.drew) (HH11.out.same rfl) b12 hlh)
      clear b12
      go_wp2_with fail
      refine hK.out _ _ ⟨r12x, r12y⟩ (fun hHeld2 => ?_)
      clear hK K hHeld
      have hHeld := hHeld2
      clear hHeld2
      try simp only [Act.put, List.setIfInBounds_toArray, List.set_cons_zero, List.set_cons_succ]
      refine wpAnyH_take (i := 10) (oi := ⟨some 77, .binOp .eql 25 (.tmp 74) (.tmp 76) 25, _, _, _, _⟩) (v := .bool true) rfl (by kernel_rfl) (by kernel_rfl) (by kernel_rfl) (fun _ _ _ h => h) (Or.inl ⟨by rfl, fun w hSw => ?_⟩) (by assumption) ?_
      · go_simp
      try simp only [Act.put, List.setIfInBounds_toArray, List.set_cons_zero, List.set_cons_succ]
      refine wpAnyH_take (i := 11) (oi := ⟨some 78, .pick (.tmp 73) (.tmp 77) (.const (.bool false)), _, _, _, _⟩) (v := .bool true) rfl (by kernel_rfl) (by kernel_rfl) (by kernel_rfl) (fun _ _ _ h => h) (Or.inl ⟨by rfl, fun w hSw => ?_⟩) (by assumption) ?_
      · go_simp
      try simp only [Act.put, List.setIfInBounds_toArray, List.set_cons_zero, List.set_cons_succ]
      refine wpAnyH_take (i := 12) (oi := ⟨some 79, .move (.tmp 78), _, _, _, _⟩) (v := .bool true) rfl (by kernel_rfl) (by kernel_rfl) (by kernel_rfl) (fun _ _ _ h => h) (Or.inl ⟨by rfl, fun w hSw => ?_⟩) (by assumption) ?_
      · go_simp
      try simp only [Act.put, List.setIfInBounds_toArray, List.set_cons_zero, List.set_cons_succ]
      refine wpAnyH_take (i := 13) (oi := ⟨some 80, .load 25 (.tmp 10), _, _, _, _⟩) (v := _) rfl (by kernel_rfl) (by kernel_rfl) (by kernel_rfl) (fun _ _ _ h => h) (yieldsIf_load_mid (by rfl) _ _ rfl _ _ rfl (vals T) _ (fun _ h => h.2) hu rfl hiT) (by assumption) ?_
      try simp only [Act.put, List.setIfInBounds_toArray, List.set_cons_zero, List.set_cons_succ]
      refine wpAnyH_take (i := 14) (oi := ⟨some 81, .load 25 (.tmp 8), _, _, _, _⟩) (v := _) rfl (by kernel_rfl) (by kernel_rfl) (by kernel_rfl) (fun _ _ _ h => h) (yieldsIf_load_mid (by rfl) _ _ rfl _ _ rfl (vals T) _ (fun _ h => h.1) hu rfl hiT) (by assumption) ?_
      try simp only [Act.put, List.setIfInBounds_toArray, List.set_cons_zero, List.set_cons_succ]
      refine wpAnyH_take (i := 15) (oi := ⟨some 82, .binOp .eql 25 (.tmp 80) (.tmp 81) 25, _, _, _, _⟩) (v := .bool true) rfl (by kernel_rfl) (by kernel_rfl) (by kernel_rfl) (fun _ _ _ h => h) (Or.inl ⟨by rfl, fun w hSw => ?_⟩) (by assumption) ?_
      · go_simp
      try simp only [Act.put, List.setIfInBounds_toArray, List.set_cons_zero, List.set_cons_succ]
      refine wpAnyH_take (i := 16) (oi := ⟨some 83, .pick (.tmp 79) (.tmp 82) (.const (.bool false)), _, _, _, _⟩) (v := .bool true) rfl (by kernel_rfl) (by kernel_rfl) (by kernel_rfl) (fun _ _ _ h => h) (Or.inl ⟨by rfl, fun w hSw => ?_⟩) (by assumption) ?_
      · go_simp
      try simp only [Act.put, List.setIfInBounds_toArray, List.set_cons_zero, List.set_cons_succ]
      refine wpAnyH_take (i := 17) (oi := ⟨some 84, .move (.tmp 83), _, _, _, _⟩) (v := .bool true) rfl (by kernel_rfl) (by kernel_rfl) (by kernel_rfl) (fun _ _ _ h => h) (Or.inl ⟨by rfl, fun w hSw => ?_⟩) (by assumption) ?_
      · go_simp
      try simp only [Act.put, List.setIfInBounds_toArray, List.set_cons_zero, List.set_cons_succ]
      refine wpAnyH_take (i := 18) (oi := ⟨some 85, .move (.tmp 5), _, _, _, _⟩) (v := .pointer (some ⟨gb, 0, none⟩)) rfl (by kernel_rfl) (by kernel_rfl) (by kernel_rfl) (fun _ _ _ h => h) (Or.inl ⟨by rfl, fun w hSw => ?_⟩) (by assumption) ?_
      · go_simp
      try simp only [Act.put, List.setIfInBounds_toArray, List.set_cons_zero, List.set_cons_succ]
      refine wpAnyH_take (i := 20) (oi := ⟨some 87, .move (.tmp 0), _, _, _, _⟩) (v := .slice A0 na c0) rfl (by kernel_rfl) (by kernel_rfl) (by kernel_rfl) (fun _ _ _ h => h) (Or.inl ⟨by rfl, fun w hSw => ?_⟩) (by assumption) ?_
      · go_simp
      try simp only [Act.put, List.setIfInBounds_toArray, List.set_cons_zero, List.set_cons_succ]
      refine wpAnyH_take (i := 21) (oi := ⟨some 88, .call { callee := .builtin .len, args := #[.tmp 87], argTypes := #[22] }, _, _, _, _⟩) (v := .int .i64 (na : Int)) rfl (by kernel_rfl) (by kernel_rfl) (by kernel_rfl) (fun _ _ _ h => h) (Or.inl ⟨by rfl, fun w hSw => ?_⟩) (by assumption) ?_
      · go_simp
      try simp only [Act.put, List.setIfInBounds_toArray, List.set_cons_zero, List.set_cons_succ]
      refine wpAnyH_ready (rs := [19]) (by kernel_rfl) (by simp) ?_
      refine AllReadyH.cons (o := ⟨some 86, .call { callee := .value (.func 20), args := #[.tmp 85], argTypes := #[31] }, _, _, _, _⟩) rfl (fun K hK => ?_) AllReadyH.nil
      go_simp
      refine (len_any HG12.out na LX.out).mono ?_
      rintro e w13 ⟨rfl, rfl⟩
      go_wp2_with fail
      refine hK.out _ _ ⟨r12x, r12y⟩ (fun hHeld2 => ?_)
      clear hK K hHeld
      have hHeld := hHeld2
      clear hHeld2
      try simp only [Act.put, List.setIfInBounds_toArray, List.set_cons_zero, List.set_cons_succ]
      refine wpAnyH_take (i := 22) (oi := ⟨some 89, .binOp .eql 3 (.tmp 86) (.tmp 88) 3, _, _, _, _⟩) (v := .bool true) rfl (by kernel_rfl) (by kernel_rfl) (by kernel_rfl) (fun _ _ _ h => h) (Or.inl ⟨by rfl, fun w hSw => ?_⟩) (by assumption) ?_
      · go_simp
      try simp only [Act.put, List.setIfInBounds_toArray, List.set_cons_zero, List.set_cons_succ]
      refine wpAnyH_take (i := 23) (oi := ⟨some 90, .pick (.tmp 84) (.tmp 89) (.const (.bool false)), _, _, _, _⟩) (v := .bool true) rfl (by kernel_rfl) (by kernel_rfl) (by kernel_rfl) (fun _ _ _ h => h) (Or.inl ⟨by rfl, fun w hSw => ?_⟩) (by assumption) ?_
      · go_simp
      try simp only [Act.put, List.setIfInBounds_toArray, List.set_cons_zero, List.set_cons_succ]
      refine wpAnyH_take (i := 24) (oi := ⟨some 91, .move (.tmp 90), _, _, _, _⟩) (v := .bool true) rfl (by kernel_rfl) (by kernel_rfl) (by kernel_rfl) (fun _ _ _ h => h) (Or.inl ⟨by rfl, fun w hSw => ?_⟩) (by assumption) ?_
      · go_simp
      try simp only [Act.put, List.setIfInBounds_toArray, List.set_cons_zero, List.set_cons_succ]
      refine wpAnyH_take (i := 25) (oi := ⟨some 92, .move (.tmp 6), _, _, _, _⟩) (v := .pointer (some ⟨hb', 0, none⟩)) rfl (by kernel_rfl) (by kernel_rfl) (by kernel_rfl) (fun _ _ _ h => h) (Or.inl ⟨by rfl, fun w hSw => ?_⟩) (by assumption) ?_
      · go_simp
      try simp only [Act.put, List.setIfInBounds_toArray, List.set_cons_zero, List.set_cons_succ]
      refine wpAnyH_take (i := 27) (oi := ⟨some 94, .move (.tmp 0), _, _, _, _⟩) (v := .slice A0 na c0) rfl (by kernel_rfl) (by kernel_rfl) (by kernel_rfl) (fun _ _ _ h => h) (Or.inl ⟨by rfl, fun w hSw => ?_⟩) (by assumption) ?_
      · go_simp
      try simp only [Act.put, List.setIfInBounds_toArray, List.set_cons_zero, List.set_cons_succ]
      refine wpAnyH_take (i := 28) (oi := ⟨some 95, .call { callee := .builtin .len, args := #[.tmp 94], argTypes := #[22] }, _, _, _, _⟩) (v := .int .i64 (na : Int)) rfl (by kernel_rfl) (by kernel_rfl) (by kernel_rfl) (fun _ _ _ h => h) (Or.inl ⟨by rfl, fun w hSw => ?_⟩) (by assumption) ?_
      · go_simp
      try simp only [Act.put, List.setIfInBounds_toArray, List.set_cons_zero, List.set_cons_succ]
      refine wpAnyH_ready (rs := [26]) (by kernel_rfl) (by simp) ?_
      refine AllReadyH.cons (o := ⟨some 93, .call { callee := .value (.func 20), args := #[.tmp 92], argTypes := #[31] }, _, _, _, _⟩) rfl (fun K hK => ?_) AllReadyH.nil
      go_simp
      refine (len_any HH12.out na LX.out).mono ?_
      rintro e w14 ⟨rfl, rfl⟩
      go_wp2_with fail
      refine hK.out _ _ ⟨r12x, r12y⟩ (fun hHeld2 => ?_)
      clear hK K hHeld
      have hHeld := hHeld2
      clear hHeld2
      try simp only [Act.put, List.setIfInBounds_toArray, List.set_cons_zero, List.set_cons_succ]
      refine wpAnyH_take (i := 29) (oi := ⟨some 96, .binOp .eql 3 (.tmp 93) (.tmp 95) 3, _, _, _, _⟩) (v := .bool true) rfl (by kernel_rfl) (by kernel_rfl) (by kernel_rfl) (fun _ _ _ h => h) (Or.inl ⟨by rfl, fun w hSw => ?_⟩) (by assumption) ?_
      · go_simp
      try simp only [Act.put, List.setIfInBounds_toArray, List.set_cons_zero, List.set_cons_succ]
      refine wpAnyH_take (i := 30) (oi := ⟨some 97, .pick (.tmp 91) (.tmp 96) (.const (.bool false)), _, _, _, _⟩) (v := .bool true) rfl (by kernel_rfl) (by kernel_rfl) (by kernel_rfl) (fun _ _ _ h => h) (Or.inl ⟨by rfl, fun w hSw => ?_⟩) (by assumption) ?_
      · go_simp
      try simp only [Act.put, List.setIfInBounds_toArray, List.set_cons_zero, List.set_cons_succ]
      refine wpAnyH_take (i := 31) (oi := ⟨some 4, .assign (.tmp 97), _, _, _, _⟩) (v := .bool true) rfl (by kernel_rfl) (by kernel_rfl) (by kernel_rfl) (fun _ _ _ h => h) (Or.inl ⟨by rfl, fun w hSw => ?_⟩) (by assumption) ?_
      · go_simp
      try simp only [Act.put, List.setIfInBounds_toArray, List.set_cons_zero, List.set_cons_succ]
      refine wpAnyH_done (by kernel_rfl) ?_ _
      refine NoPanic.normal ?_
      go_wp2
      go_ret
      exact ⟨rfl, q12.out⟩
set_option maxRecDepth 100000 in
set_option maxHeartbeats 2000000 in
theorem shaCut_out (A0 : Option Addr) (na c0 : Nat) (n : Int) (w : World) (hF : LaidF w) (hK : LaidK w) (h : 1000 < (na : Int) ∨ (¬ 1000 < (na : Int) ∧ n < 0) ∨ (¬ 1000 < (na : Int) ∧ ¬ n < 0 ∧ (na : Int) < n)) :
    Calls Tryd.prog 5 #[.slice A0 na c0, .int .i64 n] w fun e w' => e = .returned (.bool true) ∧ Below w.heap.size w w' := by
  rcases h with h | ⟨h1, h2⟩ | ⟨h1, h2, h3⟩
  all_goals
    go_enter Tryd.func5, Tryd.ntmps5
    go_wp2_with fail
    refine (shaAwake_any w hF hK).mono ?_
    rintro e w1 ⟨rfl, b1⟩
    go_wp2
    go_ret
    exact ⟨rfl, b1⟩
theorem shaCut_any (a0 : Option Addr) (len0 cap0 : Nat) (z0 : List Int) (n : Int) (w : World)
    (w0 : IsRow .u8 w a0 len0 cap0 z0) (wn : (Lit.int .i64 n).wf = true) (hF : LaidF w) (hK : LaidK w) :
    Calls Tryd.prog 5 #[.slice a0 len0 cap0, .int .i64 n] w fun e w' => e = .returned (.bool true) ∧ Below w.heap.size w w' := by
  by_cases h : 1000 < (len0 : Int) ∨ (¬ 1000 < (len0 : Int) ∧ n < 0) ∨ (¬ 1000 < (len0 : Int) ∧ ¬ n < 0 ∧ (len0 : Int) < n)
  · exact shaCut_out a0 len0 cap0 n w hF hK h
  · obtain ⟨m, rfl⟩ := Int.eq_ofNat_of_zero_le (show 0 ≤ n by omega)
    exact shaCut_in cap0 w w0.bs.1 (by omega) (by omega) w0.bs.2.2 hF hK
end Go.Proofs.YtmglhfhcljdfcaaDoor
