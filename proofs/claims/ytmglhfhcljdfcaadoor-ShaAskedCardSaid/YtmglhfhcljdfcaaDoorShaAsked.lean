/- Asking for the tag, however often, changes nothing. -/
import Derived.Test.YtmglhfhcljdfcaaDoorShaEnds
import Derived.Test.YtmglhfhcljdfcaaDoorApp
import Derived.Deep.Cut
namespace Go.Proofs.YtmglhfhcljdfcaaDoor
open Go.ChangeShapes Go.WideShapes Go.ChangeAt Go.RowKit
set_option linter.unusedVariables false
open Plain Sha
set_option maxRecDepth 100000 in
set_option maxHeartbeats 4000000 in
theorem shaAsked_in {na nb n : Nat} {A0 A1 : Option Addr} (c0 c1 : Nat) {xs bs : List Int} (w : World) (zA : Bs w w.heap.size A0 na xs) (zB : Bs w w.heap.size A1 nb bs)
    (ha : na ≤ 1000) (hb : nb ≤ 1000) (hn : n ≤ 5) (hF : LaidF w) (hK : LaidK w) :
    Calls Tryd.prog 6 #[.slice A0 na c0, .slice A1 nb c1, .int .i64 (n : Int)] w fun e w' => e = .returned (.bool true) ∧ Below w.heap.size w w' := by
  obtain ⟨Tx, hTx⟩ : ∃ T, shaZ xs = T := ⟨_, rfl⟩
  obtain ⟨Ty, hTy⟩ : ∃ T, shaZ (xs ++ bs) = T := ⟨_, rfl⟩
  have lx : Tx.length = 32 := by rw [← hTx]; exact shaZ_len _
  have ly : Ty.length = 32 := by rw [← hTy]; exact shaZ_len _
  have hEx : ∀ w, (binOp .eql 25 (.agg (vals Tx).toArray) (.agg (vals Tx).toArray)).run Tryd.prog w = .ok (.bool true) w := fun w => by rw [run_tagEq Tx Tx lx lx w, show eqB Tx Tx = true by simp [eqB]]
  have hEy : ∀ w, (binOp .eql 25 (.agg (vals Ty).toArray) (.agg (vals Ty).toArray)).run Tryd.prog w = .ok (.bool true) w := fun w => by rw [run_tagEq Ty Ty ly ly w, show eqB Ty Ty = true by simp [eqB]]
  have hIx : ∀ w, (Op.equalIn 10000 25 (.agg (vals Tx).toArray) (.agg (vals Tx).toArray)).run Tryd.prog w = .ok true w := fun w => by rw [run_tagIn Tx Tx lx lx w, show eqB Tx Tx = true by simp [eqB]]
  have g1 : ¬ 1000 < (na : Int) := by omega
  have g2 : ¬ 1000 < (nb : Int) := by omega
  have g3 : ¬ (n : Int) < 0 := by omega
  have g4 : ¬ 5 < (n : Int) := by omega
  have ZA := Lib.hid zA
  have ZB := Lib.hid zB
  have HTx := Lib.hid hTx
  have HTy := Lib.hid hTy
  have LX := Lib.hid lx
  have LY := Lib.hid ly
  have HF := Lib.hid hF
  have HK := Lib.hid hK
  have HFl := Lib.hid hF.lt
  have HKl := Lib.hid hK.lt
  have bA := Lib.hid zA.isBytes
  have bB := Lib.hid zB.isBytes
  clear hTx hTy lx ly zA zB hF hK
  go_enter Tryd.func6, Tryd.ntmps6
  go_wp2_with fail
  refine (shaAwake_any w HF.out HK.out).mono ?_
  rintro e w1 ⟨rfl, q1⟩
  go_wp2_with fail
  refine (new_any w1 (HF.out.below q1 HFl.out)).mono ?_
  rintro e w2 ⟨rfl, h2, b2, s2⟩
  have q2 := Lib.hid (q1.trans (b2.mono q1.size))
  have sg := q1.size
  have H2 := Lib.hid h2
  clear h2 b2
  obtain ⟨gb, hgb⟩ : ∃ g, w1.heap.size = g := ⟨_, rfl⟩
  rw [hgb] at s2 sg H2
  simp only [hgb]
  clear hgb q1
  go_wp2_with fail
  refine (new_any w2 (HF.out.below q2.out HFl.out)).mono ?_
  rintro e w3 ⟨rfl, h3, b3, s3⟩
  have q3 := Lib.hid (q2.out.trans (b3.mono q2.out.size))
  have H2' := Lib.hid (H2.out.below b3 s2)
  have H3 := Lib.hid h3
  clear h3 b3 H2
  obtain ⟨hb', hhb⟩ : ∃ g, w2.heap.size = g := ⟨_, rfl⟩
  rw [hhb] at s2 s3 H3
  simp only [hhb]
  clear hhb q2
  go_wp2_with fail
  refine (write_any H2'.out IsBytes.nil c0 (ZA.out.belowM q3.out (Nat.le_refl _)) q3.out.size (by simp; omega) (HK.out.below q3.out HKl.out) (by have := HKl.out; omega)).mono ?_
  rw [List.nil_append]
  rintro e w4 ⟨rfl, h4, g4'⟩
  have q4 := Lib.hid (below_hash g4' sg q3.out q3.out.size)
  have H3' := Lib.hid (H3.out.grown g4' (by omega))
  have H4 := Lib.hid h4
  have s4 := g4'.size
  clear h4 g4' H2' H3 q3
  go_wp2_with fail
  refine (write_any H3'.out IsBytes.nil c0 (ZA.out.belowM q4.out (Nat.le_refl _)) q4.out.size (by simp; omega) (HK.out.below q4.out HKl.out) (by have := HKl.out; omega)).mono ?_
  rw [List.nil_append]
  rintro e w5 ⟨rfl, h5, g5⟩
  have q5 := Lib.hid (below_hash g5 (by omega) q4.out q4.out.size)
  have H4' := Lib.hid (H4.out.grown g5 (by omega))
  have H5 := Lib.hid h5
  have s5 := g5.size
  clear h5 g5 H3' H4 q4
  go_wp2_with fail
  refine (sum_any H5.out bA.out (by rw [ZA.out.len]; omega) (HK.out.below q5.out HKl.out)).mono ?_
  rw [HTx.out]
  rintro e w6 ⟨rfl, b6⟩
  have q6 := Lib.hid (q5.out.trans (b6.mono q5.out.size))
  have H4'' := Lib.hid (H4'.out.below b6 (by omega))
  have H5'' := Lib.hid (H5.out.below b6 (by omega))
  have s6 := b6.size
  clear b6 H4' H5 q5
  have G := LX
  go_wp2_with (have g := G; clear g; refine wpList_store_as (op := ⟨none, .store 25 (.tmp 9) (.tmp 47), _, _, _, _⟩) rfl 25 (.tmp 9) (.tmp 47) rfl w6.heap.size 0 (vals Tx).toArray rfl rfl (tag_there w6 Tx LX.out) (tag_size Tx LX.out) (all_oneCell_toArray (vals_one Tx)) ?_; intro w7 hw7; clear G)
  obtain ⟨r7, b7, s7⟩ := stored_tag LX.out hw7
  have q7 := Lib.hid (q6.out.trans (b7.mono q6.out.size))
  have H47 := Lib.hid (H4''.out.below b7 (by omega))
  have H57 := Lib.hid (H5''.out.below b7 (by omega))
  obtain ⟨fb, hfb⟩ : ∃ g, w6.heap.size = g := ⟨_, rfl⟩
  rw [hfb] at r7 s7 s6
  simp only [hfb]
  have R7 := Lib.hid r7
  clear hw7 hfb r7 b7 H4'' H5'' q6
  go_loopw [11] (fun i wr => ∃ k : Nat, k ≤ n ∧ i = .int .i64 k ∧ Below w7.heap.size w7 wr) (fun i _ => n - (intOf i).toNat)
  case atStart => exact ⟨0, by omega, rfl, Below.refl _ _⟩
  case round =>
    obtain ⟨k, hk, rfl, hbel⟩ := hrel
    have q8 := Lib.hid (q7.out.trans (hbel.mono q7.out.size))
    have H48 := Lib.hid (H47.out.below hbel (by omega))
    have H58 := Lib.hid (H57.out.below hbel (by omega))
    have R8 := Lib.hid (rangeAt_same R7.out (hbel.block fb s7))
    have s8 := hbel.size
    have HB := Lib.hid hbel
    clear hbel
    by_cases hlt : k < n
    · go_wp2_with fail
      refine (sum_any H58.out bA.out (by rw [ZA.out.len]; omega) (HK.out.below q8.out HKl.out)).mono ?_
      rw [HTx.out]
      rintro e w9 ⟨rfl, b9⟩
      have R9 := Lib.hid (rangeAt_same R8.out (b9.block fb (by omega)))
      have B9 := Lib.hid (HB.out.trans (b9.mono s8))
      have s9 := b9.size
      clear b9
      have G := LX
      go_upto_region 13 with (have g := G; clear g; refine wpList_store_as (op := ⟨none, .store 25 (.tmp 12) (.tmp 57), _, _, _, _⟩) rfl 25 (.tmp 12) (.tmp 57) rfl w9.heap.size 0 (vals Tx).toArray rfl rfl (tag_there w9 Tx LX.out) (tag_size Tx LX.out) (all_oneCell_toArray (vals_one Tx)) ?_; intro w10 hw10; clear G)
      obtain ⟨r10, b10, s10⟩ := stored_tag LX.out hw10
      have R10 := Lib.hid r10
      have R10f := Lib.hid (rangeAt_same R9.out (b10.block fb (by omega)))
      have B10 := Lib.hid (B9.out.trans (b10.mono (by omega)))
      clear hw10 r10 b10 R9 B9
      have G1 := R10
      go_wp2_with (have g := G1; clear g; refine wpList_exec (op := ⟨some 60, .binOp .neq 33 (.tmp 59) (.const (.int .i64 0)) 33, _, _, _, _⟩) rfl (.bool false) (by go_simp) ?_; clear G1; refine wpList_exec (op := ⟨some 61, .move (.tmp 60), _, _, _, _⟩) rfl (.bool false) (by go_simp) ?_; refine wpList_load_guard (op := ⟨some 62, .load 25 (.tmp 12), _, _, _, some (2, false)⟩) rfl 25 (.tmp 12) rfl w9.heap.size 0 rfl (vals Tx) _ R10.out Tryd.underlying25 rfl (tag_size Tx LX.out) ?_; refine wpList_load_guard (op := ⟨some 63, .load 25 (.tmp 9), _, _, _, some (2, false)⟩) rfl 25 (.tmp 9) rfl fb 0 rfl (vals Tx) _ R10f.out Tryd.underlying25 rfl (tag_size Tx LX.out) ?_)
      go_roundw
      case rel => exact ⟨k + 1, by omega, by go_num, B10.out⟩
      case measure => simp [intOf]; omega
    · have hge : ¬ (k : Int) < n := by omega
      go_wp2_with fail
      refine (write_any H48.out bA.out c1 (ZB.out.belowM q8.out (Nat.le_refl _)) q8.out.size (by rw [ZA.out.len]; omega) (HK.out.below q8.out HKl.out) (by have := HKl.out; omega)).mono ?_
      rintro e w9 ⟨rfl, h9, g9⟩
      have q9 := Lib.hid (below_hash g9 sg q8.out q8.out.size)
      have H59 := Lib.hid (H58.out.grown g9 (by omega))
      have R9 := Lib.hid (rangeAt_same R8.out (g9.block fb (by omega) (by simp; omega)))
      have H9 := Lib.hid h9
      have s9 := g9.size
      clear h9 g9 H48 H58 R8 HB q8 H47 H57 R7 q7
      go_wp2_with fail
      refine (write_any H59.out bA.out c1 (ZB.out.belowM q9.out (Nat.le_refl _)) q9.out.size (by rw [ZA.out.len]; omega) (HK.out.below q9.out HKl.out) (by have := HKl.out; omega)).mono ?_
      rintro e w10 ⟨rfl, h10, g10⟩
      have q10 := Lib.hid (below_hash g10 (by omega) q9.out q9.out.size)
      have H9' := Lib.hid (H9.out.grown g10 (by omega))
      have R10 := Lib.hid (rangeAt_same R9.out (g10.block fb (by omega) (by simp; omega)))
      have H10 := Lib.hid h10
      have s10 := g10.size
      clear h10 g10 H59 H9 R9 q9
      go_wp2_with fail
      refine (sum_any H9'.out (bA.out.app bB.out) (by rw [List.length_append, ZA.out.len, ZB.out.len]; omega) (HK.out.below q10.out HKl.out)).mono ?_
      rw [HTy.out]
      rintro e w11 ⟨rfl, b11⟩
      have q11 := Lib.hid (q10.out.trans (b11.mono q10.out.size))
      have H11 := Lib.hid (H10.out.below b11 (by omega))
      have R11 := Lib.hid (rangeAt_same R10.out (b11.block fb (by omega)))
      have s11 := b11.size
      clear b11 H9' H10 R10 q10
      have G := LX
      go_upto_region 18 with (have g := G; clear g; refine wpList_store_as (op := ⟨none, .store 25 (.tmp 14) (.tmp 75), _, _, _, _⟩) rfl 25 (.tmp 14) (.tmp 75) rfl w11.heap.size 0 (vals Ty).toArray rfl rfl (tag_there w11 Ty LY.out) (tag_size Ty LY.out) (all_oneCell_toArray (vals_one Ty)) ?_; intro w12 hw12; clear G)
      obtain ⟨r12, b12, s12⟩ := stored_tag LY.out hw12
      have q12 := Lib.hid (q11.out.trans (b12.mono q11.out.size))
      have H12 := Lib.hid (H11.out.below b12 (by omega))
      have R12f := Lib.hid (rangeAt_same R11.out (b12.block fb (by omega)))
      have R12 := Lib.hid r12
      obtain ⟨xb, hxb⟩ : ∃ g, w11.heap.size = g := ⟨_, rfl⟩
      rw [hxb] at R12 s12 s11
      simp only [hxb]
      clear hw12 hxb r12 b12 H11 R11 q11
      go_wp2_with fail
      refine (sum_any H12.out (bA.out.app bB.out) (by rw [List.length_append, ZA.out.len, ZB.out.len]; omega) (HK.out.below q12.out HKl.out)).mono ?_
      rw [HTy.out]
      rintro e w13 ⟨rfl, b13⟩
      have q13 := Lib.hid (q12.out.trans (b13.mono q12.out.size))
      have R13f := Lib.hid (rangeAt_same R12f.out (b13.block fb (by omega)))
      have R13 := Lib.hid (rangeAt_same R12.out (b13.block xb (by omega)))
      have s13 := b13.size
      clear b13 R12 R12f H12 q12
      have G := LX
      go_upto_region 19 with (have g := G; clear g; refine wpList_store_as (op := ⟨none, .store 25 (.tmp 16) (.tmp 80), _, _, _, _⟩) rfl 25 (.tmp 16) (.tmp 80) rfl w13.heap.size 0 (vals Ty).toArray rfl rfl (tag_there w13 Ty LY.out) (tag_size Ty LY.out) (all_oneCell_toArray (vals_one Ty)) ?_; intro w14 hw14; clear G)
      obtain ⟨r14, b14, s14⟩ := stored_tag LY.out hw14
      have q14 := Lib.hid (q13.out.trans (b14.mono q13.out.size))
      have R14f := Lib.hid (rangeAt_same R13f.out (b14.block fb (by omega)))
      have R14x := Lib.hid (rangeAt_same R13.out (b14.block xb (by omega)))
      have R14 := Lib.hid r14
      obtain ⟨yb, hyb⟩ : ∃ g, w13.heap.size = g := ⟨_, rfl⟩
      rw [hyb] at R14 s14 s13
      simp only [hyb]
      have hlf : fb < w14.heap.size := by omega
      have hlx : xb < w14.heap.size := by omega
      have hly : yb < w14.heap.size := by omega
      have hu := Tryd.underlying25
      have hiX := tag_size Tx LX.out
      have hiY := tag_size Ty LY.out
      have ZA14 := Lib.hid (ZA.out.belowM q14.out.drew (Nat.le_refl _))
      have LF := Lib.hid (HF.out.below q14.out.drew HFl.out)
      have LK := Lib.hid (HK.out.below q14.out.drew HKl.out)
      have S14 := Lib.hid q14.out.size
      clear hw14 hyb r14 b14 R13f R13 q13
      refine wp_region_noPanic ?_
      refine wp_region_held_drew (S := fun w' => w'.rangeAt fb 0 (vals Tx) ∧ w'.rangeAt xb 0 (vals Ty) ∧ w'.rangeAt yb 0 (vals Ty)) (by kernel_rfl) ⟨R14f.out, R14x.out, R14.out⟩ (fun hHeld => ?_)
      refine wpAnyH_take (i := 0) (oi := ⟨some 82, .load 25 (.tmp 14), _, _, _, _⟩) (v := _) rfl (by kernel_rfl) (by kernel_rfl) (by kernel_rfl) (fun _ _ _ h => h) (yieldsIf_load_mid (by rfl) _ _ rfl _ _ rfl (vals Ty) _ (fun _ h => h.2.1) hu rfl hiY) (by assumption) ?_
      try simp only [Act.put, List.setIfInBounds_toArray, List.set_cons_zero, List.set_cons_succ]
      refine wpAnyH_take (i := 1) (oi := ⟨some 83, .load 25 (.tmp 16), _, _, _, _⟩) (v := _) rfl (by kernel_rfl) (by kernel_rfl) (by kernel_rfl) (fun _ _ _ h => h) (yieldsIf_load_mid (by rfl) _ _ rfl _ _ rfl (vals Ty) _ (fun _ h => h.2.2) hu rfl hiY) (by assumption) ?_
      try simp only [Act.put, List.setIfInBounds_toArray, List.set_cons_zero, List.set_cons_succ]
      refine wpAnyH_take (i := 2) (oi := ⟨some 84, .binOp .eql 25 (.tmp 82) (.tmp 83) 25, _, _, _, _⟩) (v := .bool true) rfl (by kernel_rfl) (by kernel_rfl) (by kernel_rfl) (fun _ _ _ h => h) (Or.inl ⟨by rfl, fun w hSw => ?_⟩) (by assumption) ?_
      · go_simp
      try simp only [Act.put, List.setIfInBounds_toArray, List.set_cons_zero, List.set_cons_succ]
      refine wpAnyH_take (i := 3) (oi := ⟨some 85, .move (.tmp 84), _, _, _, _⟩) (v := .bool true) rfl (by kernel_rfl) (by kernel_rfl) (by kernel_rfl) (fun _ _ _ h => h) (Or.inl ⟨by rfl, fun w hSw => ?_⟩) (by assumption) ?_
      · go_simp
      try simp only [Act.put, List.setIfInBounds_toArray, List.set_cons_zero, List.set_cons_succ]
      refine wpAnyH_take (i := 4) (oi := ⟨some 86, .load 25 (.tmp 9), _, _, _, _⟩) (v := _) rfl (by kernel_rfl) (by kernel_rfl) (by kernel_rfl) (fun _ _ _ h => h) (yieldsIf_load_mid (by rfl) _ _ rfl _ _ rfl (vals Tx) _ (fun _ h => h.1) hu rfl hiX) (by assumption) ?_
      try simp only [Act.put, List.setIfInBounds_toArray, List.set_cons_zero, List.set_cons_succ]
      refine wpAnyH_take (i := 5) (oi := ⟨some 87, .move (.tmp 0), _, _, _, _⟩) (v := .slice A0 na c0) rfl (by kernel_rfl) (by kernel_rfl) (by kernel_rfl) (fun _ _ _ h => h) (Or.inl ⟨by rfl, fun w hSw => ?_⟩) (by assumption) ?_
      · go_simp
      try simp only [Act.put, List.setIfInBounds_toArray, List.set_cons_zero, List.set_cons_succ]
      refine wpAnyH_ready (rs := [6]) (by kernel_rfl) (by simp) ?_
      refine AllReadyH.cons (o := ⟨some 88, .call { callee := .value (.func 14), args := #[.tmp 87], argTypes := #[22] }, _, _, _, _⟩) rfl (fun K hK => ?_) AllReadyH.nil
      go_simp
      refine (sumB_any c0 ZA14.out S14.out (by omega) LF.out LK.out).mono ?_
      rw [HTx.out]
      rintro e w15 ⟨rfl, b15⟩
      have r15f := rangeAt_same R14f.out (b15.block fb hlf)
      have r15x := rangeAt_same R14x.out (b15.block xb hlx)
      have r15y := rangeAt_same R14.out (b15.block yb hly)
      have q15 := Lib.hid (q14.out.drew.trans (b15.mono S14.out))
      clear b15
      go_wp2_with fail
      refine hK.out _ _ ⟨r15f, r15x, r15y⟩ (fun hHeld2 => ?_)
      clear hK K hHeld
      have hHeld := hHeld2
      clear hHeld2
      try simp only [Act.put, List.setIfInBounds_toArray, List.set_cons_zero, List.set_cons_succ]
      refine wpAnyH_take (i := 7) (oi := ⟨some 89, .binOp .eql 25 (.tmp 86) (.tmp 88) 25, _, _, _, _⟩) (v := .bool true) rfl (by kernel_rfl) (by kernel_rfl) (by kernel_rfl) (fun _ _ _ h => h) (Or.inl ⟨by rfl, fun w hSw => ?_⟩) (by assumption) ?_
      · go_simp
      try simp only [Act.put, List.setIfInBounds_toArray, List.set_cons_zero, List.set_cons_succ]
      refine wpAnyH_take (i := 8) (oi := ⟨some 90, .pick (.tmp 85) (.tmp 89) (.const (.bool false)), _, _, _, _⟩) (v := .bool true) rfl (by kernel_rfl) (by kernel_rfl) (by kernel_rfl) (fun _ _ _ h => h) (Or.inl ⟨by rfl, fun w hSw => ?_⟩) (by assumption) ?_
      · go_simp
      try simp only [Act.put, List.setIfInBounds_toArray, List.set_cons_zero, List.set_cons_succ]
      refine wpAnyH_take (i := 9) (oi := ⟨some 6, .assign (.tmp 90), _, _, _, _⟩) (v := .bool true) rfl (by kernel_rfl) (by kernel_rfl) (by kernel_rfl) (fun _ _ _ h => h) (Or.inl ⟨by rfl, fun w hSw => ?_⟩) (by assumption) ?_
      · go_simp
      try simp only [Act.put, List.setIfInBounds_toArray, List.set_cons_zero, List.set_cons_succ]
      refine wpAnyH_done (by kernel_rfl) ?_ _
      refine NoPanic.normal ?_
      go_wp2
      go_ret
      exact ⟨rfl, q15.out⟩
set_option maxRecDepth 100000 in
set_option maxHeartbeats 2000000 in
theorem shaAsked_out (A0 A1 : Option Addr) (na nb c0 c1 : Nat) (n : Int) (w : World) (hF : LaidF w) (hK : LaidK w) (h : 1000 < (na : Int) ∨ (¬ 1000 < (na : Int) ∧ 1000 < (nb : Int)) ∨ (¬ 1000 < (na : Int) ∧ ¬ 1000 < (nb : Int) ∧ n < 0) ∨ (¬ 1000 < (na : Int) ∧ ¬ 1000 < (nb : Int) ∧ ¬ n < 0 ∧ 5 < n)) :
    Calls Tryd.prog 6 #[.slice A0 na c0, .slice A1 nb c1, .int .i64 n] w fun e w' => e = .returned (.bool true) ∧ Below w.heap.size w w' := by
  rcases h with h | ⟨h1, h2⟩ | ⟨h1, h2, h3⟩ | ⟨h1, h2, h3, h4⟩
  all_goals
    go_enter Tryd.func6, Tryd.ntmps6
    go_wp2_with fail
    refine (shaAwake_any w hF hK).mono ?_
    rintro e w1 ⟨rfl, b1⟩
    go_wp2
    go_ret
    exact ⟨rfl, b1⟩
theorem shaAsked_any (a0 : Option Addr) (len0 cap0 : Nat) (z0 : List Int) (a1 : Option Addr) (len1 cap1 : Nat) (z1 : List Int) (n : Int) (w : World)
    (w0 : IsRow .u8 w a0 len0 cap0 z0) (w1 : IsRow .u8 w a1 len1 cap1 z1) (wn : (Lit.int .i64 n).wf = true) (hF : LaidF w) (hK : LaidK w) :
    Calls Tryd.prog 6 #[.slice a0 len0 cap0, .slice a1 len1 cap1, .int .i64 n] w fun e w' => e = .returned (.bool true) ∧ Below w.heap.size w w' := by
  by_cases h : 1000 < (len0 : Int) ∨ (¬ 1000 < (len0 : Int) ∧ 1000 < (len1 : Int)) ∨ (¬ 1000 < (len0 : Int) ∧ ¬ 1000 < (len1 : Int) ∧ n < 0) ∨ (¬ 1000 < (len0 : Int) ∧ ¬ 1000 < (len1 : Int) ∧ ¬ n < 0 ∧ 5 < n)
  · exact shaAsked_out a0 a1 len0 len1 cap0 cap1 n w hF hK h
  · obtain ⟨m, rfl⟩ := Int.eq_ofNat_of_zero_le (show 0 ≤ n by omega)
    exact shaAsked_in cap0 cap1 w w0.bs.1 w1.bs.1 (by omega) (by omega) (by omega) hF hK
end Go.Proofs.YtmglhfhcljdfcaaDoor
