/- Two hashes go on for themselves. -/
import Derived.Test.YtbidgikibmicdaaDoorShaEnds
import Derived.Test.YtbidgikibmicdaaDoorApp
namespace Go.Proofs.YtbidgikibmicdaaDoor
open Go.ChangeShapes Go.WideShapes Go.ChangeAt Go.RowKit
set_option linter.unusedVariables false
open Plain Sha
set_option maxRecDepth 100000 in
set_option maxHeartbeats 4000000 in
theorem shaTwo_in {na nb nc : Nat} {A0 A1 A2 : Option Addr} (c0 c1 c2 : Nat) {xs bs cs : List Int} (w : World) (zA : Bs w w.heap.size A0 na xs) (zB : Bs w w.heap.size A1 nb bs) (zC : Bs w w.heap.size A2 nc cs)
    (ha : na ≤ 500) (hb : nb ≤ 500) (hc : nc ≤ 500) (hF : LaidF w) (hK : LaidK w) :
    Calls Tryd.prog 9 #[.slice A0 na c0, .slice A1 nb c1, .slice A2 nc c2] w fun e w' => e = .returned (.bool true) ∧ Below w.heap.size w w' := by
  obtain ⟨Tx, hTx⟩ : ∃ T, shaZ (xs ++ cs) = T := ⟨_, rfl⟩
  obtain ⟨Ty, hTy⟩ : ∃ T, shaZ bs = T := ⟨_, rfl⟩
  have lx : Tx.length = 32 := by rw [← hTx]; exact shaZ_len _
  have ly : Ty.length = 32 := by rw [← hTy]; exact shaZ_len _
  have hEx : ∀ w, (binOp .eql 25 (.agg (vals Tx).toArray) (.agg (vals Tx).toArray)).run Tryd.prog w = .ok (.bool true) w := fun w => by rw [run_tagEq Tx Tx lx lx w, show eqB Tx Tx = true by simp [eqB]]
  have hEy : ∀ w, (binOp .eql 25 (.agg (vals Ty).toArray) (.agg (vals Ty).toArray)).run Tryd.prog w = .ok (.bool true) w := fun w => by rw [run_tagEq Ty Ty ly ly w, show eqB Ty Ty = true by simp [eqB]]
  have g1 : ¬ 500 < (na : Int) := by omega
  have g2 : ¬ 500 < (nb : Int) := by omega
  have g3 : ¬ 500 < (nc : Int) := by omega
  have ZA := Lib.hid zA
  have ZB := Lib.hid zB
  have ZC := Lib.hid zC
  have HTx := Lib.hid hTx
  have HTy := Lib.hid hTy
  have LX := Lib.hid lx
  have LY := Lib.hid ly
  have HF := Lib.hid hF
  have HK := Lib.hid hK
  have HFl := Lib.hid hF.lt
  have HKl := Lib.hid hK.lt
  have bA := Lib.hid zA.isBytes
  have bB := Lib.hid zB.isBytes
  have bC := Lib.hid zC.isBytes
  clear hTx hTy lx ly zA zB zC hF hK
  go_enter Tryd.func9, Tryd.ntmps9
  go_wp2_with fail
  refine (shaAwake_any w HF.out HK.out).mono ?_
  rintro e w1 ⟨rfl, q1⟩
  go_wp2_with fail
  refine (new_any w1 (HF.out.below q1 HFl.out)).mono ?_
  rintro e w2 ⟨rfl, h2, b2, s2⟩
  have q2 := Lib.hid (q1.trans (b2.mono q1.size))
  have sg := q1.size
  have H2 := Lib.hid h2
  clear h2 b2
  obtain ⟨gb, hgb⟩ : ∃ g, w1.heap.size = g := ⟨_, rfl⟩
  rw [hgb] at s2 sg H2
  simp only [hgb]
  clear hgb q1
  go_wp2_with fail
  refine (new_any w2 (HF.out.below q2.out HFl.out)).mono ?_
  rintro e w3 ⟨rfl, h3, b3, s3⟩
  have q3 := Lib.hid (q2.out.trans (b3.mono q2.out.size))
  have H2' := Lib.hid (H2.out.below b3 s2)
  have H3 := Lib.hid h3
  clear h3 b3 H2
  obtain ⟨hb', hhb⟩ : ∃ g, w2.heap.size = g := ⟨_, rfl⟩
  rw [hhb] at s2 s3 H3
  simp only [hhb]
  clear hhb q2
  go_wp2_with fail
  refine (write_any H2'.out IsBytes.nil c0 (ZA.out.belowM q3.out (Nat.le_refl _)) q3.out.size (by simp; omega) (HK.out.below q3.out HKl.out) (by have := HKl.out; omega)).mono ?_
  rw [List.nil_append]
  rintro e w4 ⟨rfl, h4, g4⟩
  have q4 := Lib.hid (below_hash g4 sg q3.out q3.out.size)
  have H3' := Lib.hid (H3.out.grown g4 (by omega))
  have H4 := Lib.hid h4
  have s4 := g4.size
  clear h4 g4 H2' H3 q3
  go_wp2_with fail
  refine (write_any H3'.out IsBytes.nil c1 (ZB.out.belowM q4.out (Nat.le_refl _)) q4.out.size (by simp; omega) (HK.out.below q4.out HKl.out) (by have := HKl.out; omega)).mono ?_
  rw [List.nil_append]
  rintro e w5 ⟨rfl, h5, g5⟩
  have q5 := Lib.hid (below_hash g5 (by omega) q4.out q4.out.size)
  have H4' := Lib.hid (H4.out.grown g5 (by omega))
  have H5 := Lib.hid h5
  have s5 := g5.size
  clear h5 g5 H3' H4 q4
  go_wp2_with fail
  refine (write_any H4'.out bA.out c2 (ZC.out.belowM q5.out (Nat.le_refl _)) q5.out.size (by rw [ZA.out.len]; omega) (HK.out.below q5.out HKl.out) (by have := HKl.out; omega)).mono ?_
  rintro e w6 ⟨rfl, h6, g6⟩
  have q6 := Lib.hid (below_hash g6 sg q5.out q5.out.size)
  have H5' := Lib.hid (H5.out.grown g6 (by omega))
  have H6 := Lib.hid h6
  have s6 := g6.size
  clear h6 g6 H4' H5 q5
  go_wp2_with fail
  refine (sum_any H6.out (bA.out.app bC.out) (by rw [List.length_append, ZA.out.len, ZC.out.len]; omega) (HK.out.below q6.out HKl.out)).mono ?_
  rw [HTx.out]
  rintro e w7 ⟨rfl, b7⟩
  have q7 := Lib.hid (q6.out.trans (b7.mono q6.out.size))
  have H5'' := Lib.hid (H5'.out.below b7 (by omega))
  have s7 := b7.size
  clear b7 H5' H6 q6
  have TX : Hid ((w7.alloc (.cells (vals (List.replicate 32 0)).toArray 25)).there w7.heap.size 0 (vals Tx).toArray.size) := Lib.hid (by
    have e : (vals Tx).toArray.size = 32 := by rw [List.size_toArray, vals_len, LX.out]
    rw [e]; simpa using (Row8.new w7 (List.replicate 32 0) 25).there)
  have TX2 := TX
  have IX := Lib.hid (show (Tryd.prog.info? 25).map (·.size) = some (vals Tx).length by rw [vals_len, LX.out]; kernel_rfl)
  have IY := Lib.hid (show (Tryd.prog.info? 25).map (·.size) = some (vals Ty).length by rw [vals_len, LY.out]; kernel_rfl)
  have OX := Lib.hid (all_oneCell_toArray (vals_one Tx))
  have OY := Lib.hid (all_oneCell_toArray (vals_one Ty))
  go_wp2_with (first
    | (have g := TX; clear g; refine wpList_store_as (op := ⟨none, .store 25 (.tmp 9) (.tmp 43), _, _, _, _⟩) rfl 25 (.tmp 9) (.tmp 43) rfl w7.heap.size 0 (vals Tx).toArray rfl rfl TX.out IX.out OX.out ?_; intro w8 hw8; clear TX))
  have e32 : (vals Tx).toArray.size = 32 := by rw [List.size_toArray, vals_len, LX.out]
  have R8 : w8.rangeAt w7.heap.size 0 (vals Tx) := by rw [hw8.out]; exact World.rangeAt_setCells_same _ _ _ _ TX2.out
  have q8 := Lib.hid (show Below w.heap.size w w8 by rw [hw8.out]; exact below_setCells (by omega) _ _ _ (q7.out.alloc (by omega) _))
  have H58 : Hid (HashOf w8 hb' bs) := Lib.hid (H5''.out.same (by rw [hw8.out]; exact (heap_setCells _ _ (by omega) _ _ _).trans (Below.heap_alloc _ _ _ (by omega))))
  have s8 : w7.heap.size < w8.heap.size := by rw [hw8.out]; exact Nat.lt_of_lt_of_le (by simp) (below_setCells (B := 0) (Nat.zero_le _) _ _ _ (Below.refl 0 _)).size
  obtain ⟨xb, hxb⟩ : ∃ g, w7.heap.size = g := ⟨_, rfl⟩
  rw [hxb] at R8 s8 s7
  simp only [hxb]
  clear hw8 hxb H5'' TX2 q7
  refine (sum_any H58.out bB.out (by rw [ZB.out.len]; omega) (HK.out.below q8.out HKl.out)).mono ?_
  rw [HTy.out]
  rintro e w9 ⟨rfl, b9⟩
  have q9 := Lib.hid (q8.out.trans (b9.mono q8.out.size))
  have R9 := Lib.hid (rangeAt_same R8 (b9.block _ (by omega)))
  have s9 := b9.size
  have TY : Hid ((w9.alloc (.cells (vals (List.replicate 32 0)).toArray 25)).there w9.heap.size 0 (vals Ty).toArray.size) := Lib.hid (by
    have e : (vals Ty).toArray.size = 32 := by rw [List.size_toArray, vals_len, LY.out]
    rw [e]; simpa using (Row8.new w9 (List.replicate 32 0) 25).there)
  have TY2 := TY
  clear b9 R8 H58 q8
  go_wp2_with (first
    | (have g := TY; clear g; refine wpList_store_as (op := ⟨none, .store 25 (.tmp 11) (.tmp 48), _, _, _, _⟩) rfl 25 (.tmp 11) (.tmp 48) rfl w9.heap.size 0 (vals Ty).toArray rfl rfl TY.out IY.out OY.out ?_; intro w10 hw10; clear TY;
       have R10y := Lib.hid (show w10.rangeAt w9.heap.size 0 (vals Ty) by rw [hw10.out]; exact World.rangeAt_setCells_same _ _ _ _ TY2.out);
       have q10 := Lib.hid (show Below w.heap.size w w10 by rw [hw10.out]; exact below_setCells (by omega) _ _ _ (q9.out.alloc (by omega) _));
       have R10x := Lib.hid (show w10.rangeAt xb 0 (vals Tx) from rangeAt_same R9.out (by rw [hw10.out]; exact (heap_setCells _ _ (by omega) _ _ _).trans (Below.heap_alloc _ _ _ (by omega))));
       have s10 : w9.heap.size < w10.heap.size := by { rw [hw10.out]; exact Nat.lt_of_lt_of_le (by simp) (below_setCells (B := 0) (Nat.zero_le _) _ _ _ (Below.refl 0 _)).size };
       have ZA10 := Lib.hid (ZA.out.belowM q10.out (Nat.le_refl _)); have G2 := s10)
    | (at_builtin; refine wpList_app _ rfl (.tmp 50) (.tmp 51) 22 rfl w10.heap.size 5 1 1 Tryd.underlying22 u8_info (by omega) (.slice none 0 0) 0 [] rfl (World.ownsRow_nil w10 w10.heap.size 5 1) A0 na c0 (vals xs) rfl ZA10.out.lies.1 ZA10.out.lies.2 (vals_one _) (by unfold maxLen; omega) (by omega) (Nat.le_refl _) ?_; intro v1 w11 ho1 hg1; have hb1 : Below w10.heap.size w10 w11 := (Below.refl _ _).grown hg1 (Nat.le_refl _) (by simp [Value.ownBlock]); have ZC11 := Lib.hid (ZC.out.belowM (q10.out.trans (hb1.mono q10.out.size)) (Nat.le_refl _)))
    | (at_builtin; refine wpList_app _ rfl (.tmp 53) (.tmp 54) 22 rfl w10.heap.size 5 1 1 Tryd.underlying22 u8_info (by omega) v1 (0 + na) ([] ++ vals xs) rfl ho1 A2 nc c2 (vals cs) rfl ZC11.out.lies.1 ZC11.out.lies.2 (vals_one _) (by unfold maxLen; omega) (by omega) hb1.size ?_; intro v2 w12 ho2 hg2))
  have hb2 : Below w10.heap.size w10 w12 := hb1.grown hg2 hb1.size (fun k hk => (ho1.lt k hk).1)
  have q12 := Lib.hid (q10.out.trans (hb2.mono q10.out.size))
  obtain ⟨N, hN⟩ : ∃ N, 0 + na + nc = N := ⟨_, rfl⟩
  have hN2 : N ≤ 1000 := by omega
  rw [hN, List.nil_append, ← vals_app] at ho2
  obtain ⟨A, c, hv2, _, _⟩ := own_shape ho2
  subst hv2
  have ZL := Lib.hid (bs_of_own ho2 (bA.out.app bC.out)).drew
  obtain ⟨yb, hyb⟩ : ∃ g, w9.heap.size = g := ⟨_, rfl⟩
  simp only [hyb]
  have R12x := Lib.hid (rangeAt_same R10x.out (hb2.block xb (by omega)))
  have R12y := R10y.out
  rw [hyb] at R12y s10
  have R12y' := Lib.hid (rangeAt_same R12y (hb2.block yb (by omega)))
  have z1 := hb2.size
  have hlx : xb < w12.heap.size := by omega
  have hly : yb < w12.heap.size := by omega
  have hu := Tryd.underlying25
  have hiX := IX.out
  have hiY := IY.out
  have LB := Lib.hid (ZB.out.belowM q12.out (Nat.le_refl _))
  have LF := Lib.hid (HF.out.below q12.out.drew HFl.out)
  have LK := Lib.hid (HK.out.below q12.out.drew HKl.out)
  clear hb1 hb2 hg1 hg2 ho1 ho2 R12y hN z1 s10 s9 s8 s7 hw10 TY2 R10x R10y R9 q9 q10 ZA10 ZC11 G2
  refine wp_region_noPanic ?_
  refine wp_region_held_drew (S := fun w' => w'.rangeAt xb 0 (vals Tx) ∧ w'.rangeAt yb 0 (vals Ty)) (by kernel_rfl) ⟨R12x.out, R12y'.out⟩ (fun hHeld => ?_)
  refine wpAnyH_take (i := 0) (oi := ⟨some 56, .load 25 (.tmp 9), _, _, _, _⟩) (v := _) rfl (by kernel_rfl) (by kernel_rfl) (by kernel_rfl) (fun _ _ _ h => h) (yieldsIf_load_mid (by rfl) _ _ rfl _ _ rfl (vals Tx) _ (fun _ h => h.1) hu rfl hiX) (by assumption) ?_
  try simp only [Act.put, List.setIfInBounds_toArray, List.set_cons_zero, List.set_cons_succ]
  refine wpAnyH_take (i := 1) (oi := ⟨some 57, .move (.tmp 13), _, _, _, _⟩) (v := .slice A N c) rfl (by kernel_rfl) (by kernel_rfl) (by kernel_rfl) (fun _ _ _ h => h) (Or.inl ⟨by rfl, fun w hSw => ?_⟩) (by assumption) ?_
  · go_simp
  try simp only [Act.put, List.setIfInBounds_toArray, List.set_cons_zero, List.set_cons_succ]
  refine wpAnyH_ready (rs := [2]) (by kernel_rfl) (by simp) ?_
  refine AllReadyH.cons (o := ⟨some 58, .call { callee := .value (.func 11), args := #[.tmp 57], argTypes := #[22] }, _, _, _, _⟩) rfl (fun K hK => ?_) AllReadyH.nil
  go_simp
  refine (sumB_any c ZL.out (Nat.le_refl _) (by omega) LF.out LK.out).mono ?_
  rw [HTx.out]
  rintro e w13 ⟨rfl, b13⟩
  have r13x := rangeAt_same R12x.out (b13.block xb hlx)
  have r13y := rangeAt_same R12y'.out (b13.block yb hly)
  have q13 := Lib.hid (q12.out.drew.trans (b13.mono q12.out.size))
  have s13 : w12.heap.size ≤ w13.heap.size := b13.size
  clear b13
  go_wp2_with fail
  refine hK.out _ _ ⟨r13x, r13y⟩ (fun hHeld2 => ?_)
  clear hK K hHeld
  have hHeld := hHeld2
  clear hHeld2
  try simp only [Act.put, List.setIfInBounds_toArray, List.set_cons_zero, List.set_cons_succ]
  refine wpAnyH_take (i := 3) (oi := ⟨some 59, .binOp .eql 25 (.tmp 56) (.tmp 58) 25, _, _, _, _⟩) (v := .bool true) rfl (by kernel_rfl) (by kernel_rfl) (by kernel_rfl) (fun _ _ _ h => h) (Or.inl ⟨by rfl, fun w hSw => ?_⟩) (by assumption) ?_
  · go_simp
  try simp only [Act.put, List.setIfInBounds_toArray, List.set_cons_zero, List.set_cons_succ]
  refine wpAnyH_take (i := 4) (oi := ⟨some 60, .move (.tmp 59), _, _, _, _⟩) (v := .bool true) rfl (by kernel_rfl) (by kernel_rfl) (by kernel_rfl) (fun _ _ _ h => h) (Or.inl ⟨by rfl, fun w hSw => ?_⟩) (by assumption) ?_
  · go_simp
  try simp only [Act.put, List.setIfInBounds_toArray, List.set_cons_zero, List.set_cons_succ]
  refine wpAnyH_take (i := 5) (oi := ⟨some 61, .load 25 (.tmp 11), _, _, _, _⟩) (v := _) rfl (by kernel_rfl) (by kernel_rfl) (by kernel_rfl) (fun _ _ _ h => h) (yieldsIf_load_mid (by rfl) _ _ rfl _ _ rfl (vals Ty) _ (fun _ h => h.2) hu rfl hiY) (by assumption) ?_
  try simp only [Act.put, List.setIfInBounds_toArray, List.set_cons_zero, List.set_cons_succ]
  refine wpAnyH_take (i := 6) (oi := ⟨some 62, .move (.tmp 1), _, _, _, _⟩) (v := .slice A1 nb c1) rfl (by kernel_rfl) (by kernel_rfl) (by kernel_rfl) (fun _ _ _ h => h) (Or.inl ⟨by rfl, fun w hSw => ?_⟩) (by assumption) ?_
  · go_simp
  try simp only [Act.put, List.setIfInBounds_toArray, List.set_cons_zero, List.set_cons_succ]
  refine wpAnyH_ready (rs := [7]) (by kernel_rfl) (by simp) ?_
  refine AllReadyH.cons (o := ⟨some 63, .call { callee := .value (.func 11), args := #[.tmp 62], argTypes := #[22] }, _, _, _, _⟩) rfl (fun K hK => ?_) AllReadyH.nil
  go_simp
  refine (sumB_any c1 (ZB.out.belowM q13.out (Nat.le_refl _)) q13.out.size (by omega) (HF.out.below q13.out HFl.out) (HK.out.below q13.out HKl.out)).mono ?_
  rw [HTy.out]
  rintro e w14 ⟨rfl, b14⟩
  have r14x := rangeAt_same r13x (b14.block xb (by omega))
  have r14y := rangeAt_same r13y (b14.block yb (by omega))
  have q14 := Lib.hid (q13.out.trans (b14.mono q13.out.size))
  clear b14
  go_wp2_with fail
  refine hK.out _ _ ⟨r14x, r14y⟩ (fun hHeld2 => ?_)
  clear hK K hHeld
  have hHeld := hHeld2
  clear hHeld2
  try simp only [Act.put, List.setIfInBounds_toArray, List.set_cons_zero, List.set_cons_succ]
  refine wpAnyH_take (i := 8) (oi := ⟨some 64, .binOp .eql 25 (.tmp 61) (.tmp 63) 25, _, _, _, _⟩) (v := .bool true) rfl (by kernel_rfl) (by kernel_rfl) (by kernel_rfl) (fun _ _ _ h => h) (Or.inl ⟨by rfl, fun w hSw => ?_⟩) (by assumption) ?_
  · go_simp
  try simp only [Act.put, List.setIfInBounds_toArray, List.set_cons_zero, List.set_cons_succ]
  refine wpAnyH_take (i := 9) (oi := ⟨some 65, .pick (.tmp 60) (.tmp 64) (.const (.bool false)), _, _, _, _⟩) (v := .bool true) rfl (by kernel_rfl) (by kernel_rfl) (by kernel_rfl) (fun _ _ _ h => h) (Or.inl ⟨by rfl, fun w hSw => ?_⟩) (by assumption) ?_
  · go_simp
  try simp only [Act.put, List.setIfInBounds_toArray, List.set_cons_zero, List.set_cons_succ]
  refine wpAnyH_take (i := 10) (oi := ⟨some 6, .assign (.tmp 65), _, _, _, _⟩) (v := .bool true) rfl (by kernel_rfl) (by kernel_rfl) (by kernel_rfl) (fun _ _ _ h => h) (Or.inl ⟨by rfl, fun w hSw => ?_⟩) (by assumption) ?_
  · go_simp
  try simp only [Act.put, List.setIfInBounds_toArray, List.set_cons_zero, List.set_cons_succ]
  refine wpAnyH_done (by kernel_rfl) ?_ _
  refine NoPanic.normal ?_
  go_wp2
  go_ret
  exact ⟨rfl, q14.out⟩
set_option maxRecDepth 100000 in
set_option maxHeartbeats 2000000 in
theorem shaTwo_out (A0 A1 A2 : Option Addr) (na nb nc c0 c1 c2 : Nat) (w : World) (hF : LaidF w) (hK : LaidK w) (h : 500 < (na : Int) ∨ (¬ 500 < (na : Int) ∧ 500 < (nb : Int)) ∨ (¬ 500 < (na : Int) ∧ ¬ 500 < (nb : Int) ∧ 500 < (nc : Int))) :
    Calls Tryd.prog 9 #[.slice A0 na c0, .slice A1 nb c1, .slice A2 nc c2] w fun e w' => e = .returned (.bool true) ∧ Below w.heap.size w w' := by
  rcases h with h | ⟨h1, h2⟩ | ⟨h1, h2, h3⟩
  all_goals
    go_enter Tryd.func9, Tryd.ntmps9
    go_wp2_with fail
    refine (shaAwake_any w hF hK).mono ?_
    rintro e w1 ⟨rfl, b1⟩
    go_wp2
    go_ret
    exact ⟨rfl, b1⟩
theorem shaTwo_any (a0 : Option Addr) (len0 cap0 : Nat) (z0 : List Int) (a1 : Option Addr) (len1 cap1 : Nat) (z1 : List Int) (a2 : Option Addr) (len2 cap2 : Nat) (z2 : List Int) (w : World)
    (w0 : IsRow .u8 w a0 len0 cap0 z0) (w1 : IsRow .u8 w a1 len1 cap1 z1) (w2 : IsRow .u8 w a2 len2 cap2 z2) (hF : LaidF w) (hK : LaidK w) :
    Calls Tryd.prog 9 #[.slice a0 len0 cap0, .slice a1 len1 cap1, .slice a2 len2 cap2] w fun e w' => e = .returned (.bool true) ∧ Below w.heap.size w w' := by
  by_cases h : 500 < (len0 : Int) ∨ (¬ 500 < (len0 : Int) ∧ 500 < (len1 : Int)) ∨ (¬ 500 < (len0 : Int) ∧ ¬ 500 < (len1 : Int) ∧ 500 < (len2 : Int))
  · exact shaTwo_out a0 a1 a2 len0 len1 len2 cap0 cap1 cap2 w hF hK h
  · exact shaTwo_in cap0 cap1 cap2 w w0.bs.1 w1.bs.1 w2.bs.1 (by omega) (by omega) (by omega) hF hK
end Go.Proofs.YtbidgikibmicdaaDoor
