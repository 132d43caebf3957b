/- The chapter's examples, as the laws of hmac ask them, hold. -/
import Derived.Test.YtmglhfhcljdfcaaDoorHSum
import Derived.Test.YtmglhfhcljdfcaaDoorHTags
import Derived.Test.YtmglhfhcljdfcaaDoorHSame
import Derived.Test.YtmglhfhcljdfcaaDoorShaAwake
import Derived.Deep.Cut
namespace Go.Proofs.YtmglhfhcljdfcaaDoor
open Go.ChangeShapes Go.WideShapes Go.ChangeAt Go.RowKit
set_option linter.unusedVariables false
open Plain Sha
theorem bytes_b1 : IsBytes b_x1 := by unfold IsBytes b_x1; decide
theorem bytes_b2 : IsBytes b_x2 := by unfold IsBytes b_x2; decide
theorem bytes_k2 : IsBytes k_x2 := by unfold IsBytes k_x2; decide
/-- Two tags stored into two new variables. -/
theorem two_tags {w w4 w5 : World} {T R : List Int} (lT : T.length = 32) (lR : R.length = 32)
    (h4 : Hid (w4 = ((w.alloc (.cells (vals (List.replicate 32 0)).toArray 25)).alloc (.cells (vals (List.replicate 32 0)).toArray 25)).setCells w.heap.size 0 (vals T).toArray.toList))
    (h5 : Hid (w5 = w4.setCells (w.heap.size + 1) 0 (vals R).toArray.toList)) :
    w5.rangeAt w.heap.size 0 (vals T) ∧ w5.rangeAt (w.heap.size + 1) 0 (vals R) ∧ Below w.heap.size w w5 ∧ w.heap.size + 1 < w5.heap.size := by
  have t0 : ((w.alloc (.cells (vals (List.replicate 32 0)).toArray 25)).alloc (.cells (vals (List.replicate 32 0)).toArray 25)).there w.heap.size 0 (vals T).length := by
    rw [vals_len, lT]
    exact there_same (by simpa using (Row8.new w (List.replicate 32 0) 25).there) (Below.heap_alloc _ _ _ (by simp))
  have t1 : ((w.alloc (.cells (vals (List.replicate 32 0)).toArray 25)).alloc (.cells (vals (List.replicate 32 0)).toArray 25)).there (w.heap.size + 1) 0 (vals R).length := by
    rw [vals_len, lR]
    have := (Row8.new (w.alloc (.cells (vals (List.replicate 32 0)).toArray 25)) (List.replicate 32 0) 25).there
    simpa using this
  have r4 : w4.rangeAt w.heap.size 0 (vals T) := by rw [h4.out]; exact World.rangeAt_setCells_same _ _ _ _ t0
  have t4 : w4.there (w.heap.size + 1) 0 (vals R).length := by rw [h4.out]; exact World.there_setCells t1 _ _ _
  have b4 : Below w.heap.size w w4 := by rw [h4.out]; exact below_setCells (Nat.le_refl _) _ _ _ (((Below.refl _ _).alloc (Nat.le_refl _) _).alloc (by simp) _)
  have s4 : w4.heap.size = w.heap.size + 1 + 1 := by rw [h4.out, size_setCells]; simp
  refine ⟨?_, ?_, ?_, ?_⟩
  · rw [h5.out]; exact rangeAt_same r4 (heap_setCells _ _ (by omega) _ _ _)
  · rw [h5.out]; exact World.rangeAt_setCells_same _ _ _ _ t4
  · rw [h5.out]; exact below_setCells (by omega) _ _ _ b4
  · rw [h5.out, size_setCells, s4]; omega
theorem two_there (w : World) (T : List Int) (lT : T.length = 32) : ((w.alloc (.cells (vals (List.replicate 32 0)).toArray 25)).alloc (.cells (vals (List.replicate 32 0)).toArray 25)).there w.heap.size 0 (vals T).toArray.size := by
  have e : (vals T).toArray.size = 32 := by rw [List.size_toArray, vals_len, lT]
  rw [e]
  exact there_same (by simpa using (Row8.new w (List.replicate 32 0) 25).there) (Below.heap_alloc _ _ _ (by simp))
theorem two_there' {w w4 : World} {vs : List Value} (R : List Int) (lR : R.length = 32) (h4 : Hid (w4 = ((w.alloc (.cells (vals (List.replicate 32 0)).toArray 25)).alloc (.cells (vals (List.replicate 32 0)).toArray 25)).setCells w.heap.size 0 vs)) : w4.there (w.heap.size + 1) 0 (vals R).toArray.size := by
  have e : (vals R).toArray.size = 32 := by rw [List.size_toArray, vals_len, lR]
  rw [e, h4.out]
  have := (Row8.new (w.alloc (.cells (vals (List.replicate 32 0)).toArray 25)) (List.replicate 32 0) 25).there
  exact World.there_setCells (by simpa using this) _ _ _
set_option maxRecDepth 100000 in
set_option maxHeartbeats 4000000 in
theorem hmacAwake_any (w : World) (hF : LaidF w) (hK : LaidK w) : Calls Tryd.prog 27 #[] w fun e w' => e = .returned (.bool true) ∧ Below w.heap.size w w' := by
  obtain ⟨T, hT⟩ : ∃ T, hmacZ k_x1 b_x1 = T := ⟨_, rfl⟩
  obtain ⟨R, hR⟩ : ∃ R, hmacZ k_x2 b_x2 = R := ⟨_, rfl⟩
  have lT : Hid (T.length = 32) := Lib.hid (by rw [← hT]; exact hmacZ_len _ _)
  have lR : Hid (R.length = 32) := Lib.hid (by rw [← hR]; exact hmacZ_len _ _)
  have bT : Hid (IsBytes T) := Lib.hid (by rw [← hT]; exact hmacZ_bytes _ _)
  have bR : Hid (IsBytes R) := Lib.hid (by rw [← hR]; exact hmacZ_bytes _ _)
  have gT : Hid (T.getD 0 0 = 176 ∧ T.getD 1 0 = 52 ∧ T.getD 30 0 = 207 ∧ T.getD 31 0 = 247) := Lib.hid (by rw [← hT, hmac_x1]; decide)
  have gR : Hid (R.getD 0 0 = 91 ∧ R.getD 1 0 = 220 ∧ R.getD 30 0 = 56 ∧ R.getD 31 0 = 67) := Lib.hid (by rw [← hR, hmac_x2]; decide)
  have eT : Hid (eqB T T = true) := Lib.hid (by simp [eqB])
  have eR : Hid (eqB T R = false) := Lib.hid (by
    have h1 := gT.out.1
    have h2 := gR.out.1
    exact eqB_no_at (k := 0) (by rw [h1, h2]; decide))
  have HT := Lib.hid hT
  have HR := Lib.hid hR
  have hcv := fun (w : World) (C : Array Value) (n c : Nat) => Go.Lib.run_convert_bytes_const (P := Tryd.prog) w 22 5 C n c Tryd.underlying22 Tryd.underlying5
  have hcv2 : ∀ (w : World) (o : Obj) (C : Array Value) (n c : Nat), (convert 22 22 (.slice (some ⟨w.heap.size + 1, 0, none⟩) n c)).run Tryd.prog ((w.alloc o).alloc (.cells C 5)) = .ok (.slice (some ⟨w.heap.size + 1, 0, none⟩) n c) ((w.alloc o).alloc (.cells C 5 (C.size, C.size + 1))) := fun w o C n c => by
    have := hcv (w.alloc o) C n c
    rwa [World.size_alloc] at this
  have hmk : ∀ w : World, (Instr.makeSlice 22 (.int .i64 20) (.int .i64 20)).run Tryd.prog w = .ok (.slice (some ⟨w.heap.size, 0, none⟩) 20 20) (w.alloc (.cells (madeCells #[.int .u8 0] 20) 5)) := make_u8 20 (by omega)
  rw [madeCells_vals] at hmk
  have HF := Lib.hid hF
  have HK := Lib.hid hK
  have HFl := Lib.hid hF.lt
  have HKl := Lib.hid hK.lt
  clear hT hR hF hK
  generalize hZ : List.replicate 20 (0 : Int) = Z0 at hmk
  have HZ0 := Lib.hid hZ
  clear hZ
  go_enter Tryd.func27, Tryd.ntmps27
  go_wp2
  clear hmk
  go_loopw [2] (fun i wr => ∃ k : Nat, k ≤ 20 ∧ i = .int .i64 k ∧ ∃ cs : List Int, Hid (cs.length = 20) ∧ Hid (∀ j, j < k → cs.getD j 0 = 11) ∧ wr = w.alloc (.cells (vals cs).toArray 5)) (fun i _ => 20 - (intOf i).toNat)
  case atStart => exact ⟨0, by omega, rfl, Z0, Lib.hid (by rw [← HZ0.out]; exact List.length_replicate ..), Lib.hid (fun j hj => absurd hj (by omega)), rfl⟩
  case round =>
    obtain ⟨k, hk, rfl, cs, HC, HX, rfl⟩ := hrel
    by_cases hlt : k < 20
    · obtain ⟨u3, hu3⟩ : ∃ u3, (vals cs)[k]? = some u3 := ⟨_, List.getElem?_eq_getElem (by rw [vals_len, HC.out]; omega)⟩
      have HV := Lib.hid (vals_set cs k 11)
      simp only [List.setIfInBounds_toArray] at HV
      have HN : Hid (∀ j, j < k + 1 → (cs.set k 11).getD j 0 = 11) := Lib.hid (fun j hj => by
        rw [getD_set _ _ _ _ (by rw [HC.out]; omega)]
        split
        · rfl
        · exact HX.out j (by omega))
      go_wp2
      go_roundw
      case rel => exact ⟨k + 1, by omega, by go_num, cs.set k 11, Lib.hid (by rw [List.length_set]; exact HC.out), HN, by rw [← HV.out]⟩
      case measure => simp [intOf]; omega
    · have hk20 : k = 20 := by omega
      have HE : Hid (cs = k_x1) := Lib.hid (list_ext_getD (by rw [HC.out]; rfl) (fun j hj => by
        rw [HC.out] at hj
        rw [HX.out j (by omega)]
        unfold k_x1
        rw [rep_at 20 j 11 hj]))
      clear hk20
      obtain ⟨wL, hwL⟩ : ∃ wL, wL = w.alloc (.cells (vals cs).toArray 5) := ⟨_, rfl⟩
      have qL := Lib.hid (show Below w.heap.size w wL by rw [hwL]; exact (Below.refl _ _).alloc (Nat.le_refl _) _)
      have sL : w.heap.size + 1 ≤ wL.heap.size := by rw [hwL]; simp
      have zL := Lib.hid (show Bs wL (w.heap.size + 1) (some ⟨w.heap.size, 0, none⟩) 20 k_x1 by
        rw [hwL, HE.out]
        exact bs_new w k_x1 20 rfl (rep_bytes 20 11 (by omega) (by omega)) 5 _ rfl)
      rw [← hwL]
      clear hwL
      -- REST
      go_wp2_with fail
      refine (hsum_any 20 8 (zL.out.alloc (by omega) _) (bs_newF wL b_x1 8 rfl bytes_b1 5 _ wL.heap.size rfl) (by simp; omega) (by simp) (by omega) (by omega) (HF.out.below (qL.out.alloc qL.out.size _) HFl.out) (HK.out.below (qL.out.alloc qL.out.size _) HKl.out)).mono ?_
      rw [HT.out]
      rintro e w2 ⟨rfl, b2⟩
      have q2 := Lib.hid ((qL.out.alloc qL.out.size _).trans (b2.mono (by simp; omega)))
      clear b2 zL
      go_wp2_with fail
      refine (hsum_any 4 28 ((bs_newF w2 k_x2 4 rfl bytes_k2 5 _ w2.heap.size rfl).alloc (by simp) _) (bs_newF (w2.alloc _) b_x2 28 rfl bytes_b2 5 _ (w2.heap.size + 1) (by simp)) (by simp) (by simp) (by omega) (by omega) (HF.out.below ((q2.out.alloc q2.out.size _).alloc (by have := q2.out.size; simp; omega) _) HFl.out) (HK.out.below ((q2.out.alloc q2.out.size _).alloc (by have := q2.out.size; simp; omega) _) HKl.out)).mono ?_
      rw [HR.out]
      rintro e w3 ⟨rfl, b3⟩
      have q3 := Lib.hid (((q2.out.alloc q2.out.size _).alloc (by have := q2.out.size; simp; omega) _).trans (b3.mono (by have := q2.out.size; simp; omega)))
      clear b3 q2
      have G1 := lT
      go_upto_region 7 with (first
        | (have g := G1; clear g; refine wpList_store_as (op := ⟨none, .store 25 (.tmp 3) (.tmp 16), _, _, _, _⟩) rfl 25 (.tmp 3) (.tmp 16) rfl w3.heap.size 0 (vals T).toArray rfl rfl (two_there w3 T lT.out) (tag_size T lT.out) (all_oneCell_toArray (vals_one T)) ?_; intro w4 hw4; clear G1; have G2 := hw4)
        | (have g := G2; clear g; refine wpList_store_as (op := ⟨none, .store 25 (.tmp 4) (.tmp 21), _, _, _, _⟩) rfl 25 (.tmp 4) (.tmp 21) rfl (w3.heap.size + 1) 0 (vals R).toArray rfl rfl (two_there' R lR.out hw4) (tag_size R lR.out) (all_oneCell_toArray (vals_one R)) ?_; intro w5 hw5; clear G2))
      obtain ⟨r5, r5', b5, s5⟩ := two_tags lT.out lR.out hw4 hw5
      have q5 := Lib.hid (q3.out.trans (b5.mono q3.out.size))
      obtain ⟨xb, hxb⟩ : ∃ g, w3.heap.size = g := ⟨_, rfl⟩
      rw [hxb] at r5 r5' s5
      simp only [hxb]
      have c0 : w5.cell? ⟨xb, 0, none⟩ = some (.int .u8 176) := by have := r5 0 _ (vals_at T 0 (by rw [lT.out]; omega)); rwa [gT.out.1] at this
      have c1 : w5.cell? ⟨xb, 1, none⟩ = some (.int .u8 52) := by have := r5 1 _ (vals_at T 1 (by rw [lT.out]; omega)); rwa [gT.out.2.1] at this
      have c30 : w5.cell? ⟨xb, 30, none⟩ = some (.int .u8 207) := by have := r5 30 _ (vals_at T 30 (by rw [lT.out]; omega)); rwa [gT.out.2.2.1] at this
      have c31 : w5.cell? ⟨xb, 31, none⟩ = some (.int .u8 247) := by have := r5 31 _ (vals_at T 31 (by rw [lT.out]; omega)); rwa [gT.out.2.2.2] at this
      have d0 : w5.cell? ⟨xb + 1, 0, none⟩ = some (.int .u8 91) := by have := r5' 0 _ (vals_at R 0 (by rw [lR.out]; omega)); rwa [gR.out.1] at this
      have d1 : w5.cell? ⟨xb + 1, 1, none⟩ = some (.int .u8 220) := by have := r5' 1 _ (vals_at R 1 (by rw [lR.out]; omega)); rwa [gR.out.2.1] at this
      have d30 : w5.cell? ⟨xb + 1, 30, none⟩ = some (.int .u8 56) := by have := r5' 30 _ (vals_at R 30 (by rw [lR.out]; omega)); rwa [gR.out.2.2.1] at this
      have d31 : w5.cell? ⟨xb + 1, 31, none⟩ = some (.int .u8 67) := by have := r5' 31 _ (vals_at R 31 (by rw [lR.out]; omega)); rwa [gR.out.2.2.2] at this
      have R5 := Lib.hid r5
      have R5' := Lib.hid r5'
      clear hw4 hw5 r5 r5' b5 q3 hxb
      have G3 := lT
      go_wp2_with (first
        | (have g := G3; clear g; refine wpList_load_guard (op := ⟨some 61, .load 25 (.tmp 3), _, _, _, some (38, true)⟩) rfl 25 (.tmp 3) rfl xb 0 rfl (vals T) _ R5.out Tryd.underlying25 rfl (tag_size T lT.out) ?_; refine wpList_load_guard (op := ⟨some 62, .load 25 (.tmp 3), _, _, _, some (38, true)⟩) rfl 25 (.tmp 3) rfl xb 0 rfl (vals T) _ R5.out Tryd.underlying25 rfl (tag_size T lT.out) ?_; clear G3))
      refine (hsame_any T T lT.out lT.out bT.out bT.out w5).mono ?_
      rw [eT.out]
      rintro e w6 ⟨rfl, b6⟩
      have R6 := Lib.hid (rangeAt_same R5.out (b6.block xb (by omega)))
      have R6' := Lib.hid (rangeAt_same R5'.out (b6.block (xb + 1) (by omega)))
      have q6 := Lib.hid (q5.out.trans (b6.mono q5.out.size))
      clear b6 c0 c1 c30 c31 d0 d1 d30 d31 q5
      have G4 := lT
      go_wp2_with (first
        | (have g := G4; clear g; refine wpList_load_guard (op := ⟨some 66, .load 25 (.tmp 3), _, _, _, some (43, true)⟩) rfl 25 (.tmp 3) rfl xb 0 rfl (vals T) _ R6.out Tryd.underlying25 rfl (tag_size T lT.out) ?_; refine wpList_load_guard (op := ⟨some 67, .load 25 (.tmp 4), _, _, _, some (43, true)⟩) rfl 25 (.tmp 4) rfl (xb + 1) 0 rfl (vals R) _ R6'.out Tryd.underlying25 rfl (tag_size R lR.out) ?_; clear G4))
      refine (hsame_any T R lT.out lR.out bT.out bR.out w6).mono ?_
      rw [eR.out]
      rintro e w7 ⟨rfl, b7⟩
      have q7 := Lib.hid (q6.out.trans (b7.mono q6.out.size))
      clear b7 q6
      go_wp2
      go_ret
      exact ⟨rfl, q7.out⟩
end Go.Proofs.YtmglhfhcljdfcaaDoor
