/- The HMAC of a key and bytes, as the program's Sum tells it. -/
import Derived.Test.YtmglhfhcljdfcaaDoorHBlk
namespace Go.Proofs.YtmglhfhcljdfcaaDoor
open Go.ChangeShapes Go.WideShapes Go.ChangeAt Go.RowKit
set_option linter.unusedVariables false
open Plain Sha
set_option maxRecDepth 100000 in
set_option maxHeartbeats 4000000 in
theorem hsum_any {w : World} {B1 B2 : Nat} {A1 A2 : Option Addr} {n1 n2 : Nat} (c1 c2 : Nat) {ks zs : List Int} (hk : Bs w B1 A1 n1 ks) (hz : Bs w B2 A2 n2 zs) (hB1 : B1 ≤ w.heap.size) (hB2 : B2 ≤ w.heap.size) (hn1 : n1 ≤ 1000000) (hn2 : n2 ≤ 1000000) (hF : LaidF w) (hK : LaidK w) :
    Calls Tryd.prog 23 #[.slice A1 n1 c1, .slice A2 n2 c2] w fun e w' => e = .returned (.agg (vals (hmacZ ks zs)).toArray) ∧ Below w.heap.size w w' := by
  obtain ⟨I, hI⟩ : ∃ I, shaZ (xorZ (keyZ ks) (List.replicate 64 54) ++ zs) = I := ⟨_, rfl⟩
  obtain ⟨T, hT⟩ : ∃ T, hmacZ ks zs = T := ⟨_, rfl⟩
  have hT2 : shaZ (xorZ (keyZ ks) (List.replicate 64 92) ++ I) = T := by rw [← hT, ← hI]; rfl
  have lI : I.length = 32 := by rw [← hI]; exact shaZ_len32 _
  have lT : T.length = 32 := by rw [← hT]; exact hmacZ_len _ _
  have bI : IsBytes I := by rw [← hI]; exact shaZ_bytes _
  have kb := keyZ_bytes hk.isBytes
  have X1 := Lib.hid (xorZ_bytes kb (rep_bytes 64 54 (by omega) (by omega)))
  have X2 := Lib.hid (xorZ_bytes kb (rep_bytes 64 92 (by omega) (by omega)))
  have L1 : Hid ((xorZ (keyZ ks) (List.replicate 64 54) ++ zs).length = 64 + n2) := Lib.hid (by rw [List.length_append, xorZ_len, keyZ_len, List.length_replicate, hz.len]; rfl)
  have L2 : Hid ((xorZ (keyZ ks) (List.replicate 64 92) ++ I).length = 96) := Lib.hid (by rw [List.length_append, xorZ_len, keyZ_len, List.length_replicate, lI]; rfl)
  have ZB := Lib.hid hz.isBytes
  obtain ⟨W0, hW0⟩ : ∃ W0, W0 = w.alloc (.cells (vals (List.replicate 32 0)).toArray 25) := ⟨_, rfl⟩
  have b0 : Below w.heap.size w W0 := by rw [hW0]; exact (Below.refl _ _).alloc (Nat.le_refl _) _
  have s0 : W0.heap.size = w.heap.size + 1 := by rw [hW0]; simp
  have g0 : W0.there w.heap.size 0 32 := by rw [hW0]; simpa using (Row8.new w (List.replicate 32 0) 25).there
  have HFl := Lib.hid hF.lt
  have HKl := Lib.hid hK.lt
  have HW0 := Lib.hid hW0
  have HI := Lib.hid hI
  have HT := Lib.hid hT
  have HT2 := Lib.hid hT2
  have LI := Lib.hid lI
  have LT := Lib.hid lT
  have HBI := Lib.hid bI
  have HKEY := Lib.hid hk
  have HZ := Lib.hid hz
  have HF := Lib.hid hF
  have HK := Lib.hid hK
  clear hI hT hT2 lI lT bI kb hW0 hk hz hF hK
  go_enter Tryd.func23, Tryd.ntmps23
  go_wp2_with fail
  refine (show Calls Tryd.prog _ _ (w.alloc (.cells (vals (List.replicate 32 0)).toArray 25)) _ from ?_)
  rw [← HW0.out]
  refine (hblocks_any c1 (HKEY.out.belowM b0 hB1) (by omega) (by omega) (HF.out.below b0 HFl.out) (HK.out.below b0 HKl.out)).mono ?_
  rintro e w1 ⟨g, rfl, k1, hg1, b1⟩
  have q1 := Lib.hid (b0.trans (b1.mono (by omega)))
  have g1 := Lib.hid (there_same g0 (b1.block _ (by omega)))
  have K1 := Lib.hid k1
  have s1 := k1.lt
  clear b1 k1 g0 b0
  go_wp2_with fail
  refine (hblk_any 54 (by omega) (by omega) K1.out).mono ?_
  rintro e w2 ⟨D2, c2', rfl, z2, b2⟩
  have q2 := Lib.hid (q1.out.trans (b2.mono q1.out.size))
  have g2 := Lib.hid (there_same g1.out (b2.block _ (by omega)))
  have K2 := Lib.hid (K1.out.below b2 s1)
  have s2 := b2.size
  have C2 := Lib.hid (cat2_any (w := w2) c2' c2 22 z2 (HZ.out.belowM q2.out hB2) (Nat.le_refl _) (Nat.le_trans hB2 q2.out.size) (by omega) 2 w2.heap.size rfl)
  clear b2 z2 K1 g1 q1
  go_wp2_with fail
  refine C2.out.mono ?_
  intro e w3 hm3
  obtain ⟨D3, c3, rfl, ho3, hb3, _, _⟩ := hm3.n L1.out
  have q3 := Lib.hid ((q2.out.alloc q2.out.size _).trans (hb3.mono (by have := q2.out.size; simp; omega)))
  have g3 := Lib.hid (there_same g2.out ((hb3.block _ (by simp; omega)).trans (Below.heap_alloc _ _ _ (by omega))))
  have K3 := Lib.hid ((K2.out.below ((Below.refl _ _).alloc (Nat.le_refl _) _) (by omega)).below hb3 (by simp; omega))
  have z3 := Made.bs ho3 (X1.out.app ZB.out)
  have s3 : w2.heap.size < w3.heap.size := Nat.lt_of_lt_of_le (by simp) hb3.size
  clear hm3 ho3 hb3 C2 K2 g2 q2
  go_wp2_with fail
  refine (sumB_any c3 z3 (Nat.le_refl _) (by omega) (HF.out.below q3.out HFl.out) (HK.out.below q3.out HKl.out)).mono ?_
  rw [HI.out]
  rintro e w4 ⟨rfl, b4⟩
  have q4 := Lib.hid (q3.out.trans (b4.mono q3.out.size))
  have g4 := Lib.hid (there_same g3.out (b4.block _ (by omega)))
  have K4 := Lib.hid (K3.out.below b4 (by omega))
  have s4 := b4.size
  clear b4 z3 K3 g3 q3
  have G := LI
  go_upto_region 3 with (have g := G; clear g; refine wpList_store_as (op := ⟨none, .store 25 (.tmp 6) (.tmp 14), _, _, _, _⟩) rfl 25 (.tmp 6) (.tmp 14) rfl w4.heap.size 0 (vals I).toArray rfl rfl (tag_there w4 I LI.out) (tag_size I LI.out) (all_oneCell_toArray (vals_one I)) ?_; intro w5 hw5; clear G)
  obtain ⟨r5, b5, s5⟩ := stored_tag LI.out hw5
  have q5 := Lib.hid (q4.out.trans (b5.mono q4.out.size))
  have g5 := Lib.hid (there_same g4.out (b5.block _ (by omega)))
  have K5 := Lib.hid (K4.out.below b5 (by omega))
  have z5 := Lib.hid (bs_range r5 LI.out HBI.out)
  obtain ⟨ib, hib⟩ : ∃ g, w4.heap.size = g := ⟨_, rfl⟩
  rw [hib] at s5 s4 z5
  simp only [hib]
  clear hw5 hib r5 b5 K4 g4 q4
  have hu := Tryd.underlying25
  have hi := tag_size T LT.out
  have hl32 : (vals T).length = 32 := by rw [vals_len, LT.out]
  have h1c := vals_one T
  have B92 := Lib.hid (hblk_any 92 (by omega) (by omega) (w := w5.drew) (g := g) (ks := keyZ ks) (K5.out.below (Below.refl w5.heap.size w5).drew K5.out.lt))
  go_region_held3 (fun w' => w'.there w.heap.size 0 32)
    (first
      | (exact g5.out)
      | (exact World.there_setCells g8 _ _ _)
      | (exact g8)
      | (exact g7)
      | (exact there_same g6 (Below.heap_alloc _ _ _ (by omega)))
      | (exact g6))
    ((first
      | (go_at_call 52; refine B92.out.mono ?_; rintro e w6 ⟨D6, c6, rfl, z6, b6⟩; have q6 : Below w.heap.size w w6 := q5.out.drew.trans (b6.mono q5.out.size); have g6 : w6.there w.heap.size 0 32 := there_same g5.out (b6.block _ (by show w.heap.size < w5.heap.size; omega)); have s6 : w5.heap.size ≤ w6.heap.size := b6.size; have z56 : Bs w6 (ib + 1) (some ⟨ib, 0, none⟩) 32 I := (z5.out.drew).belowM b6 (by show ib + 1 ≤ w5.heap.size; omega))
      | (go_at_call 28; refine (cat2_any (w := w6) c6 32 22 z6 z56 (Nat.le_refl _) (by omega) (by omega) 2 _ rfl).mono ?_; intro e w7 hm7; obtain ⟨D7, c7, rfl, ho7, hb7, _, _⟩ := hm7.n L2.out; have q7 : Below w.heap.size w w7 := (q6.alloc q6.size _).trans (hb7.mono (by have := q6.size; simp; omega)); have g7 : w7.there w.heap.size 0 32 := there_same g6 ((hb7.block _ (by simp; omega)).trans (Below.heap_alloc _ _ _ (by omega))); have z7 := Made.bs ho7 (X2.out.app HBI.out); have s7 : w6.heap.size < w7.heap.size := Nat.lt_of_lt_of_le (by simp) hb7.size)
      | (go_at_call 14; refine (sumB_any c7 z7 (Nat.le_refl _) (by omega) (HF.out.below q7 HFl.out) (HK.out.below q7 HKl.out)).mono ?_; rw [HT2.out]; rintro e w8 ⟨rfl, b8⟩; have q8 : Below w.heap.size w w8 := q7.trans (b8.mono q7.size); have g8 : w8.there w.heap.size 0 32 := there_same g7 (b8.block _ (by omega)))))
  have R9 := World.rangeAt_setCells_same w8 w.heap.size 0 (vals T) (by rw [hl32]; exact g8)
  have q9 : Below w.heap.size w (w8.setCells w.heap.size 0 (vals T)) := below_setCells (Nat.le_refl _) _ _ _ q8
  have R9' := Lib.hid R9
  have q9' := Lib.hid q9
  have hi' := Lib.hid hi
  clear R9 q9 hi hu hl32 h1c q6 q7 q8 g6 g7 g8 z6 z56 z7 ho7 hb7 hm7
  go_wp2
  exact bodyPost_ret (v := .agg (vals T).toArray) (results_mid (p := 4) (ty := 25) rfl _ _ w.heap.size 0 (vals T) _ rfl R9'.out Tryd.underlying25 rfl hi'.out) rfl ⟨by rw [HT.out], q9'.out⟩
end Go.Proofs.YtmglhfhcljdfcaaDoor
