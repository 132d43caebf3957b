/- The document's own answer for hmac: Sum, Form, Derive. -/
import Derived.Test.YtmglhfhcljdfcaaDoorR4
namespace Go.Proofs.YtmglhfhcljdfcaaDoor
open Go.ChangeShapes Go.WideShapes Go.ChangeAt Go.RowKit
set_option linter.unusedVariables false
open Plain Sha
set_option maxRecDepth 100000 in
set_option maxHeartbeats 4000000 in
theorem refhsum_any {w : World} {B1 B2 : Nat} {A1 A2 : Option Addr} {n1 n2 : Nat} (c1 c2 : Nat) {ks zs : List Int} (hk : Bs w B1 A1 n1 ks) (hz : Bs w B2 A2 n2 zs) (hB1 : B1 ≤ w.heap.size) (hB2 : B2 ≤ w.heap.size) (hn1 : n1 ≤ 10000) (hn2 : n2 ≤ 10000) :
    Calls Tryd.prog 24 #[.slice A1 n1 c1, .slice A2 n2 c2] w fun e w' => e = .returned (.agg (vals (hmacZ ks zs)).toArray) ∧ Below w.heap.size w w' := by
  obtain ⟨I, hI⟩ : ∃ I, shaZ (blockZ ks 54 ++ zs) = I := ⟨_, rfl⟩
  obtain ⟨T, hT⟩ : ∃ T, hmacZ ks zs = T := ⟨_, rfl⟩
  have hT2 : shaZ (blockZ ks 92 ++ I) = T := by rw [← hT, ← hI]; rfl
  have lI : I.length = 32 := by rw [← hI]; exact shaZ_len32 _
  have lT : T.length = 32 := by rw [← hT]; exact hmacZ_len _ _
  have bI : IsBytes I := by rw [← hI]; exact shaZ_bytes _
  have X1 := Lib.hid (blockZ_bytes hk.isBytes 54 (by omega) (by omega))
  have X2 := Lib.hid (blockZ_bytes hk.isBytes 92 (by omega) (by omega))
  have L1 : Hid ((blockZ ks 54 ++ zs).length = 64 + n2) := Lib.hid (by rw [List.length_append, blockZ_len, hz.len])
  have L2 : Hid ((blockZ ks 92 ++ I).length = 96) := Lib.hid (by rw [List.length_append, blockZ_len, lI])
  have K1 := Lib.hid (blockZ_len ks 54)
  have K2 := Lib.hid (blockZ_len ks 92)
  have ZB := Lib.hid hz.isBytes
  obtain ⟨W0, hW0⟩ : ∃ W0, W0 = w.alloc (.cells (vals (List.replicate 32 0)).toArray 25) := ⟨_, rfl⟩
  have b0 : Below w.heap.size w W0 := by rw [hW0]; exact (Below.refl _ _).alloc (Nat.le_refl _) _
  have s0 : w.heap.size < W0.heap.size := by rw [hW0]; simp
  have g0 : W0.there w.heap.size 0 32 := by rw [hW0]; simpa using (Row8.new w (List.replicate 32 0) 25).there
  have HW0 := Lib.hid hW0
  have HI := Lib.hid hI
  have HT := Lib.hid hT
  have HT2 := Lib.hid hT2
  have LI := Lib.hid lI
  have LT := Lib.hid lT
  have HBI := Lib.hid bI
  have HKEY := Lib.hid hk
  have HZ := Lib.hid hz
  have B0 := Lib.hid b0
  have G0 := Lib.hid g0
  clear hI hT hT2 lI lT bI hW0 hk hz b0 g0
  go_enter Tryd.func24, Tryd.ntmps24
  go_wp2_with fail
  refine (show Calls Tryd.prog _ _ (w.alloc (.cells (vals (List.replicate 32 0)).toArray 25)) _ from ?_)
  rw [← HW0.out]
  refine (refblock_any c1 54 (by omega) (by omega) (HKEY.out.belowM B0.out hB1) (by omega) (by omega)).mono ?_
  intro e w1 hm1
  obtain ⟨D1, d1, rfl, ho1, b1, _, _⟩ := hm1.n K1.out
  have z1 := Lib.hid (Made.bs ho1 X1.out)
  have q1 := Lib.hid (B0.out.trans (b1.mono (by omega)))
  have g1 := Lib.hid (there_same G0.out (b1.block _ s0))
  have s1 : w.heap.size < w1.heap.size := Nat.lt_of_lt_of_le s0 b1.size
  clear hm1 ho1 b1
  go_wp2_with fail
  refine (refcat_any d1 c2 z1.out (HZ.out.belowM q1.out hB2) (Nat.le_refl _) (by omega) (by omega)).mono ?_
  intro e w2 hm2
  obtain ⟨D2, d2, rfl, ho2, b2, _, _⟩ := hm2.n L1.out
  have z2 := Lib.hid (Made.bs ho2 (X1.out.app ZB.out))
  have q2 := Lib.hid (q1.out.trans (b2.mono (by omega)))
  have g2 := Lib.hid (there_same g1.out (b2.block _ s1))
  have s2 : w.heap.size < w2.heap.size := Nat.lt_of_lt_of_le s1 b2.size
  clear hm2 ho2 b2 z1 q1 g1
  go_wp2_with fail
  refine (refsum_any d2 z2.out (Nat.le_refl _) (by omega)).mono ?_
  rw [HI.out]
  rintro e w3 ⟨rfl, b3⟩
  have q3 := Lib.hid (q2.out.trans (b3.mono (by omega)))
  have g3 := Lib.hid (there_same g2.out (b3.block _ s2))
  have s3 : w.heap.size < w3.heap.size := Nat.lt_of_lt_of_le s2 b3.size
  clear b3 z2 q2 g2
  have G := LI
  go_upto_region 2 with (have g := G; clear g; refine wpList_store_as (op := ⟨none, .store 25 (.tmp 5) (.tmp 10), _, _, _, _⟩) rfl 25 (.tmp 5) (.tmp 10) rfl w3.heap.size 0 (vals I).toArray rfl rfl (tag_there w3 I LI.out) (tag_size I LI.out) (all_oneCell_toArray (vals_one I)) ?_; intro w4 hw4; clear G)
  obtain ⟨r4, b4, s4⟩ := stored_tag LI.out hw4
  have q4 := Lib.hid (q3.out.trans (b4.mono (by omega)))
  have g4 := Lib.hid (there_same g3.out (b4.block _ s3))
  obtain ⟨ib, hib⟩ : ∃ g, w3.heap.size = g := ⟨_, rfl⟩
  rw [hib] at s4 r4 s3
  simp only [hib]
  have R4 := Lib.hid r4
  have hib4 : ib < w4.heap.size := s4
  clear hw4 hib r4 b4 g3 q3
  have hu := Tryd.underlying25
  have hi := tag_size T LT.out
  have hiI := tag_size I LI.out
  have hl32 : (vals T).length = 32 := by rw [vals_len, LT.out]
  have h1c := vals_one T
  have S4 := Lib.hid q4.out.size
  have C92 := Lib.hid (refblock_any c1 92 (by omega) (by omega) (w := w4.drew) (HKEY.out.belowM q4.out.drew hB1) (Nat.le_trans hB1 S4.out) (by omega))
  go_region_held3 (fun w' => w'.rangeAt ib 0 (vals I) ∧ w'.there w.heap.size 0 32)
    (first
      | (exact ⟨R4.out, g4.out⟩)
      | (exact ⟨rangeAt_same r8 (heap_setCells _ _ (by omega) _ _ _), World.there_setCells g8 _ _ _⟩)
      | (exact ⟨r8, g8⟩)
      | (exact ⟨r7, g7⟩)
      | (exact ⟨r6, g6⟩)
      | (exact ⟨r5, g5⟩))
    ((first
      | (go_at_call 42; refine C92.out.mono ?_; intro e w5 hm5; obtain ⟨D5, d5, rfl, ho5, b5, _, _⟩ := hm5.n K2.out; have q5 : Below w.heap.size w w5 := q4.out.drew.trans (b5.mono S4.out); have g5 : w5.there w.heap.size 0 32 := there_same g4.out (b5.block _ (by show w.heap.size < w4.heap.size; omega)); have r5 : w5.rangeAt ib 0 (vals I) := rangeAt_same R4.out (b5.block _ hib4); have z5 := Made.bs ho5 X2.out; have s5 : w4.heap.size ≤ w5.heap.size := b5.size)
      | (go_at_call 43; refine (refbytes_any I LI.out HBI.out w5).mono ?_; intro e w6 hm6; obtain ⟨D6, d6, rfl, ho6, b6, _, _⟩ := hm6.n LI.out; have q6 : Below w.heap.size w w6 := q5.trans (b6.mono q5.size); have g6 : w6.there w.heap.size 0 32 := there_same g5 (b6.block _ (by omega)); have r6 : w6.rangeAt ib 0 (vals I) := rangeAt_same r5 (b6.block _ (by omega)); have z6 := Made.bs ho6 HBI.out; have z56 := z5.belowM b6 (Nat.le_refl _); have s6 : w5.heap.size ≤ w6.heap.size := b6.size)
      | (go_at_call 31; refine (refcat_any d5 d6 z56 z6 s6 (Nat.le_refl _) (by omega)).mono ?_; intro e w7 hm7; obtain ⟨D7, d7, rfl, ho7, b7, _, _⟩ := hm7.n L2.out; have q7 : Below w.heap.size w w7 := q6.trans (b7.mono q6.size); have g7 : w7.there w.heap.size 0 32 := there_same g6 (b7.block _ (by omega)); have r7 : w7.rangeAt ib 0 (vals I) := rangeAt_same r6 (b7.block _ (by omega)); have z7 := Made.bs ho7 (X2.out.app HBI.out); have s7 : w6.heap.size ≤ w7.heap.size := b7.size)
      | (go_at_call 15; refine (refsum_any d7 z7 (Nat.le_refl _) (by omega)).mono ?_; rw [HT2.out]; rintro e w8 ⟨rfl, b8⟩; have q8 : Below w.heap.size w w8 := q7.trans (b8.mono q7.size); have g8 : w8.there w.heap.size 0 32 := there_same g7 (b8.block _ (by omega)); have r8 : w8.rangeAt ib 0 (vals I) := rangeAt_same r7 (b8.block _ (by omega)))))
  have R9 := Lib.hid (World.rangeAt_setCells_same w8 w.heap.size 0 (vals T) (by rw [hl32]; exact g8))
  have q9 := Lib.hid (below_setCells (Nat.le_refl w.heap.size) (vals T) 0 w8 q8)
  have hi' := Lib.hid hi
  clear hi hiI hu hl32 h1c q5 q6 q7 q8 g5 g6 g7 g8 r5 r6 r7 r8 z5 z6 z56 z7 ho5 ho6 ho7 b5 b6 b7 b8 hm5 hm6 hm7
  go_wp2
  exact bodyPost_ret (v := .agg (vals T).toArray) (results_mid (p := 4) (ty := 25) rfl _ _ w.heap.size 0 (vals T) _ rfl R9.out Tryd.underlying25 rfl hi'.out) rfl ⟨by rw [HT.out], q9.out⟩
end Go.Proofs.YtmglhfhcljdfcaaDoor
