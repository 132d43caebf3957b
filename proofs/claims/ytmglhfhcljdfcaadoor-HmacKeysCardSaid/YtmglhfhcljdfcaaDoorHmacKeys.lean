/- A key of more than 64 bytes does as its tag does, one with bytes 0 behind it as itself. -/
import Derived.Test.YtmglhfhcljdfcaaDoorHAwake
import Derived.Test.YtmglhfhcljdfcaaDoorApp
import Derived.Deep.Cut
namespace Go.Proofs.YtmglhfhcljdfcaaDoor
open Go.ChangeShapes Go.WideShapes Go.ChangeAt Go.RowKit
set_option linter.unusedVariables false
open Plain Sha
set_option maxRecDepth 100000 in
set_option maxHeartbeats 4000000 in
theorem hmacKeys_in {na nb n : Nat} {A0 A1 : Option Addr} (c0 c1 : Nat) {xs bs : List Int} (w : World) (zA : Bs w w.heap.size A0 na xs) (zB : Bs w w.heap.size A1 nb bs)
    (ha : na ≤ 300) (hb : nb ≤ 300) (hn : n ≤ 64) (hF : LaidF w) (hK : LaidK w) :
    Calls Tryd.prog 9 #[.slice A0 na c0, .slice A1 nb c1, .int .i64 (n : Int)] w fun e w' => e = .returned (.bool true) ∧ Below w.heap.size w w' := by
  obtain ⟨T, hT⟩ : ∃ T, hmacZ xs bs = T := ⟨_, rfl⟩
  have lT : Hid (T.length = 32) := Lib.hid (by rw [← hT]; exact hmacZ_len _ _)
  have hE : ∀ w, (binOp .eql 25 (.agg (vals T).toArray) (.agg (vals T).toArray)).run Tryd.prog w = .ok (.bool true) w := fun w => by rw [run_tagEq T T lT.out lT.out w, show eqB T T = true by simp [eqB]]
  have g1 : ¬ 300 < (na : Int) := by omega
  have g2 : ¬ 300 < (nb : Int) := by omega
  have g3 : ¬ (n : Int) < 0 := by omega
  have g4 : ¬ 64 < (n : Int) := by omega
  have ZA := Lib.hid zA
  have ZB := Lib.hid zB
  have HT := Lib.hid hT
  have HF := Lib.hid hF
  have HK := Lib.hid hK
  have HFl := Lib.hid hF.lt
  have HKl := Lib.hid hK.lt
  have LA := Lib.hid zA.len
  have hu := Tryd.underlying25
  have hiT := tag_size T lT.out
  clear hT zA zB hF hK
  go_enter Tryd.func9, Tryd.ntmps9
  go_wp2_with fail
  refine (hmacAwake_any w HF.out HK.out).mono ?_
  rintro e w1 ⟨rfl, b1⟩
  have q1 := Lib.hid b1
  clear b1
  go_wp2_with fail
  refine (hsum_any c0 c1 (ZA.out.belowM q1.out (Nat.le_refl _)) (ZB.out.belowM q1.out (Nat.le_refl _)) q1.out.size q1.out.size (by omega) (by omega) (HF.out.below q1.out HFl.out) (HK.out.below q1.out HKl.out)).mono ?_
  rw [HT.out]
  rintro e w2 ⟨rfl, b2⟩
  have q2 := Lib.hid (q1.out.trans (b2.mono q1.out.size))
  clear b2 q1
  have G := lT
  go_upto_region 6 with (have g := G; clear g; refine wpList_store_as (op := ⟨none, .store 25 (.tmp 7) (.tmp 29), _, _, _, _⟩) rfl 25 (.tmp 7) (.tmp 29) rfl w2.heap.size 0 (vals T).toArray rfl rfl (tag_there w2 T lT.out) (tag_size T lT.out) (all_oneCell_toArray (vals_one T)) ?_; intro w3 hw3; clear G)
  obtain ⟨r3, b3, s3⟩ := stored_tag lT.out hw3
  have q3 := Lib.hid (q2.out.trans (b3.mono q2.out.size))
  have R3 := Lib.hid r3
  obtain ⟨fb, hfb⟩ : ∃ g, w2.heap.size = g := ⟨_, rfl⟩
  rw [hfb] at s3 R3
  simp only [hfb]
  clear hw3 hfb r3 b3 q2
  by_cases hlong : 64 < na
  · have gl : 64 < (na : Int) := by omega
    obtain ⟨S, hS⟩ : ∃ S, shaZ xs = S := ⟨_, rfl⟩
    have lS : Hid (S.length = 32) := Lib.hid (by rw [← hS]; exact shaZ_len32 _)
    have bS : Hid (IsBytes S) := Lib.hid (by rw [← hS]; exact shaZ_bytes _)
    have HST : Hid (hmacZ S bs = T) := Lib.hid (by rw [← HT.out, ← hS, hmacZ_long bs (by rw [LA.out]; exact hlong)])
    have HS := Lib.hid hS
    clear hS hlong
    go_wp2_with fail
    refine (sumB_any c0 (ZA.out.belowM q3.out (Nat.le_refl _)) q3.out.size (by omega) (HF.out.below q3.out HFl.out) (HK.out.below q3.out HKl.out)).mono ?_
    rw [HS.out]
    rintro e w4 ⟨rfl, b4⟩
    have q4 := Lib.hid (q3.out.trans (b4.mono q3.out.size))
    have R4 := Lib.hid (rangeAt_same R3.out (b4.block fb s3))
    have s4 := b4.size
    clear b4 R3 q3
    have G := lS
    go_upto_region 8 with (have g := G; clear g; refine wpList_store_as (op := ⟨none, .store 25 (.tmp 8) (.tmp 34), _, _, _, _⟩) rfl 25 (.tmp 8) (.tmp 34) rfl w4.heap.size 0 (vals S).toArray rfl rfl (tag_there w4 S lS.out) (tag_size S lS.out) (all_oneCell_toArray (vals_one S)) ?_; intro w5 hw5; clear G)
    obtain ⟨r5, b5, s5⟩ := stored_tag lS.out hw5
    have q5 := Lib.hid (q4.out.trans (b5.mono q4.out.size))
    have R5 := Lib.hid (rangeAt_same R4.out (b5.block fb (by omega)))
    have Z5 := Lib.hid (bs_range r5 lS.out bS.out).drew
    obtain ⟨sb, hsb⟩ : ∃ g, w4.heap.size = g := ⟨_, rfl⟩
    rw [hsb] at s5 Z5 s4
    simp only [hsb]
    have hfb5 : fb < w5.heap.size := by omega
    have ZB5 := Lib.hid (ZB.out.belowM q5.out.drew (Nat.le_refl _))
    have LF := Lib.hid (HF.out.below q5.out.drew HFl.out)
    have LK := Lib.hid (HK.out.below q5.out.drew HKl.out)
    have S5 := Lib.hid q5.out.size
    have hsb5 : sb + 1 ≤ w5.heap.size := s5
    clear hw5 hsb r5 b5 R4 q4
    refine wp_region_noPanic ?_
    refine wp_region_held_drew (S := fun w' => w'.rangeAt fb 0 (vals T)) (by kernel_rfl) R5.out (fun hHeld => ?_)
    refine wpAnyH_take (i := 0) (oi := ⟨some 35, .slice 25 (.tmp 8) none none none, _, _, _, _⟩) (v := .slice (some ⟨sb, 0, none⟩) 32 32) rfl (by kernel_rfl) (by kernel_rfl) (by kernel_rfl) (fun _ _ _ h => h) (Or.inl ⟨by rfl, fun w hSw => ?_⟩) (by assumption) ?_
    · go_simp
    try simp only [Act.put, List.setIfInBounds_toArray, List.set_cons_zero, List.set_cons_succ]
    refine wpAnyH_take (i := 1) (oi := ⟨some 36, .move (.tmp 1), _, _, _, _⟩) (v := .slice A1 nb c1) rfl (by kernel_rfl) (by kernel_rfl) (by kernel_rfl) (fun _ _ _ h => h) (Or.inl ⟨by rfl, fun w hSw => ?_⟩) (by assumption) ?_
    · go_simp
    try simp only [Act.put, List.setIfInBounds_toArray, List.set_cons_zero, List.set_cons_succ]
    refine wpAnyH_take (i := 3) (oi := ⟨some 38, .load 25 (.tmp 7), _, _, _, _⟩) (v := _) rfl (by kernel_rfl) (by kernel_rfl) (by kernel_rfl) (fun _ _ _ h => h) (yieldsIf_load_mid (by rfl) _ _ rfl _ _ rfl (vals T) _ (fun _ h => h) hu rfl hiT) (by assumption) ?_
    try simp only [Act.put, List.setIfInBounds_toArray, List.set_cons_zero, List.set_cons_succ]
    refine wpAnyH_ready (rs := [2]) (by kernel_rfl) (by simp) ?_
    refine AllReadyH.cons (o := ⟨some 37, .call { callee := .value (.func 23), args := #[.tmp 35, .tmp 36], argTypes := #[22, 22] }, _, _, _, _⟩) rfl (fun K hK => ?_) AllReadyH.nil
    go_simp
    refine (hsum_any 32 c1 Z5.out ZB5.out hsb5 S5.out (by omega) (by omega) LF.out LK.out).mono ?_
    rw [HST.out]
    rintro e w6 ⟨rfl, b6⟩
    have r6 := rangeAt_same R5.out (b6.block fb hfb5)
    have q6 := Lib.hid (q5.out.drew.trans (b6.mono S5.out))
    clear b6
    go_wp2_with fail
    refine hK.out _ _ r6 (fun hHeld2 => ?_)
    clear hK K hHeld
    have hHeld := hHeld2
    clear hHeld2
    try simp only [Act.put, List.setIfInBounds_toArray, List.set_cons_zero, List.set_cons_succ]
    refine wpAnyH_take (i := 4) (oi := ⟨some 39, .binOp .eql 25 (.tmp 37) (.tmp 38) 25, _, _, _, _⟩) (v := .bool true) rfl (by kernel_rfl) (by kernel_rfl) (by kernel_rfl) (fun _ _ _ h => h) (Or.inl ⟨by rfl, fun w hSw => ?_⟩) (by assumption) ?_
    · go_simp
    try simp only [Act.put, List.setIfInBounds_toArray, List.set_cons_zero, List.set_cons_succ]
    refine wpAnyH_take (i := 5) (oi := ⟨some 6, .assign (.tmp 39), _, _, _, _⟩) (v := .bool true) rfl (by kernel_rfl) (by kernel_rfl) (by kernel_rfl) (fun _ _ _ h => h) (Or.inl ⟨by rfl, fun w hSw => ?_⟩) (by assumption) ?_
    · go_simp
    try simp only [Act.put, List.setIfInBounds_toArray, List.set_cons_zero, List.set_cons_succ]
    refine wpAnyH_done (by kernel_rfl) ?_ _
    refine NoPanic.normal ?_
    go_wp2
    go_ret
    exact ⟨rfl, q6.out⟩
  · have gl : ¬ 64 < (na : Int) := by omega
    have gw : IntKind.i64.wrap ((na : Int) + (n : Int)) = (na : Int) + (n : Int) := by rw [IntKind.wrap_i64]; omega
    by_cases hsum : 64 < na + n
    · have gs : 64 < (na : Int) + (n : Int) := by omega
      go_wp2
      go_ret
      exact ⟨rfl, q3.out⟩
    · have gs : ¬ 64 < (na : Int) + (n : Int) := by omega
      have hmk := make_u8 n (by omega)
      rw [madeCells_vals] at hmk
      have HST : Hid (hmacZ (xs ++ List.replicate n 0) bs = T) := Lib.hid (by rw [← HT.out, hmacZ_more bs n (by rw [LA.out]; omega)])
      have HL : Hid ((xs ++ List.replicate n 0).length = na + n) := Lib.hid (by rw [List.length_append, LA.out, List.length_replicate])
      have hfb3 : fb < w3.heap.size := by omega
      have Q0 : Hid (Below w.heap.size w (w3.drew.alloc (.cells (vals (List.replicate n 0)).toArray 5))) := Lib.hid (q3.out.drew.alloc q3.out.size _)
      have C2 := Lib.hid (cat2_any (w := w3.drew.alloc (.cells (vals (List.replicate n 0)).toArray 5)) c0 n 22 ((ZA.out.belowM q3.out.drew (Nat.le_refl _)).alloc q3.out.size _) (bs_new w3.drew _ n (List.length_replicate ..) (rep_bytes _ _ (by omega) (by omega)) 5 w3.heap.size rfl) (by show w.heap.size ≤ (w3.drew.alloc _).heap.size; have := q3.out.size; rw [World.size_alloc]; show _ ≤ w3.heap.size + 1; omega) (by rw [World.size_alloc]; exact Nat.le_refl _) (by omega) 2 (w3.heap.size + 1) (by rw [World.size_alloc]; rfl))
      have BZ := Lib.hid (ZA.out.isBytes.app (rep_bytes n 0 (by omega) (by omega)))
      clear hsum
      go_wp2
      go_region_held3 (fun w' => w'.rangeAt fb 0 (vals T))
        (first
          | (exact R3.out)
          | (exact r6)
          | (exact r5)
          | (exact rangeAt_same R3.out (Below.heap_alloc _ _ _ hfb3))
          | (exact rangeAt_same R3.out ((Below.heap_alloc _ _ _ (by simp; omega)).trans (Below.heap_alloc _ _ _ hfb3))))
        ((first
          | (go_at_call 28; refine C2.out.mono ?_; intro e w5 hm5; obtain ⟨D5, d5, rfl, ho5, hb5, _, _⟩ := hm5.n HL.out; have q5 : Below w.heap.size w w5 := (Q0.out.alloc Q0.out.size _).trans (hb5.mono (Nat.le_trans Q0.out.size (by simp))); have r5 : w5.rangeAt fb 0 (vals T) := rangeAt_same R3.out ((hb5.block fb (by simp; omega)).trans ((Below.heap_alloc _ _ _ (by simp; omega)).trans (Below.heap_alloc _ _ _ hfb3))); have z5 := Made.bs ho5 BZ.out; have s5 : fb < w5.heap.size := Nat.lt_of_lt_of_le (by simp; omega) hb5.size)
          | (go_at_call 23; refine (hsum_any d5 c1 z5 (ZB.out.belowM q5 (Nat.le_refl _)) (Nat.le_refl _) q5.size (by omega) (by omega) (HF.out.below q5 HFl.out) (HK.out.below q5 HKl.out)).mono ?_; rw [HST.out]; rintro e w6 ⟨rfl, b6⟩; have r6 := rangeAt_same r5 (b6.block fb s5); have q6 : Below w.heap.size w w6 := q5.trans (b6.mono q5.size))))
      all_goals
        have q6' := Lib.hid q6
        clear q6 r6 b6 z5 ho5 hb5 hm5 hE
        go_wp2
        go_ret
        exact ⟨rfl, q6'.out⟩
set_option maxRecDepth 100000 in
set_option maxHeartbeats 2000000 in
theorem hmacKeys_out (A0 A1 : Option Addr) (na nb c0 c1 : Nat) (n : Int) (w : World) (hF : LaidF w) (hK : LaidK w) (h : 300 < (na : Int) ∨ (¬ 300 < (na : Int) ∧ 300 < (nb : Int)) ∨ (¬ 300 < (na : Int) ∧ ¬ 300 < (nb : Int) ∧ n < 0) ∨ (¬ 300 < (na : Int) ∧ ¬ 300 < (nb : Int) ∧ ¬ n < 0 ∧ 64 < n)) :
    Calls Tryd.prog 9 #[.slice A0 na c0, .slice A1 nb c1, .int .i64 n] w fun e w' => e = .returned (.bool true) ∧ Below w.heap.size w w' := by
  rcases h with h | ⟨h1, h2⟩ | ⟨h1, h2, h3⟩ | ⟨h1, h2, h3, h4⟩
  all_goals
    go_enter Tryd.func9, Tryd.ntmps9
    go_wp2_with fail
    refine (hmacAwake_any w hF hK).mono ?_
    rintro e w1 ⟨rfl, b1⟩
    go_wp2
    go_ret
    exact ⟨rfl, b1⟩
theorem hmacKeys_any (a0 : Option Addr) (len0 cap0 : Nat) (z0 : List Int) (a1 : Option Addr) (len1 cap1 : Nat) (z1 : List Int) (n : Int) (w : World)
    (w0 : IsRow .u8 w a0 len0 cap0 z0) (w1 : IsRow .u8 w a1 len1 cap1 z1) (wn : (Lit.int .i64 n).wf = true) (hF : LaidF w) (hK : LaidK w) :
    Calls Tryd.prog 9 #[.slice a0 len0 cap0, .slice a1 len1 cap1, .int .i64 n] w fun e w' => e = .returned (.bool true) ∧ Below w.heap.size w w' := by
  by_cases h : 300 < (len0 : Int) ∨ (¬ 300 < (len0 : Int) ∧ 300 < (len1 : Int)) ∨ (¬ 300 < (len0 : Int) ∧ ¬ 300 < (len1 : Int) ∧ n < 0) ∨ (¬ 300 < (len0 : Int) ∧ ¬ 300 < (len1 : Int) ∧ ¬ n < 0 ∧ 64 < n)
  · exact hmacKeys_out a0 a1 len0 len1 cap0 cap1 n w hF hK h
  · obtain ⟨m, rfl⟩ := Int.eq_ofNat_of_zero_le (show 0 ≤ n by omega)
    exact hmacKeys_in cap0 cap1 w w0.bs.1 w1.bs.1 (by omega) (by omega) (by omega) hF hK
end Go.Proofs.YtmglhfhcljdfcaaDoor
