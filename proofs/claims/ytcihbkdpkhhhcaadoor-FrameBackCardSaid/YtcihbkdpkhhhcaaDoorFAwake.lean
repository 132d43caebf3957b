/- The chapter's examples, as the laws of frame ask them, hold. -/
import Derived.Test.YtcihbkdpkhhhcaaDoorFZ
namespace Go.Proofs.YtcihbkdpkhhhcaaDoor
open Go.ChangeShapes Go.WideShapes Go.ChangeAt Go.RowKit
set_option linter.unusedVariables false
open Plain Sha
theorem next_yes {w : World} {B : Nat} {A : Option Addr} {n : Nat} (c : Nat) {bs ps : List Int} {m : Nat} {k : Int} (hz : Bs w B A n bs) (hB : B ≤ w.heap.size) (hn : n ≤ 100000000) (hc : n ≤ c) (hF : LaidF w) (hK : LaidK w) (hm : firstZ bs = some m) (hp : (bs.drop 4).take m = ps) (hk : (m : Int) + 12 = k) :
    Calls Tryd.prog 13 #[.slice A n c] w fun e w' => ∃ A' c', e = .returned (.tuple #[.slice A' m c', .int .i64 k, .int .i64 0]) ∧ w'.ownsRow w.heap.size 5 1 (.slice A' m c') m (vals ps) ∧ Below w.heap.size w w' ∧ m ≤ c' ∧ c' ≤ maxLen := by
  refine (next_any c hz hB hn hc hF hK).mono ?_
  rintro e w' ⟨hb, h⟩
  rw [hm] at h
  obtain ⟨A', c', rfl, h1, h2, h3⟩ := h
  exact ⟨A', c', by rw [hk], by rw [← hp]; exact h1, hb, h2, h3⟩
theorem next_no {w : World} {B : Nat} {A : Option Addr} {n : Nat} (c : Nat) {bs : List Int} (hz : Bs w B A n bs) (hB : B ≤ w.heap.size) (hn : n ≤ 100000000) (hc : n ≤ c) (hF : LaidF w) (hK : LaidK w) (hm : firstZ bs = none) :
    Calls Tryd.prog 13 #[.slice A n c] w fun e w' => e = .returned (.tuple #[.slice none 0 0, .int .i64 0, .int .i64 50]) ∧ Below w.heap.size w w' := by
  refine (next_any c hz hB hn hc hF hK).mono ?_
  rintro e w' ⟨hb, h⟩
  rw [hm] at h
  exact ⟨h, hb⟩
/-- What All tells, of which but number and length are asked. -/
theorem all_count {w : World} {B : Nat} {A : Option Addr} {n : Nat} (c : Nat) {bs : List Int} {l : List (List Int)} {k u : Nat} (hz : Bs w B A n bs) (hB : B ≤ w.heap.size) (hn : n ≤ 100000000) (hc : n ≤ c) (hF : LaidF w) (hK : LaidK w) (hl : (framesZ bs).map (payZ bs) = l) (hk : l.length = k) (hu : useZ (framesZ bs) = u) :
    Calls Tryd.prog 16 #[.slice A n c] w fun e w' => ∃ (A' : Option Addr) (c' : Nat) (ps : List Piece), e = .returned (.tuple #[.slice A' k c', .int .i64 (u : Int)]) ∧ w'.ownsRow w.heap.size 22 1 (.slice A' k c') k (ps.map pv) ∧ (∀ p ∈ ps, PieceOk w' w.heap.size p) ∧ ps.map (·.zs) = l ∧ ps.length = k ∧ Below w.heap.size w w' ∧ k ≤ c' ∧ c' ≤ maxLen := by
  refine (all_any c hz hB hn hc hF hK).mono ?_
  rintro e w' ⟨hb, v, ps, rfl, h1, h2, h3⟩
  obtain ⟨A', c', rfl, h4, h5⟩ := own_shape h1
  rw [hl] at h3
  have hps : ps.length = k := by rw [← hk, ← h3, List.length_map]
  subst hps
  exact ⟨A', c', ps, by rw [hu], h1, h2, h3, rfl, hb, h4, h5⟩
set_option maxRecDepth 100000 in
set_option maxHeartbeats 4000000 in
theorem fawake_any (w : World) (hF : LaidF w) (hK : LaidK w) :
    Calls Tryd.prog 18 #[] w fun e w' => e = .returned (.bool true) ∧ Below w.heap.size w w' := by
  have HFl := Lib.hid hF.lt
  have HKl := Lib.hid hK.lt
  have HF := Lib.hid hF
  have HK := Lib.hid hK
  clear hF hK
  obtain ⟨Z, hZ⟩ : ∃ Z, frameZ [97] = Z := ⟨_, rfl⟩
  have LZ : Hid (Z.length = 13) := Lib.hid (by rw [← hZ, frameZ_len]; rfl)
  have BZ : Hid (IsBytes Z) := Lib.hid (by rw [← hZ]; exact frameZ_bytes (by unfold IsBytes; decide))
  have T5 : Hid (Z.take 5 = [0, 0, 0, 1, 97]) := Lib.hid (by rw [← hZ]; unfold frameZ; rw [take_at _ _ (by rw [aheadZ_len]; rfl)]; decide)
  have N1 : Hid (firstZ (Z ++ [9]) = some 1) := Lib.hid (by rw [← hZ]; exact first_frame (by decide) _)
  have P1 : Hid (((Z ++ [9]).drop 4).take 1 = [97]) := Lib.hid (by rw [← hZ]; exact pay_frame [97] _)
  have N2 : Hid (firstZ (Z.take 12) = none) := Lib.hid (by
    have := torn (zs := [97]) (by decide) [] 12 (by decide)
    rwa [List.append_nil, hZ] at this)
  have N3 : Hid (firstZ [] = none) := Lib.hid (first_short (by decide))
  have N4 : Hid (firstZ (List.replicate 13 0) = none) := Lib.hid noughts_none
  have A1 : Hid ((framesZ (Z ++ Z ++ [0, 0, 0])).map (payZ (Z ++ Z ++ [0, 0, 0])) = [[97], [97]] ∧ useZ (framesZ (Z ++ Z ++ [0, 0, 0])) = 26) := Lib.hid (by
    have := frames_all [[97], [97]] [0, 0, 0] (first_short (by decide)) (by decide)
    have e : joinZ [[97], [97]] = Z ++ Z := by rw [← hZ]; simp [joinZ]
    rw [e] at this
    refine ⟨this.1, this.2.trans (by rw [List.length_append, LZ.out])⟩)
  have B97 : Hid (IsBytes [97]) := Lib.hid (by unfold IsBytes; decide)
  have hmk : ∀ w : World, (Instr.makeSlice 22 (.int .i64 13) (.int .i64 13)).run Tryd.prog w = .ok (.slice (some ⟨w.heap.size, 0, none⟩) 13 13) (w.alloc (.cells (madeCells #[.int .u8 0] 13) 5)) := make_u8 13 (by omega)
  rw [madeCells_vals] at hmk
  generalize hRk : List.replicate 13 (0 : Int) = R at hmk N4
  have RB : Hid (IsBytes R) := Lib.hid (by rw [← hRk]; exact rep_bytes _ _ (by omega) (by omega))
  have RL : Hid (R.length = 13) := Lib.hid (by rw [← hRk]; exact List.length_replicate ..)
  have q0 : Below w.heap.size w (w.alloc (.cells (vals [97]).toArray 5)) := (Below.refl _ _).alloc (Nat.le_refl _) _
  have C1 := Lib.hid (fseal_any (w := w.alloc (.cells (vals [97]).toArray 5)) 1 (bs_new w [97] 1 rfl B97.out 5 _ rfl) (by simp) (by omega) (HF.out.below q0 HFl.out) (HK.out.below q0 HKl.out))
  rw [hZ] at C1
  have Q0 := Lib.hid q0
  clear hRk hZ q0
  go_enter Tryd.func18, Tryd.ntmps18
  go_wp2_with fail
  refine C1.out.mono ?_
  rintro e w1 ⟨A, c, rfl, ho1, b1, hc1, hc2⟩
  have q1 := Lib.hid (Q0.out.trans (b1.mono Q0.out.size))
  have hc1 : 13 ≤ c := hc1
  have z1 : Hid (Bs w1 w1.heap.size A 13 Z) := Lib.hid (bs_of_own ho1 BZ.out)
  have i5 := cut_h A 13 c 5 5 rfl (by omega)
  have i12 := cut_h A 13 c 12 12 rfl (by omega)
  have z5 : Hid (Bs w1 w1.heap.size A 5 [0, 0, 0, 1, 97]) := Lib.hid (by
    have := z1.out.cut (k := 0) (m := 5) (by omega) A (fun b off e _ => by rw [e]; rfl)
    rwa [List.drop_zero, T5.out] at this)
  have z12 : Hid (Bs w1 w1.heap.size A 12 (Z.take 12)) := Lib.hid (by
    have := z1.out.cut (k := 0) (m := 12) (by omega) A (fun b off e _ => by rw [e]; rfl)
    rwa [List.drop_zero] at this)
  have hM : Hid (5 ≤ maxLen) := Lib.hid (by unfold maxLen; omega)
  have S1 := Lib.hid (same_any c 5 (z5.out.alloc (Nat.le_refl _) (.cells (vals [0, 0, 0, 1, 97]).toArray 5)) (bs_new w1 [0, 0, 0, 1, 97] 5 rfl (by unfold IsBytes; decide) 5 _ rfl) hM.out hM.out)
  rw [eqB_self] at S1
  clear ho1 b1 C1 Q0
  go_wp2_with (go_at_call 21; refine S1.out.mono ?_; rintro e w2 ⟨rfl, m2, hw2⟩; have b2 : Below w1.heap.size w1 w2 := (by rw [hw2]; exact below_drewN ((Below.refl _ _).alloc (Nat.le_refl _) _) _); clear hw2)
  have q2 := Lib.hid (q1.out.trans (b2.mono q1.out.size))
  have z2 := Lib.hid (z1.out.belowM b2 (Nat.le_refl _))
  have z22 := Lib.hid (z12.out.belowM b2 (Nat.le_refl _))
  have s2 := b2.size
  have L14 : Hid ((Z ++ [9]).length = 14) := Lib.hid (by rw [List.length_append, LZ.out]; rfl)
  have B14 : Hid (IsBytes (Z ++ [9])) := Lib.hid (BZ.out.app (by unfold IsBytes; decide))
  have C2 := Lib.hid (cat2_any (w := w2.alloc (.cells (vals [9]).toArray 5)) c 1 22 (z2.out.alloc s2 _) (bs_new w2 [9] 1 rfl (by unfold IsBytes; decide) 5 _ rfl) (by simp; omega) (by simp) (by omega) 2 (w2.heap.size + 1) (by simp))
  clear b2 S1 z5 i5 z12 z1 q1 T5
  refine C2.out.mono ?_
  intro e w3 hm3
  obtain ⟨A3, c3, rfl, ho3, b3, h3, h3'⟩ := hm3.n L14.out
  have b23 : Below w2.heap.size w2 w3 := (((Below.refl _ _).alloc (Nat.le_refl _) _).alloc (by simp) _).trans (b3.mono (by simp; omega))
  have q3 := Lib.hid (q2.out.trans (b23.mono q2.out.size))
  have y3 := Lib.hid (Made.bs ho3 B14.out)
  have z3 := Lib.hid (z2.out.belowM b23 s2)
  have z33 := Lib.hid (z22.out.belowM b23 s2)
  have s3 := b23.size
  clear hm3 ho3 b3 b23 C2 z2 z22 q2
  have C3 := Lib.hid (next_yes c3 (k := 13) y3.out (Nat.le_refl _) (by omega) h3 (HF.out.below q3.out HFl.out) (HK.out.below q3.out HKl.out) N1.out P1.out rfl)
  go_wp2_with fail
  refine C3.out.mono ?_
  rintro e w4 ⟨A4, c4, rfl, o4, b4, _, _⟩
  have q4 := Lib.hid (q3.out.trans (b4.mono q3.out.size))
  have x4 := Lib.hid (bs_of_own o4 B97.out)
  have z4 := Lib.hid (z3.out.belowM b4 (by omega))
  have z44 := Lib.hid (z33.out.belowM b4 (by omega))
  have s4 := b4.size
  clear o4 b4 C3 z3 z33 y3 q3
  have C4 := Lib.hid (next_no c z44.out (by omega) (by omega) (by omega) (HF.out.below q4.out HFl.out) (HK.out.below q4.out HKl.out) N2.out)
  go_wp2_with fail
  refine C4.out.mono ?_
  rintro e w5 ⟨rfl, b5⟩
  have q5 := Lib.hid (q4.out.trans (b5.mono q4.out.size))
  have x5 := Lib.hid (x4.out.belowM b5 (Nat.le_refl _))
  have z5 := Lib.hid (z4.out.belowM b5 (by omega))
  have s5 := b5.size
  clear b5 C4 z4 x4 z44 q4 i12
  have C5 := Lib.hid (next_no (w := w5) (A := none) (n := 0) 0 (B := 0) (bs := []) Bs.nil (by omega) (by omega) (by omega) (HF.out.below q5.out HFl.out) (HK.out.below q5.out HKl.out) N3.out)
  go_wp2_with fail
  refine C5.out.mono ?_
  rintro e w6 ⟨rfl, b6⟩
  have q6 := Lib.hid (q5.out.trans (b6.mono q5.out.size))
  have x6 := Lib.hid (x5.out.belowM b6 (by omega))
  have z6 := Lib.hid (z5.out.belowM b6 (by omega))
  have s6 := b6.size
  clear b6 C5 z5 x5 q5
  have q6' := Lib.hid (q6.out.alloc q6.out.size (.cells (vals R).toArray 5))
  have C6 := Lib.hid (next_no (w := w6.alloc (.cells (vals R).toArray 5)) 13 (bs_new w6 R 13 RL.out RB.out 5 _ rfl) (by simp) (by omega) (by omega) (HF.out.below q6'.out HFl.out) (HK.out.below q6'.out HKl.out) N4.out)
  go_wp2_with fail
  refine C6.out.mono ?_
  rintro e w7 ⟨rfl, b7⟩
  have b67 : Below w6.heap.size w6 w7 := ((Below.refl _ _).alloc (Nat.le_refl _) _).trans (b7.mono (by simp))
  have q7 := Lib.hid (q6.out.trans (b67.mono q6.out.size))
  have x7 := Lib.hid (x6.out.belowM b67 (by omega))
  have z7 := Lib.hid (z6.out.belowM b67 (by omega))
  have s7 := b67.size
  clear b7 b67 C6 z6 x6 q6 q6' hmk
  have L29 : Hid ((Z ++ Z ++ [0, 0, 0]).length = 29) := Lib.hid (by rw [List.length_append, List.length_append, LZ.out]; rfl)
  have B29 : Hid (IsBytes (Z ++ Z ++ [0, 0, 0])) := Lib.hid ((BZ.out.app BZ.out).app (by unfold IsBytes; decide))
  have C7 := Lib.hid (cat3_any (w := w7.alloc (.cells (vals [0, 0, 0]).toArray 5)) c c 3 22 (z7.out.alloc (by omega) _) (z7.out.alloc (by omega) _) (bs_new w7 [0, 0, 0] 3 rfl (by unfold IsBytes; decide) 5 _ rfl) (by simp; omega) (by simp; omega) (by simp) (by omega) 3 (w7.heap.size + 1) (by simp))
  go_wp2_with fail
  refine C7.out.mono ?_
  intro e w8 hm8
  obtain ⟨A8, c8, rfl, o8, b8, h8, h8'⟩ := hm8.n L29.out
  have b78 : Below w7.heap.size w7 w8 := (((Below.refl _ _).alloc (Nat.le_refl _) _).alloc (by simp) _).trans (b8.mono (by simp; omega))
  have q8 := Lib.hid (q7.out.trans (b78.mono q7.out.size))
  have y8 := Lib.hid (Made.bs o8 B29.out)
  have x8 := Lib.hid (x7.out.belowM b78 (by omega))
  have s8 := b78.size
  clear hm8 o8 b8 b78 C7 z7 x7 q7
  have C8 := Lib.hid (all_count c8 y8.out (Nat.le_refl _) (by omega) h8 (HF.out.below q8.out HFl.out) (HK.out.below q8.out HKl.out) A1.out.1 (show _ = 2 from rfl) A1.out.2)
  go_wp2_with fail
  refine C8.out.mono ?_
  rintro e w9 ⟨A9, c9, ps, rfl, _, _, _, _, b9, _, _⟩
  have q9 := Lib.hid (q8.out.trans (b9.mono q8.out.size))
  have x9 := Lib.hid (x8.out.belowM b9 (by omega))
  have s9 := b9.size
  clear b9 C8 x8 y8 q8
  have hM1 : Hid (1 ≤ maxLen) := Lib.hid (by unfold maxLen; omega)
  have S9 := Lib.hid (same_any (w := w9.alloc (.cells (vals [97]).toArray 5)) c4 1 (x9.out.alloc (by omega) _) (bs_new w9 [97] 1 rfl B97.out 5 _ rfl) hM1.out hM1.out)
  rw [eqB_self] at S9
  have q10 := Lib.hid (q9.out.alloc q9.out.size (.cells (vals [97]).toArray 5))
  clear q9 x9
  go_wp2_with (go_at_call 21; refine S9.out.mono ?_; rintro e w2 ⟨rfl, m2, rfl⟩)
  go_ret
  exact ⟨rfl, below_drewN q10.out _⟩
end Go.Proofs.YtcihbkdpkhhhcaaDoor
