/- A reply that is read: the document's. -/
import Derived.Test.YtcgclaailhhbpaaRsF
namespace Go.Proofs.Ytcgclaailhhbpaa
open Go.ChangeShapes Go.WideShapes Go.ChangeAt Go.RowKit
set_option linter.unusedVariables false
set_option maxRecDepth 100000
set_option linter.unusedSimpArgs false
open Plain Sha Au Rp Rq
set_option maxHeartbeats 8000000 in
theorem rparser_any {w : World} {B n c : Nat} {A : Option Addr} {bs : List Int} (h : Bs w B A n bs) (hB : B ≤ w.heap.size) (hc : n ≤ c) (hn : n ≤ 65536) : Calls Try.prog 25 #[.slice A n c] w (ReadsR w (parseR bs).1 (parseR bs).2) := by
  obtain ⟨g, hg⟩ : ∃ g, w.heap.size = g := ⟨_, rfl⟩
  have HG := Lib.hid hg
  obtain ⟨W1, hW1⟩ : ∃ W, W = w.alloc (.cells zR 46) := ⟨_, rfl⟩
  have b1 := Lib.hid (show Below w.heap.size w W1 by rw [hW1]; exact below_one _ _)
  have V1 := Lib.hid (show VBox W1 g 75 (rc r0) by rw [hW1]; exact vbox_new w (rc r0) _ _ _ hg (rc_len _) (by omega))
  have z1 := Lib.hid (show W1.heap.size = g + 1 by rw [hW1]; simp [hg])
  have HW1 := Lib.hid hW1
  have zk := zRk
  have zs := zR_size
  have zn := zR_ne
  clear hW1 hg
  have t0 : StB (0, bs) := ⟨h.isBytes, by rw [h.len]; omega⟩
  have HN2 := Lib.hid (new_rr (w := W1) c (h.belowM b1.out hB) (Nat.le_trans hB b1.out.size) hc (by omega))
  have HBB := Lib.hid (show B ≤ W1.heap.size from Nat.le_trans hB b1.out.size)
  clear h
  obtain ⟨a1, s1, e1⟩ : ∃ a s, rInt (0, bs) = (a, s) := ⟨_, _, rfl⟩
  obtain ⟨a2, s2, e2⟩ : ∃ a s, rBytes s1 = (a, s) := ⟨_, _, rfl⟩
  obtain ⟨a3, s3, e3⟩ : ∃ a s, rCount 16 s2 = (a, s) := ⟨_, _, rfl⟩
  obtain ⟨c30, c31⟩ := rCount_rng (by decide) e3
  obtain ⟨cnt, hcnt⟩ : ∃ c : Nat, a3 = (c : Int) := ⟨a3.toNat, by omega⟩
  subst hcnt
  have c32 : cnt ≤ 16 := by omega
  clear c30 c31
  obtain ⟨a4, s4, e4⟩ : ∃ a s, rTexts cnt s3 = (a, s) := ⟨_, _, rfl⟩
  obtain ⟨a5, s5, e5⟩ : ∃ a s, rInt s4 = (a, s) := ⟨_, _, rfl⟩
  obtain ⟨a6, s6, e6⟩ : ∃ a s, rInt s5 = (a, s) := ⟨_, _, rfl⟩
  obtain ⟨a7, s7, e7⟩ : ∃ a s, rInt s6 = (a, s) := ⟨_, _, rfl⟩
  obtain ⟨a8, s8, e8⟩ : ∃ a s, rByte s7 = (a, s) := ⟨_, _, rfl⟩
  obtain ⟨a9, s9, e9⟩ : ∃ a s, rInt s8 = (a, s) := ⟨_, _, rfl⟩
  obtain ⟨a10, s10, e10⟩ : ∃ a s, rInt s9 = (a, s) := ⟨_, _, rfl⟩
  obtain ⟨a11, s11, e11⟩ : ∃ a s, rInt s10 = (a, s) := ⟨_, _, rfl⟩
  obtain ⟨a12, s12, e12⟩ : ∃ a s, rInt s11 = (a, s) := ⟨_, _, rfl⟩
  obtain ⟨a13, s13, e13⟩ : ∃ a s, rTag s12 = (a, s) := ⟨_, _, rfl⟩
  obtain ⟨a14, s14, e14⟩ : ∃ a s, rTag s13 = (a, s) := ⟨_, _, rfl⟩
  obtain ⟨g1, t1⟩ := int_rg t0 e1
  obtain ⟨g2, t2⟩ := bytes_rg t1 e2
  have t3 := count_rg t2 e3
  have t4 : StB s4 := by have := texts_rg cnt t3; rw [e4] at this; exact this
  obtain ⟨g5, t5⟩ := int_rg t4 e5
  obtain ⟨g6, t6⟩ := int_rg t5 e6
  obtain ⟨g7, t7⟩ := int_rg t6 e7
  obtain ⟨g8, t8⟩ := byte_rg t7 e8
  obtain ⟨g9, t9⟩ := int_rg t8 e9
  obtain ⟨g10, t10⟩ := int_rg t9 e10
  obtain ⟨g11, t11⟩ := int_rg t10 e11
  obtain ⟨g12, t12⟩ := int_rg t11 e12
  obtain ⟨g13, t13⟩ := tag_rg t12 e13
  obtain ⟨g14, t14⟩ := tag_rg t13 e14
  have HR : Hid (repR (0, bs) = (⟨a1, strOfNums a2, a4, a5, ⟨a6, a7, a8, a9, a10, a11, a12, a13, a14, g13.1, g14.1⟩⟩, s14)) := Lib.hid (by
    rw [← mkL_eq g13.1 g14.1]
    unfold repR
    simp only [e1, e2, e3, e4, e5, e6, e7, e8, e9, e10, e11, e12, e13, e14, Int.toNat_natCast])
  have TS3 := Lib.hid t3
  have E1 := Lib.hid e1
  have E2 := Lib.hid e2
  have E3 := Lib.hid e3
  have E4 := Lib.hid e4
  have E5 := Lib.hid e5
  have E6 := Lib.hid e6
  have E7 := Lib.hid e7
  have E8 := Lib.hid e8
  have E9 := Lib.hid e9
  have E10 := Lib.hid e10
  have E11 := Lib.hid e11
  have E12 := Lib.hid e12
  have E13 := Lib.hid e13
  have E14 := Lib.hid e14
  clear e1 e2 e3 e4 e5 e6 e7 e8 e9 e10 e11 e12 e13 e14
  have HP : Hid (parseR bs = if endZ s14.1 s14.2 = 0 ∧ mayR ⟨a1, strOfNums a2, a4, a5, ⟨a6, a7, a8, a9, a10, a11, a12, a13, a14, g13.1, g14.1⟩⟩ = true then (⟨a1, strOfNums a2, a4, a5, ⟨a6, a7, a8, a9, a10, a11, a12, a13, a14, g13.1, g14.1⟩⟩, 0) else (rz0, 150)) := Lib.hid (by unfold parseR; rw [HR.out])
  go_enter Try.func25, Try.ntmps25
  go_upto_region 1 with fail
  rw [← HW1.out, HG.out]
  go_upto_region 2 with (go_at_call 45; refine HN2.out.mono ?_; rintro e w3 ⟨rfl, hrd, hb, hlt⟩; have HB3 := Lib.hid hb; have HRD := Lib.hid hrd; have HLT := Lib.hid hlt; clear hb hrd hlt)
  obtain ⟨b, hb0⟩ : ∃ b, W1.heap.size = b := ⟨_, rfl⟩
  rw [hb0] at HRD HLT
  rw [hb0]
  have HBb := Lib.hid hb0
  obtain ⟨W4, hW4⟩ : ∃ W, W = w3.alloc (.cells zR 46) := ⟨_, rfl⟩
  obtain ⟨r, hr0⟩ : ∃ r, w3.heap.size = r := ⟨_, rfl⟩
  have HRR := Lib.hid hr0
  have b4 := Lib.hid (show Below w3.heap.size w3 W4 by rw [hW4]; exact below_one _ _)
  have V4 := Lib.hid (show VBox W4 r 75 (rc r0) by rw [hW4]; exact vbox_new w3 (rc r0) _ _ _ hr0 (rc_len _) (by omega))
  have z4 := Lib.hid (show W4.heap.size = r + 1 by rw [hW4]; simp [hr0])
  have HW4 := Lib.hid hW4
  clear hW4 hr0 hb0
  go_upto_region 3 with fail
  rw [← HW4.out, HRR.out]
  have Q0 : Hid (PK (RdD b B) W1 W4 r b (r + 1) (0, bs) (rc r0) none 0 0 []) := Lib.hid
    ⟨⟨HRD.out.below b4.out (by rw [HRR.out]; have := HLT.out; rw [HRR.out] at this; omega), V4.out, HB3.out.trans (b4.out.mono HB3.out.size), by rw [← HRR.out]; exact HB3.out.size, by have := HLT.out; rw [HRR.out] at this; omega, by omega, by have := HLT.out; rw [HRR.out] at this; omega, by rw [z4.out]; exact Nat.le_refl _, by rw [HBb.out]; exact Nat.le_refl _,
      rdD_keep (by have := HBB.out; have := HLT.out; rw [HRR.out] at this; rw [HBb.out] at *; omega) (by have := HLT.out; rw [HRR.out] at this; omega) (by rw [← HBb.out]; exact HBB.out) (by have := HLT.out; rw [HRR.out] at this; omega), isList_nil _ _⟩, World.ownsRow_nil _ _ _ _⟩
  clear HN2 HB3 HRD V4 zk zs zn
  go_upto_region 4 with (go_at_call 48; refine (int_sd Q0.out.rd E1.out).mono ?_; rintro e v1 ⟨rfl, hr, hg⟩; have P1 := Lib.hid (Q0.out.read hr hg); clear hr hg; obtain ⟨x0, y0⟩ := P1.out.cell 0 rfl)
  obtain ⟨wA, hwA⟩ : ∃ W, W = (v1.setCell ⟨r, 0, none⟩ (.int .i64 a1)) := ⟨_, rfl⟩
  rw [← hwA]
  have QA := Lib.hid (P1.out.set (i := 0) (by omega) (.int .i64 a1))
  rw [← hwA] at QA
  clear hwA P1 x0 y0
  go_upto_region 5 with (go_at_call 47; refine (bytes_sd QA.out.rd E2.out).mono ?_; rintro e v2 ⟨T, rfl, hr, hg, hl⟩; have P2 := Lib.hid (QA.out.read hr hg); obtain ⟨AX, cX, rfl, hoX, _⟩ := hl; have cv := run_str cX (bs_of_own hoX g2.1); clear hr hg hoX; obtain ⟨x1, y1⟩ := P2.out.cell 1 rfl)
  obtain ⟨wB, hwB⟩ : ∃ W, W = (v2.setCell ⟨r, 1, none⟩ (.string (strOfNums a2))) := ⟨_, rfl⟩
  rw [← hwB]
  have QB := Lib.hid (P2.out.set (i := 1) (by omega) (.string (strOfNums a2)))
  rw [← hwB] at QB
  clear hwB P2 x1 y1 cv
  go_wp2_with (go_at_call 59; refine (count_sd 16 QB.out.rd E3.out).mono ?_; rintro e v3 ⟨rfl, hr, hg⟩; have P3 := Lib.hid (QB.out.read hr hg); clear hr hg)
  have HS : Hid (RdSt (RdD b B) W1 r b (r + 1) cnt s3 a1 (strOfNums a2) (.int .i64 0) v3) := Lib.hid ⟨0, none, 0, by omega, rfl, P3⟩
  go_loopw [7] (fun i wr => RdSt (RdD b B) W1 r b (r + 1) cnt s3 a1 (strOfNums a2) i wr) (fun i _ => cnt - (intOf i).toNat)
  case atStart => exact HS.out
  case round =>
    obtain ⟨k, Ak, ck, hk, rfl, PR⟩ := hrel
    obtain ⟨x2, y2⟩ := PR.out.cell 2 rfl
    by_cases hlt : k < cnt
    · have hki : (k : Int) < (cnt : Int) := by omega
      obtain ⟨a, s', e40⟩ : ∃ a s', rBytes (rTexts k s3).2 = (a, s') := ⟨_, _, rfl⟩
      have g4 := (bytes_rg (texts_rg k TS3.out) e40).1
      have E40 := Lib.hid e40
      clear e40
      obtain ⟨L, hL⟩ : ∃ L, (rTexts k s3).1 = L := ⟨_, rfl⟩
      have HL4 := Lib.hid hL
      rw [hL] at PR
      clear hL
      go_upto_region 9 with fail
      have PD := Lib.hid PR.out.drew1
      refine Late.region (fun w' => w'.cell? ⟨r, 2, none⟩ = some (.slice Ak k ck)) [8] (by kernel_rfl) (PD.out.cell 2 rfl).1 (fun hHeld => ?_)
      refine Late.take (i := 0) (oi := ⟨some 24, Op.fieldAddr 46 (Operand.tmp 5) 2, _, _, _, _⟩) (v := ?_) rfl (by kernel_rfl) (by kernel_rfl) (by kernel_rfl) (by kernel_rfl) (fun _ _ _ h => h) (Or.inl ⟨by rfl, fun w hSw => ?_⟩) (by assumption) ?_
      rotate_left
      · (have s1 := hSw; go_simp; try with_reducible rfl)
      try simp only [Act.put, List.setIfInBounds_toArray, List.set_cons_zero, List.set_cons_succ]
      refine Late.take (i := 1) (oi := ⟨some 25, Op.load 40 (Operand.tmp 24), _, _, _, _⟩) (v := ?_) rfl (by kernel_rfl) (by kernel_rfl) (by kernel_rfl) (by kernel_rfl) (fun _ _ _ h => h) (Or.inl ⟨by rfl, fun w hSw => ?_⟩) (by assumption) ?_
      rotate_left
      · (have s1 := hSw; go_simp; try with_reducible rfl)
      try simp only [Act.put, List.setIfInBounds_toArray, List.set_cons_zero, List.set_cons_succ]
      refine Late.take (i := 2) (oi := ⟨some 26, Op.move (Operand.tmp 4), _, _, _, _⟩) (v := ?_) rfl (by kernel_rfl) (by kernel_rfl) (by kernel_rfl) (by kernel_rfl) (fun _ _ _ h => h) (Or.inl ⟨by rfl, fun w hSw => ?_⟩) (by assumption) ?_
      rotate_left
      · (have s1 := hSw; go_simp; try with_reducible rfl)
      try simp only [Act.put, List.setIfInBounds_toArray, List.set_cons_zero, List.set_cons_succ]
      refine Late.one (i := 3) (o := ⟨some 27, Op.call { callee := Callee.value (Operand.func 47), args := #[Operand.tmp 26], argTypes := #[84] }, _, _, _, _⟩) (by kernel_rfl) rfl (fun K hK => ?_)
      go_simp
      refine (bytes_sd PD.out.rd E40.out).mono ?_
      rintro e v8 ⟨T, rfl, hr, hg, hl⟩
      have P8 := Lib.hid (PD.out.read hr hg)
      obtain ⟨AX, cX, rfl, hoX, _⟩ := hl
      have cv := run_str cX (bs_of_own hoX g4.1)
      clear hr hg
      have PA := Lib.hid (P8.out.ps.grow (grown_alloc v8 (.cells #[.string (strOfNums a)] 9) none) (fun j hj => by cases hj))
      have OA := Lib.hid (P8.out.ow.alloc (.cells #[.string (strOfNums a)] 9))
      refine hK.out _ _ ((P8.out.cell 2 rfl).1) (fun hHeld2 => ?_)
      clear hK K hHeld
      have hHeld := hHeld2
      clear hHeld2
      try simp only [Act.put, List.setIfInBounds_toArray, List.set_cons_zero, List.set_cons_succ]
      refine Late.one (i := 4) (o := ⟨some 28, Op.convert 22 9 (Operand.tmp 27), _, _, _, _⟩) (by kernel_rfl) rfl (fun K hK => ?_)
      go_simp
      refine hK.out _ _ (hHeld) (fun hHeld2 => ?_)
      clear hK K hHeld
      have hHeld := hHeld2
      clear hHeld2
      try simp only [Act.put, List.setIfInBounds_toArray, List.set_cons_zero, List.set_cons_succ]
      refine Late.one (i := 5) (o := ⟨some 29, Op.buildSlice 40 1 #[(0, Operand.tmp 28)], _, _, _, _⟩) (by kernel_rfl) rfl (fun K hK => ?_)
      go_simp
      refine hK.out _ _ ((PA.out.cell 2 rfl).1) (fun hHeld2 => ?_)
      clear hK K hHeld
      have hHeld := hHeld2
      clear hHeld2
      try simp only [Act.put, List.setIfInBounds_toArray, List.set_cons_zero, List.set_cons_succ]
      refine Late.one (i := 6) (o := ⟨some 30, Op.call { callee := Callee.builtin Builtin.append, args := #[Operand.tmp 25, Operand.tmp 29], argTypes := #[40, 40] }, _, _, _, _⟩) (by kernel_rfl) rfl (fun K hK => ?_)
      refine step_app (v8.alloc (.cells #[.string (strOfNums a)] 9)) rfl (.tmp 25) (.tmp 29) 40 rfl (r + 1) 9 1 16 Try.underlying40 str_info (by omega) (.slice Ak k ck) k (svs L) (by rfl) OA.out (some ⟨v8.heap.size, 0, none⟩) 1 1 (svs [strOfNums a]) (by rfl) (sr_new v8 (strOfNums a)).lies.1 (sr_new v8 (strOfNums a)).lies.2 (svs_one _) (by unfold maxLen; omega) (by omega) PA.out.ms ?_
      intro v1 w9 ho1 hg1 _
      obtain ⟨A9, c9, rfl, _, _⟩ := own_shape ho1
      have P9 : Hid (PK (RdD b B) W1 w9 r b (r + 1) s' (rc ⟨a1, strOfNums a2, Ak, k, ck, L, 0, l0⟩) A9 (k + 1) c9 (L ++ [strOfNums a])) := Lib.hid ⟨PA.out.grow hg1 (fun j hj => (OA.out.lt j hj).1), by rw [svs_app]; exact ho1⟩
      clear ho1 hg1
      refine hK.out _ _ ((P9.out.cell 2 rfl).1) (fun hHeld2 => ?_)
      clear hK K hHeld
      have hHeld := hHeld2
      clear hHeld2
      try simp only [Act.put, List.setIfInBounds_toArray, List.set_cons_zero, List.set_cons_succ]
      refine Late.take (i := 7) (oi := ⟨some 31, Op.fieldAddr 46 (Operand.tmp 5) 2, _, _, _, _⟩) (v := ?_) rfl (by kernel_rfl) (by kernel_rfl) (by kernel_rfl) (by kernel_rfl) (fun _ _ _ h => h) (Or.inl ⟨by rfl, fun w hSw => ?_⟩) (by assumption) ?_
      rotate_left
      · (have s1 := hSw; go_simp; try with_reducible rfl)
      try simp only [Act.put, List.setIfInBounds_toArray, List.set_cons_zero, List.set_cons_succ]
      refine Late.end_ (i := 8) (o := ⟨none, Op.store 40 (Operand.tmp 31) (Operand.tmp 30), _, _, _, _⟩) (by kernel_rfl) rfl rfl (fun K hK => ?_)
      obtain ⟨x2', y2'⟩ := P9.out.cell 2 rfl
      go_simp
      refine hK.out _ _ ?_
      clear hK K
      try simp only [Act.put]
      refine Late.done (by kernel_rfl) ?_ _
      refine NoPanic.normal ?_
      have P9c := Lib.hid (show PK (RdD b B) W1 w9 r b (r + 1) s' (rc ⟨a1, strOfNums a2, Ak, k, ck, L, 0, l0⟩) A9 (k + 1) c9 (L ++ [strOfNums a]) from P9.out)
      clear hHeld
      go_wp2
      have HE : Hid (rTexts (k + 1) s3 = (L ++ [strOfNums a], s')) := Lib.hid (by rw [rTexts_step E40.out, HL4.out])
      have P10 := Lib.hid (P9.out.set (i := 2) (by omega) (.slice A9 ((k + 1 : Nat)) c9))
      go_roundw
      case rel => exact ⟨k + 1, A9, c9, by omega, by go_num, Lib.hid (by
        rw [HE.out]
        have := P10.out
        rw [rc_sl _ _ _ _ _ _ _ _ _ (L ++ [strOfNums a])] at this
        exact this)⟩
      case measure => simp [intOf]; omega
    · have hki : ¬ (k : Int) < (cnt : Int) := by omega
      obtain rfl : k = cnt := by omega
      rw [E4.out] at PR
      have QB2 := PR
      clear PR HS P3 QB hlt hk x2 y2
      go_upto_region 11 with (go_at_call 48; refine (int_sd QB2.out.rd E5.out).mono ?_; rintro e v5 ⟨rfl, hr, hg⟩; have P5 := Lib.hid (QB2.out.read hr hg); clear hr hg; obtain ⟨x3, y3⟩ := P5.out.cell 3 rfl)
      obtain ⟨wC, hwC⟩ : ∃ W, W = (v5.setCell ⟨r, 3, none⟩ (.int .i64 a5)) := ⟨_, rfl⟩
      rw [← hwC]
      have QC := Lib.hid (P5.out.set (i := 3) (by omega) (.int .i64 a5))
      rw [← hwC] at QC
      clear hwC P5 x3 y3
      go_upto_region 12 with (go_at_call 48; refine (int_sd QC.out.rd E6.out).mono ?_; rintro e v6 ⟨rfl, hr, hg⟩; have P6 := Lib.hid (QC.out.read hr hg); clear hr hg; obtain ⟨x4, y4⟩ := P6.out.cell 4 rfl)
      obtain ⟨wD, hwD⟩ : ∃ W, W = (v6.setCell ⟨r, 4, none⟩ (.int .i64 a6)) := ⟨_, rfl⟩
      rw [← hwD]
      have QD := Lib.hid (P6.out.set (i := 4) (by omega) (.int .i64 a6))
      rw [← hwD] at QD
      clear hwD P6 x4 y4
      go_upto_region 13 with (go_at_call 48; refine (int_sd QD.out.rd E7.out).mono ?_; rintro e v7 ⟨rfl, hr, hg⟩; have P7 := Lib.hid (QD.out.read hr hg); clear hr hg; obtain ⟨x5, y5⟩ := P7.out.cell 5 rfl)
      obtain ⟨wE, hwE⟩ : ∃ W, W = (v7.setCell ⟨r, 5, none⟩ (.int .i64 a7)) := ⟨_, rfl⟩
      rw [← hwE]
      have QE := Lib.hid (P7.out.set (i := 5) (by omega) (.int .i64 a7))
      rw [← hwE] at QE
      clear hwE P7 x5 y5
      go_upto_region 14 with (go_at_call 46; refine (byte_sd QE.out.rd E8.out).mono ?_; rintro e v8 ⟨rfl, hr, hg⟩; have P8 := Lib.hid (QE.out.read hr hg); clear hr hg; obtain ⟨x6, y6⟩ := P8.out.cell 6 rfl)
      obtain ⟨wF, hwF⟩ : ∃ W, W = (v8.setCell ⟨r, 6, none⟩ (.int .u8 a8)) := ⟨_, rfl⟩
      rw [← hwF]
      have QF := Lib.hid (P8.out.set (i := 6) (by omega) (.int .u8 a8))
      rw [← hwF] at QF
      clear hwF P8 x6 y6
      go_upto_region 15 with (go_at_call 48; refine (int_sd QF.out.rd E9.out).mono ?_; rintro e v9 ⟨rfl, hr, hg⟩; have P9 := Lib.hid (QF.out.read hr hg); clear hr hg; obtain ⟨x7, y7⟩ := P9.out.cell 7 rfl)
      obtain ⟨wG, hwG⟩ : ∃ W, W = (v9.setCell ⟨r, 7, none⟩ (.int .i64 a9)) := ⟨_, rfl⟩
      rw [← hwG]
      have QG := Lib.hid (P9.out.set (i := 7) (by omega) (.int .i64 a9))
      rw [← hwG] at QG
      clear hwG P9 x7 y7
      go_upto_region 16 with (go_at_call 48; refine (int_sd QG.out.rd E10.out).mono ?_; rintro e v10 ⟨rfl, hr, hg⟩; have P10 := Lib.hid (QG.out.read hr hg); clear hr hg; obtain ⟨x8, y8⟩ := P10.out.cell 8 rfl)
      obtain ⟨wH, hwH⟩ : ∃ W, W = (v10.setCell ⟨r, 8, none⟩ (.int .i64 a10)) := ⟨_, rfl⟩
      rw [← hwH]
      have QH := Lib.hid (P10.out.set (i := 8) (by omega) (.int .i64 a10))
      rw [← hwH] at QH
      clear hwH P10 x8 y8
      go_upto_region 17 with (go_at_call 48; refine (int_sd QH.out.rd E11.out).mono ?_; rintro e v11 ⟨rfl, hr, hg⟩; have P11 := Lib.hid (QH.out.read hr hg); clear hr hg; obtain ⟨x9, y9⟩ := P11.out.cell 9 rfl)
      obtain ⟨wI, hwI⟩ : ∃ W, W = (v11.setCell ⟨r, 9, none⟩ (.int .i64 a11)) := ⟨_, rfl⟩
      rw [← hwI]
      have QI := Lib.hid (P11.out.set (i := 9) (by omega) (.int .i64 a11))
      rw [← hwI] at QI
      clear hwI P11 x9 y9
      go_upto_region 18 with (go_at_call 48; refine (int_sd QI.out.rd E12.out).mono ?_; rintro e v12 ⟨rfl, hr, hg⟩; have P12 := Lib.hid (QI.out.read hr hg); clear hr hg; obtain ⟨x10, y10⟩ := P12.out.cell 10 rfl)
      obtain ⟨wJ, hwJ⟩ : ∃ W, W = (v12.setCell ⟨r, 10, none⟩ (.int .i64 a12)) := ⟨_, rfl⟩
      rw [← hwJ]
      have QJ := Lib.hid (P12.out.set (i := 10) (by omega) (.int .i64 a12))
      rw [← hwJ] at QJ
      clear hwJ P12 x10 y10
      obtain ⟨y0, hy0⟩ : ∃ y : RX, y = ⟨a1, strOfNums a2, Ak, k, ck, a4, a5, ⟨a6, a7, a8, a9, a10, a11, a12, zT, zT, rfl, rfl⟩⟩ := ⟨_, rfl⟩
      have QY : Hid (PK (RdD b B) W1 wJ r b (r + 1) s12 (rc y0) Ak k ck a4) := Lib.hid (by rw [hy0]; exact QJ.out)
      have YF := Lib.hid hy0
      clear QJ hy0
      go_upto_region 19 with (first
            | (go_at_call 60; refine (tag_sd QY.out.rd E13.out).mono ?_; rintro e v13 ⟨rfl, hr, hg⟩; have P13 := Lib.hid (QY.out.read hr hg); have TH1 := Lib.hid (P13.out.there 11 g13.1 (by omega)); clear hr hg)
            | (show wpList _ _ _ (⟨none, .store 42 (.tmp 66) (.tmp 64), _, _, _, _⟩ :: _) _ _; refine wpList_store_as (op := ⟨none, .store 42 (.tmp 66) (.tmp 64), _, _, _, _⟩) rfl 42 (.tmp 66) (.tmp 64) rfl r 11 (vals a13).toArray rfl rfl (TH1.out) (tag_sizeA a13 g13.1) (tag_oneA a13) ?_; intro wS hwS; have PS1 := Lib.hid (P13.out.stored g13.1 (by omega) hwS); clear hwS))
      go_upto_region 20 with (first
            | (go_at_call 60; refine (tag_sd PS1.out.rd E14.out).mono ?_; rintro e v14 ⟨rfl, hr, hg⟩; have P14 := Lib.hid (PS1.out.read hr hg); have TH2 := Lib.hid (P14.out.there 43 g14.1 (by omega)); clear hr hg)
            | (show wpList _ _ _ (⟨none, .store 42 (.tmp 70) (.tmp 68), _, _, _, _⟩ :: _) _ _; refine wpList_store_as (op := ⟨none, .store 42 (.tmp 70) (.tmp 68), _, _, _, _⟩) rfl 42 (.tmp 70) (.tmp 68) rfl r 43 (vals a14).toArray rfl rfl (TH2.out) (tag_sizeA a14 g14.1) (tag_oneA a14) ?_; intro wD hwD; have PS2 := Lib.hid (P14.out.stored g14.1 (by omega) hwD); clear hwD))
      obtain ⟨x, hx⟩ : ∃ x : RX, x = ⟨a1, strOfNums a2, Ak, k, ck, a4, a5, ⟨a6, a7, a8, a9, a10, a11, a12, a13, a14, g13.1, g14.1⟩⟩ := ⟨_, rfl⟩
      have QX0 : Hid (PK (RdD b B) W1 wD r b (r + 1) s14 (rc x) Ak k ck a4) := Lib.hid (by
        have := PS2.out
        rw [putL_H _ _ g13.1, putL_S _ _ g14.1, YF.out] at this
        rw [hx]
        exact this)
      have OW : Hid (wD.ownsRow (r + 1) 9 1 (.slice x.A x.kn x.kc) x.kn (svs x.ks)) := Lib.hid (by rw [hx]; exact QX0.out.ow)
      have OX : Hid (ROk wD wD.heap.size x) := Lib.hid (by
        have hsr := sr_of_own QX0.out.ow
        obtain ⟨_, c0, h0, hc1, hc2⟩ := own_shape QX0.out.ow
        injection h0 with _ _ h3
        subst h3
        rw [hx]
        exact ⟨g1, g5, ⟨g6, g7, g8, g9, g10, g11, g12, g13.2, g14.2⟩, hc1, hc2, hsr⟩)
      have XZ : Hid (x.z = ⟨a1, strOfNums a2, a4, a5, ⟨a6, a7, a8, a9, a10, a11, a12, a13, a14, g13.1, g14.1⟩⟩) := Lib.hid (by rw [hx]; rfl)
      have HP2 : Hid (parseR bs = if endZ s14.1 s14.2 = 0 ∧ mayR x.z = true then (x.z, 0) else (rz0, 150)) := Lib.hid (by rw [HP.out, XZ.out])
      clear hx HP XZ PS2 PS1 QY YF QB2 g1 g2 g5 g6 g7 g8 g9 g10 g11 g12 g13 g14 t0 t1 t2 t3 t4 t5 t6 t7 t8 t9 t10 t11 t12 t13 t14 E1 E2 E3 E4 E5 E6 E7 E8 E9 E10 E11 E12 E13 E14 HR TS3
      have V9 := Lib.hid (V1.out.below QX0.out.ps.below (by rw [z1.out]; omega))
      have BD := Lib.hid (b1.out.trans (QX0.out.ps.below.mono b1.out.size))
      have gD : Hid (g < wD.heap.size ∧ w.heap.size ≤ r + 1) := Lib.hid (by have h1 := QX0.out.ps.below.size; rw [z1.out] at h1; have h2 := QX0.out.ps.lo; rw [z1.out] at h2; have h3 := HG.out; have h4 := QX0.out.ps.rm; omega)
      obtain ⟨z, hz⟩ : ∃ z, endZ s14.1 s14.2 = z := ⟨_, rfl⟩
      have EM := Lib.hid (end_sd QX0.out.rd z hz)
      rw [hz] at HP2
      clear hz
      by_cases hz0 : z = 0
      · subst hz0
        obtain ⟨q, hq⟩ : ∃ q, mayR x.z = q := ⟨_, rfl⟩
        have HQ := Lib.hid hq
        rw [hq] at HP2
        clear hq
        cases q with
        | false =>
          have HP3 : Hid (parseR bs = (rz0, 150)) := Lib.hid (by rw [HP2.out]; simp)
          go_upto_region 21 with (first
                | (go_at_call 49; refine EM.out.mono ?_; rintro e v15 ⟨rfl, m13, rfl⟩; have OXm := Lib.hid ((OX.out.below (below_drewN (Below.refl _ _) m13) (Nat.le_refl _))))
                | (show wpList _ _ _ (⟨some 75, .load 46 (.tmp 5), _, _, _, some (3, false)⟩ :: _) _ _; refine wpList_load_guard (op := ⟨some 75, .load 46 (.tmp 5), _, _, _, some (3, false)⟩) (by rfl) 46 (.tmp 5) rfl (r) 0 rfl (rc x) _ (((QX0.out.ps.drew m13).box.range)) Try.underlying46 rfl (r_size x) ?_)
                | (go_at_call 23; refine (rmayreply_any (w := wD.drewN m13) false OXm.out (Nat.le_refl _) HQ.out).mono ?_; rintro e w10 ⟨rfl, hb⟩; have B10 : Hid (Below wD.heap.size wD w10) := Lib.hid ((below_drewN (Below.refl _ _) m13).trans hb); clear hb))
          have VT := Lib.hid (vthere (V9.out.grow B10.out) (us := rc r0) (rc_len _))
          go_wp2_with (first
                | (show wpList _ _ _ (⟨some 79, .build 46 #[], _, _, _, _⟩ :: _) _ _; refine wpList_exec (op := ⟨some 79, .build 46 #[], _, _, _, _⟩) rfl (.agg (rc r0).toArray) (by exact exec_r0 rfl rfl) ?_)
                | (show wpList _ _ _ (⟨none, .store 46 (.tmp 2) (.tmp 79), _, _, _, _⟩ :: _) _ _; refine wpList_store_as (op := ⟨none, .store 46 (.tmp 2) (.tmp 79), _, _, _, _⟩) rfl 46 (.tmp 2) (.tmp 79) rfl (g) 0 (rc r0).toArray rfl rfl (VT.out) (r_sizeA r0) (r_oneA r0) ?_; intro w9 hw9))
          obtain ⟨V11, b11⟩ := vstored (V9.out.grow B10.out) (rc_len r0) hw9 (by rw [HG.out]; exact Nat.le_refl _) (BD.out.trans (B10.out.mono BD.out.size))
          exact bodyPost_ret (v := .tuple #[.agg (rc r0).toArray, .int .i64 150]) (results_mid_tmp (p := 2) (u := 3) (ty := 46) rfl _ _ g 0 (rc r0) _ rfl V11.range Try.underlying46 rfl (r_size r0)) rfl (by rw [HP3.out]; exact readsR_zero 150 b11)
        | true =>
          have HP3 : Hid (parseR bs = (x.z, 0)) := Lib.hid (by rw [HP2.out]; simp)
          go_upto_region 22 with (first
                | (go_at_call 49; refine EM.out.mono ?_; rintro e v15 ⟨rfl, m13, rfl⟩; have OXm := Lib.hid ((OX.out.below (below_drewN (Below.refl _ _) m13) (Nat.le_refl _))))
                | (show wpList _ _ _ (⟨some 75, .load 46 (.tmp 5), _, _, _, some (3, false)⟩ :: _) _ _; refine wpList_load_guard (op := ⟨some 75, .load 46 (.tmp 5), _, _, _, some (3, false)⟩) (by rfl) 46 (.tmp 5) rfl (r) 0 rfl (rc x) _ (((QX0.out.ps.drew m13).box.range)) Try.underlying46 rfl (r_size x) ?_)
                | (go_at_call 23; refine (rmayreply_any (w := wD.drewN m13) true OXm.out (Nat.le_refl _) HQ.out).mono ?_; rintro e w10 ⟨rfl, hb⟩; have B10 : Hid (Below wD.heap.size wD w10) := Lib.hid ((below_drewN (Below.refl _ _) m13).trans hb); clear hb))
          have VT := Lib.hid (vthere (V9.out.grow B10.out) (us := rc x) (rc_len _))
          have VR := Lib.hid (QX0.out.ps.box.grow B10.out)
          go_wp2_with (first
                | (show wpList _ _ _ (⟨some 80, .load 46 (.tmp 5), _, _, _, _⟩ :: _) _ _; refine wpList_load_mid (op := ⟨some 80, .load 46 (.tmp 5), _, _, _, _⟩) rfl 46 (.tmp 5) rfl (r) 0 rfl (rc x) _ (VR.out.range) Try.underlying46 rfl (r_size x) ?_)
                | (show wpList _ _ _ (⟨none, .store 46 (.tmp 2) (.tmp 80), _, _, _, _⟩ :: _) _ _; refine wpList_store_as (op := ⟨none, .store 46 (.tmp 2) (.tmp 80), _, _, _, _⟩) rfl 46 (.tmp 2) (.tmp 80) rfl (g) 0 (rc x).toArray rfl rfl (VT.out) (r_sizeA x) (r_oneA x) ?_; intro w9 hw9))
          obtain ⟨V11, b11⟩ := vstored (V9.out.grow B10.out) (rc_len x) hw9 (by rw [HG.out]; exact Nat.le_refl _) (BD.out.trans (B10.out.mono BD.out.size))
          have hk : ∀ k, k ≠ g → w9.heap[k]? = w10.heap[k]? := fun k hk => by rw [hw9.out]; exact heap_setCells g k hk _ _ _
          have sz : w9.heap.size = w10.heap.size := by rw [hw9.out]; exact size_setCellsQ _ _ _ _
          have OW2 := own_below OW.out B10.out (Nat.le_refl _)
          have OW3 : w9.ownsRow w.heap.size 9 1 (.slice x.A x.kn x.kc) x.kn (svs x.ks) := own_base (own_keepB OW2 (fun k h1 h2 => hk k (by have := QX0.out.ps.lo; have := QX0.out.ps.rm; rw [z1.out] at *; omega))) gD.out.2
          have OX3 : ROk w9 w9.heap.size x := by
            have h0 := OX.out
            exact ⟨h0.err, h0.n, h0.g, h0.kc, h0.km, sr_of_own OW3⟩
          exact bodyPost_ret (v := .tuple #[.agg (rc x).toArray, .int .i64 0]) (results_mid_tmp (p := 2) (u := 3) (ty := 46) rfl _ _ g 0 (rc x) _ rfl V11.range Try.underlying46 rfl (r_size x)) rfl (by rw [HP3.out]; exact ⟨x, rfl, rfl, OX3, OW3, b11⟩)
      · have HP3 : Hid (parseR bs = (rz0, 150)) := Lib.hid (by rw [HP2.out, if_neg (fun h => hz0 h.1)])
        have hzb : (z != 0) = true := by simpa using hz0
        have VT := Lib.hid (fun m => vthere (V9.out.same (w' := wD.drewN m) rfl) (us := rc r0) (rc_len _))
        clear hz0
        go_wp2_with (first
              | (go_at_call 49; refine EM.out.mono ?_; rintro e v15 ⟨rfl, m13, rfl⟩)
              | (show wpList _ _ _ (⟨some 79, .build 46 #[], _, _, _, _⟩ :: _) _ _; refine wpList_exec (op := ⟨some 79, .build 46 #[], _, _, _, _⟩) rfl (.agg (rc r0).toArray) (by exact exec_r0 rfl rfl) ?_)
              | (show wpList _ _ _ (⟨none, .store 46 (.tmp 2) (.tmp 79), _, _, _, _⟩ :: _) _ _; refine wpList_store_as (op := ⟨none, .store 46 (.tmp 2) (.tmp 79), _, _, _, _⟩) rfl 46 (.tmp 2) (.tmp 79) rfl (g) 0 (rc r0).toArray rfl rfl (VT.out m13) (r_sizeA r0) (r_oneA r0) ?_; intro w9 hw9))
        obtain ⟨V11, b11⟩ := vstored (V9.out.same (w' := wD.drewN m13) rfl) (rc_len r0) hw9 (by rw [HG.out]; exact Nat.le_refl _) (below_drewN BD.out m13)
        exact bodyPost_ret (v := .tuple #[.agg (rc r0).toArray, .int .i64 150]) (results_mid_tmp (p := 2) (u := 3) (ty := 46) rfl _ _ g 0 (rc r0) _ rfl V11.range Try.underlying46 rfl (r_size r0)) rfl (by rw [HP3.out]; exact readsR_zero 150 b11)
end Go.Proofs.Ytcgclaailhhbpaa
