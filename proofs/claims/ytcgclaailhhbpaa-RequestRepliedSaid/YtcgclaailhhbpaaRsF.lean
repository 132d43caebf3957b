/- A reply that is read: the program's. -/
import Derived.Test.YtcgclaailhhbpaaRsE
namespace Go.Proofs.Ytcgclaailhhbpaa
open Go.ChangeShapes Go.WideShapes Go.ChangeAt Go.RowKit
set_option linter.unusedVariables false
set_option maxRecDepth 100000
set_option linter.unusedSimpArgs false
open Plain Sha Au Rp Rq
set_option maxHeartbeats 8000000 in
theorem parser_any {w : World} {B n c : Nat} {A : Option Addr} {bs : List Int} (h : Bs w B A n bs) (hB : B ≤ w.heap.size) (hc : n ≤ c) (hn : n ≤ 65536) : Calls Try.prog 26 #[.slice A n c] w (ReadsR w (parseR bs).1 (parseR bs).2) := by
  obtain ⟨g, hg⟩ : ∃ g, w.heap.size = g := ⟨_, rfl⟩
  have HG := Lib.hid hg
  obtain ⟨W1, hW1⟩ : ∃ W, W = w.alloc (.cells zR 46) := ⟨_, rfl⟩
  have b1 := Lib.hid (show Below w.heap.size w W1 by rw [hW1]; exact below_one _ _)
  have V1 := Lib.hid (show VBox W1 g 75 (rc r0) by rw [hW1]; exact vbox_new w (rc r0) _ _ _ hg (rc_len _) (by omega))
  have z1 := Lib.hid (show W1.heap.size = g + 1 by rw [hW1]; simp [hg])
  have HW1 := Lib.hid hW1
  have zk := zRk
  have zs := zR_size
  have zn := zR_ne
  clear hW1 hg
  have t0 : StB (0, bs) := ⟨h.isBytes, by rw [h.len]; omega⟩
  obtain ⟨W2, hW2⟩ : ∃ W, W = W1.alloc (.cells zR 46) := ⟨_, rfl⟩
  obtain ⟨r, hr0⟩ : ∃ r, W1.heap.size = r := ⟨_, rfl⟩
  have HRR := Lib.hid hr0
  have b2 := Lib.hid (show Below W1.heap.size W1 W2 by rw [hW2]; exact below_one _ _)
  have V2 := Lib.hid (show VBox W2 r 75 (rc r0) by rw [hW2]; exact vbox_new W1 (rc r0) _ _ _ hr0 (rc_len _) (by omega))
  have z2 := Lib.hid (show W2.heap.size = r + 1 by rw [hW2]; simp [hr0])
  have HW2 := Lib.hid hW2
  have HN2 := Lib.hid (newreader_any (w := W2) c (h.belowM (b1.out.trans (b2.out.mono b1.out.size)) hB) (Nat.le_trans hB (Nat.le_trans b1.out.size b2.out.size)) (by omega))
  have HW : Hid (newWhy bs = (0, bs)) := Lib.hid (by unfold newWhy; rw [if_pos (by rw [h.len]; omega)])
  clear hW2 hr0
  clear h
  obtain ⟨a1, s1, e1⟩ : ∃ a s, rInt (0, bs) = (a, s) := ⟨_, _, rfl⟩
  obtain ⟨a2, s2, e2⟩ : ∃ a s, rBytes s1 = (a, s) := ⟨_, _, rfl⟩
  obtain ⟨a3, s3, e3⟩ : ∃ a s, rCount 16 s2 = (a, s) := ⟨_, _, rfl⟩
  obtain ⟨c30, c31⟩ := rCount_rng (by decide) e3
  obtain ⟨cnt, hcnt⟩ : ∃ c : Nat, a3 = (c : Int) := ⟨a3.toNat, by omega⟩
  subst hcnt
  have c32 : cnt ≤ 16 := by omega
  clear c30 c31
  obtain ⟨a4, s4, e4⟩ : ∃ a s, rTexts cnt s3 = (a, s) := ⟨_, _, rfl⟩
  obtain ⟨a5, s5, e5⟩ : ∃ a s, rInt s4 = (a, s) := ⟨_, _, rfl⟩
  obtain ⟨a6, s6, e6⟩ : ∃ a s, rInt s5 = (a, s) := ⟨_, _, rfl⟩
  obtain ⟨a7, s7, e7⟩ : ∃ a s, rInt s6 = (a, s) := ⟨_, _, rfl⟩
  obtain ⟨a8, s8, e8⟩ : ∃ a s, rByte s7 = (a, s) := ⟨_, _, rfl⟩
  obtain ⟨a9, s9, e9⟩ : ∃ a s, rInt s8 = (a, s) := ⟨_, _, rfl⟩
  obtain ⟨a10, s10, e10⟩ : ∃ a s, rInt s9 = (a, s) := ⟨_, _, rfl⟩
  obtain ⟨a11, s11, e11⟩ : ∃ a s, rInt s10 = (a, s) := ⟨_, _, rfl⟩
  obtain ⟨a12, s12, e12⟩ : ∃ a s, rInt s11 = (a, s) := ⟨_, _, rfl⟩
  obtain ⟨a13, s13, e13⟩ : ∃ a s, rTag s12 = (a, s) := ⟨_, _, rfl⟩
  obtain ⟨a14, s14, e14⟩ : ∃ a s, rTag s13 = (a, s) := ⟨_, _, rfl⟩
  obtain ⟨g1, t1⟩ := int_rg t0 e1
  obtain ⟨g2, t2⟩ := bytes_rg t1 e2
  have t3 := count_rg t2 e3
  have t4 : StB s4 := by have := texts_rg cnt t3; rw [e4] at this; exact this
  obtain ⟨g5, t5⟩ := int_rg t4 e5
  obtain ⟨g6, t6⟩ := int_rg t5 e6
  obtain ⟨g7, t7⟩ := int_rg t6 e7
  obtain ⟨g8, t8⟩ := byte_rg t7 e8
  obtain ⟨g9, t9⟩ := int_rg t8 e9
  obtain ⟨g10, t10⟩ := int_rg t9 e10
  obtain ⟨g11, t11⟩ := int_rg t10 e11
  obtain ⟨g12, t12⟩ := int_rg t11 e12
  obtain ⟨g13, t13⟩ := tag_rg t12 e13
  obtain ⟨g14, t14⟩ := tag_rg t13 e14
  have HR : Hid (repR (0, bs) = (⟨a1, strOfNums a2, a4, a5, ⟨a6, a7, a8, a9, a10, a11, a12, a13, a14, g13.1, g14.1⟩⟩, s14)) := Lib.hid (by
    rw [← mkL_eq g13.1 g14.1]
    unfold repR
    simp only [e1, e2, e3, e4, e5, e6, e7, e8, e9, e10, e11, e12, e13, e14, Int.toNat_natCast])
  have TS3 := Lib.hid t3
  have E1 := Lib.hid e1
  have E2 := Lib.hid e2
  have E3 := Lib.hid e3
  have E4 := Lib.hid e4
  have E5 := Lib.hid e5
  have E6 := Lib.hid e6
  have E7 := Lib.hid e7
  have E8 := Lib.hid e8
  have E9 := Lib.hid e9
  have E10 := Lib.hid e10
  have E11 := Lib.hid e11
  have E12 := Lib.hid e12
  have E13 := Lib.hid e13
  have E14 := Lib.hid e14
  clear e1 e2 e3 e4 e5 e6 e7 e8 e9 e10 e11 e12 e13 e14
  have HP : Hid (parseR bs = if endZ s14.1 s14.2 = 0 ∧ mayR ⟨a1, strOfNums a2, a4, a5, ⟨a6, a7, a8, a9, a10, a11, a12, a13, a14, g13.1, g14.1⟩⟩ = true then (⟨a1, strOfNums a2, a4, a5, ⟨a6, a7, a8, a9, a10, a11, a12, a13, a14, g13.1, g14.1⟩⟩, 0) else (rz0, 150)) := Lib.hid (by unfold parseR; rw [HR.out])
  go_enter Try.func26, Try.ntmps26
  go_upto_region 1 with fail
  rw [← HW1.out, HG.out]
  go_upto_region 2 with fail
  rw [← HW2.out, HRR.out]
  go_upto_region 3 with (go_at_call 50; refine HN2.out.mono ?_; rintro e w3 ⟨b, rfl, hrd, hbl, hb⟩; rw [HW.out] at hrd; have HB3 := Lib.hid hb; have HBL := Lib.hid hbl; have HRD := Lib.hid hrd; clear hb hbl hrd)
  have Q0 : Hid (PK (RdP b ⟨W2.heap.size, b⟩) W1 w3 r b (b + 1) (0, bs) (rc r0) none 0 0 []) := Lib.hid
    ⟨⟨HRD.out, V2.out.below HB3.out (by rw [z2.out]; omega), b2.out.trans (HB3.out.mono b2.out.size), by rw [HRR.out]; exact Nat.le_refl _, by have := HBL.out; rw [z2.out] at this; omega, by have := HBL.out; rw [z2.out] at this; omega, by omega, HRD.out.lt, by have := HBL.out; rw [z2.out] at this; rw [HRR.out]; omega,
      rdP_keep (by show r < W2.heap.size; rw [z2.out]; omega) HBL.out (by omega), isList_nil _ _⟩, World.ownsRow_nil _ _ _ _⟩
  clear HN2 HB3 HBL HRD V2 zk zs zn
  go_upto_region 4 with (first
        | (go_at_call 54; refine (int_st Q0.out.rd E1.out).mono ?_; rintro e v1 ⟨rfl, hr, hg⟩; have P1 := Lib.hid (Q0.out.read hr hg); clear hr hg)
        | (go_at_call 53; refine (text_st P1.out.rd E2.out).mono ?_; rintro e v2 ⟨rfl, hr, hg⟩; have P2 := Lib.hid (P1.out.read hr hg); clear hr hg; obtain ⟨x0, y0⟩ := P2.out.cell 0 rfl; obtain ⟨x1, y1⟩ := P2.out.cell 1 rfl))
  obtain ⟨wB, hwB⟩ : ∃ W, W = ((v2.setCell ⟨r, 0, none⟩ (.int .i64 a1)).setCell ⟨r, 1, none⟩ (.string (strOfNums a2))) := ⟨_, rfl⟩
  rw [← hwB]
  have QB := Lib.hid ((P2.out.set (i := 0) (by omega) (.int .i64 a1)).set (i := 1) (by omega) (.string (strOfNums a2)))
  rw [← hwB] at QB
  clear hwB P2 x0 y0 x1 y1
  go_wp2_with (go_at_call 61; refine (count_st 16 QB.out.rd E3.out).mono ?_; rintro e v3 ⟨rfl, hr, hg⟩; have P3 := Lib.hid (QB.out.read hr hg); clear hr hg)
  have HS : Hid (RdSt (RdP b ⟨W2.heap.size, b⟩) W1 r b (b + 1) cnt s3 a1 (strOfNums a2) (.int .i64 0) v3) := Lib.hid ⟨0, none, 0, by omega, rfl, P3⟩
  go_loopw [16] (fun i wr => RdSt (RdP b ⟨W2.heap.size, b⟩) W1 r b (b + 1) cnt s3 a1 (strOfNums a2) i wr) (fun i _ => cnt - (intOf i).toNat)
  case atStart => exact HS.out
  case round =>
    obtain ⟨k, Ak, ck, hk, rfl, PR⟩ := hrel
    obtain ⟨x2, y2⟩ := PR.out.cell 2 rfl
    by_cases hlt : k < cnt
    · have hki : (k : Int) < (cnt : Int) := by omega
      obtain ⟨a, s', e40⟩ : ∃ a s', rBytes (rTexts k s3).2 = (a, s') := ⟨_, _, rfl⟩
      have g4 := (bytes_rg (texts_rg k TS3.out) e40).1
      have E40 := Lib.hid e40
      clear e40
      obtain ⟨L, hL⟩ : ∃ L, (rTexts k s3).1 = L := ⟨_, rfl⟩
      have HL4 := Lib.hid hL
      rw [hL] at PR
      clear hL
      go_upto_region 6 with fail
      have PD := Lib.hid PR.out.drew1
      refine Late.region (fun w' => w'.cell? ⟨r, 2, none⟩ = some (.slice Ak k ck)) [7] (by kernel_rfl) (PD.out.cell 2 rfl).1 (fun hHeld => ?_)
      refine Late.take (i := 0) (oi := ⟨some 18, Op.fieldAddr 46 (Operand.tmp 4) 2, _, _, _, _⟩) (v := ?_) rfl (by kernel_rfl) (by kernel_rfl) (by kernel_rfl) (by kernel_rfl) (fun _ _ _ h => h) (Or.inl ⟨by rfl, fun w hSw => ?_⟩) (by assumption) ?_
      rotate_left
      · (have s1 := hSw; go_simp; try with_reducible rfl)
      try simp only [Act.put, List.setIfInBounds_toArray, List.set_cons_zero, List.set_cons_succ]
      refine Late.take (i := 1) (oi := ⟨some 19, Op.load 40 (Operand.tmp 18), _, _, _, _⟩) (v := ?_) rfl (by kernel_rfl) (by kernel_rfl) (by kernel_rfl) (by kernel_rfl) (fun _ _ _ h => h) (Or.inl ⟨by rfl, fun w hSw => ?_⟩) (by assumption) ?_
      rotate_left
      · (have s1 := hSw; go_simp; try with_reducible rfl)
      try simp only [Act.put, List.setIfInBounds_toArray, List.set_cons_zero, List.set_cons_succ]
      refine Late.take (i := 2) (oi := ⟨some 20, Op.move (Operand.tmp 5), _, _, _, _⟩) (v := ?_) rfl (by kernel_rfl) (by kernel_rfl) (by kernel_rfl) (by kernel_rfl) (fun _ _ _ h => h) (Or.inl ⟨by rfl, fun w hSw => ?_⟩) (by assumption) ?_
      rotate_left
      · (have s1 := hSw; go_simp; try with_reducible rfl)
      try simp only [Act.put, List.setIfInBounds_toArray, List.set_cons_zero, List.set_cons_succ]
      refine Late.one (i := 3) (o := ⟨some 21, Op.call { callee := Callee.value (Operand.func 53), args := #[Operand.tmp 20], argTypes := #[89] }, _, _, _, _⟩) (by kernel_rfl) rfl (fun K hK => ?_)
      go_simp
      refine (text_st PD.out.rd E40.out).mono ?_
      rintro e v8 ⟨rfl, hr, hg⟩
      have P8 := Lib.hid (PD.out.read hr hg)
      clear hr hg
      have PA := Lib.hid (P8.out.ps.grow (grown_alloc v8 (.cells #[.string (strOfNums a)] 9) none) (fun j hj => by cases hj))
      have OA := Lib.hid (P8.out.ow.alloc (.cells #[.string (strOfNums a)] 9))
      refine hK.out _ _ ((P8.out.cell 2 rfl).1) (fun hHeld2 => ?_)
      clear hK K hHeld
      have hHeld := hHeld2
      clear hHeld2
      try simp only [Act.put, List.setIfInBounds_toArray, List.set_cons_zero, List.set_cons_succ]
      refine Late.one (i := 4) (o := ⟨some 22, Op.buildSlice 40 1 #[(0, Operand.tmp 21)], _, _, _, _⟩) (by kernel_rfl) rfl (fun K hK => ?_)
      go_simp
      refine hK.out _ _ ((PA.out.cell 2 rfl).1) (fun hHeld2 => ?_)
      clear hK K hHeld
      have hHeld := hHeld2
      clear hHeld2
      try simp only [Act.put, List.setIfInBounds_toArray, List.set_cons_zero, List.set_cons_succ]
      refine Late.one (i := 5) (o := ⟨some 23, Op.call { callee := Callee.builtin Builtin.append, args := #[Operand.tmp 19, Operand.tmp 22], argTypes := #[40, 40] }, _, _, _, _⟩) (by kernel_rfl) rfl (fun K hK => ?_)
      refine step_app (v8.alloc (.cells #[.string (strOfNums a)] 9)) rfl (.tmp 19) (.tmp 22) 40 rfl (b + 1) 9 1 16 Try.underlying40 str_info (by omega) (.slice Ak k ck) k (svs L) (by rfl) OA.out (some ⟨v8.heap.size, 0, none⟩) 1 1 (svs [strOfNums a]) (by rfl) (sr_new v8 (strOfNums a)).lies.1 (sr_new v8 (strOfNums a)).lies.2 (svs_one _) (by unfold maxLen; omega) (by omega) PA.out.ms ?_
      intro v1 w9 ho1 hg1 _
      obtain ⟨A9, c9, rfl, _, _⟩ := own_shape ho1
      have P9 : Hid (PK (RdP b ⟨W2.heap.size, b⟩) W1 w9 r b (b + 1) s' (rc ⟨a1, strOfNums a2, Ak, k, ck, L, 0, l0⟩) A9 (k + 1) c9 (L ++ [strOfNums a])) := Lib.hid ⟨PA.out.grow hg1 (fun j hj => (OA.out.lt j hj).1), by rw [svs_app]; exact ho1⟩
      clear ho1 hg1
      refine hK.out _ _ ((P9.out.cell 2 rfl).1) (fun hHeld2 => ?_)
      clear hK K hHeld
      have hHeld := hHeld2
      clear hHeld2
      try simp only [Act.put, List.setIfInBounds_toArray, List.set_cons_zero, List.set_cons_succ]
      refine Late.take (i := 6) (oi := ⟨some 24, Op.fieldAddr 46 (Operand.tmp 4) 2, _, _, _, _⟩) (v := ?_) rfl (by kernel_rfl) (by kernel_rfl) (by kernel_rfl) (by kernel_rfl) (fun _ _ _ h => h) (Or.inl ⟨by rfl, fun w hSw => ?_⟩) (by assumption) ?_
      rotate_left
      · (have s1 := hSw; go_simp; try with_reducible rfl)
      try simp only [Act.put, List.setIfInBounds_toArray, List.set_cons_zero, List.set_cons_succ]
      refine Late.end_ (i := 7) (o := ⟨none, Op.store 40 (Operand.tmp 24) (Operand.tmp 23), _, _, _, _⟩) (by kernel_rfl) rfl rfl (fun K hK => ?_)
      obtain ⟨x2', y2'⟩ := P9.out.cell 2 rfl
      go_simp
      refine hK.out _ _ ?_
      clear hK K
      try simp only [Act.put]
      refine Late.done (by kernel_rfl) ?_ _
      refine NoPanic.normal ?_
      have P9c := Lib.hid (show PK (RdP b ⟨W2.heap.size, b⟩) W1 w9 r b (b + 1) s' (rc ⟨a1, strOfNums a2, Ak, k, ck, L, 0, l0⟩) A9 (k + 1) c9 (L ++ [strOfNums a]) from P9.out)
      clear hHeld
      go_wp2
      have HE : Hid (rTexts (k + 1) s3 = (L ++ [strOfNums a], s')) := Lib.hid (by rw [rTexts_step E40.out, HL4.out])
      have P10 := Lib.hid (P9.out.set (i := 2) (by omega) (.slice A9 ((k + 1 : Nat)) c9))
      go_roundw
      case rel => exact ⟨k + 1, A9, c9, by omega, by go_num, Lib.hid (by
        rw [HE.out]
        have := P10.out
        rw [rc_sl _ _ _ _ _ _ _ _ _ (L ++ [strOfNums a])] at this
        exact this)⟩
      case measure => simp [intOf]; omega
    · have hki : ¬ (k : Int) < (cnt : Int) := by omega
      obtain rfl : k = cnt := by omega
      rw [E4.out] at PR
      have QB2 := PR
      clear PR HS P3 QB hlt hk x2 y2
      have GA := QB2
      have GB := QB2
      have GC := QB2
      go_upto_region 9 with (first
            | (have g := GA; clear g; go_at_call 54; refine (int_st QB2.out.rd E5.out).mono ?_; rintro e v5 ⟨rfl, hr, hg⟩; have P5 := Lib.hid (QB2.out.read hr hg); clear hr hg; clear GA)
            | (have g := GB; clear g; go_at_call 54; refine (int_st P5.out.rd E6.out).mono ?_; rintro e v6 ⟨rfl, hr, hg⟩; have P6 := Lib.hid (P5.out.read hr hg); clear hr hg; clear GB)
            | (have g := GC; clear g; go_at_call 54; refine (int_st P6.out.rd E7.out).mono ?_; rintro e v7 ⟨rfl, hr, hg⟩; have P7 := Lib.hid (P6.out.read hr hg); clear hr hg; clear GC)
            | (go_at_call 51; refine (byte_st P7.out.rd E8.out).mono ?_; rintro e v8 ⟨rfl, hr, hg⟩; have P8 := Lib.hid (P7.out.read hr hg); clear hr hg; obtain ⟨x3, y3⟩ := P8.out.cell 3 rfl; obtain ⟨x4, y4⟩ := P8.out.cell 4 rfl; obtain ⟨x5, y5⟩ := P8.out.cell 5 rfl; obtain ⟨x6, y6⟩ := P8.out.cell 6 rfl))
      obtain ⟨wF, hwF⟩ : ∃ W, W = ((((v8.setCell ⟨r, 3, none⟩ (.int .i64 a5)).setCell ⟨r, 4, none⟩ (.int .i64 a6)).setCell ⟨r, 5, none⟩ (.int .i64 a7)).setCell ⟨r, 6, none⟩ (.int .u8 a8)) := ⟨_, rfl⟩
      rw [← hwF]
      have QF := Lib.hid ((((P8.out.set (i := 3) (by omega) (.int .i64 a5)).set (i := 4) (by omega) (.int .i64 a6)).set (i := 5) (by omega) (.int .i64 a7)).set (i := 6) (by omega) (.int .u8 a8))
      rw [← hwF] at QF
      clear hwF P8 x3 y3 x4 y4 x5 y5 x6 y6
      have GA := QF
      have GB := QF
      have GC := QF
      have GD := QF
      go_upto_region 10 with (first
            | (have g := GA; clear g; go_at_call 54; refine (int_st QF.out.rd E9.out).mono ?_; rintro e v9 ⟨rfl, hr, hg⟩; have P9 := Lib.hid (QF.out.read hr hg); clear hr hg; clear GA)
            | (have g := GB; clear g; go_at_call 54; refine (int_st P9.out.rd E10.out).mono ?_; rintro e v10 ⟨rfl, hr, hg⟩; have P10 := Lib.hid (P9.out.read hr hg); clear hr hg; clear GB)
            | (have g := GC; clear g; go_at_call 54; refine (int_st P10.out.rd E11.out).mono ?_; rintro e v11 ⟨rfl, hr, hg⟩; have P11 := Lib.hid (P10.out.read hr hg); clear hr hg; clear GC)
            | (have g := GD; clear g; go_at_call 54; refine (int_st P11.out.rd E12.out).mono ?_; rintro e v12 ⟨rfl, hr, hg⟩; have P12 := Lib.hid (P11.out.read hr hg); clear hr hg; obtain ⟨x7, y7⟩ := P12.out.cell 7 rfl; obtain ⟨x8, y8⟩ := P12.out.cell 8 rfl; obtain ⟨x9, y9⟩ := P12.out.cell 9 rfl; obtain ⟨x10, y10⟩ := P12.out.cell 10 rfl; clear GD))
      obtain ⟨wJ, hwJ⟩ : ∃ W, W = ((((v12.setCell ⟨r, 7, none⟩ (.int .i64 a9)).setCell ⟨r, 8, none⟩ (.int .i64 a10)).setCell ⟨r, 9, none⟩ (.int .i64 a11)).setCell ⟨r, 10, none⟩ (.int .i64 a12)) := ⟨_, rfl⟩
      rw [← hwJ]
      have QJ := Lib.hid ((((P12.out.set (i := 7) (by omega) (.int .i64 a9)).set (i := 8) (by omega) (.int .i64 a10)).set (i := 9) (by omega) (.int .i64 a11)).set (i := 10) (by omega) (.int .i64 a12))
      rw [← hwJ] at QJ
      clear hwJ P12 x7 y7 x8 y8 x9 y9 x10 y10
      obtain ⟨y0, hy0⟩ : ∃ y : RX, y = ⟨a1, strOfNums a2, Ak, k, ck, a4, a5, ⟨a6, a7, a8, a9, a10, a11, a12, zT, zT, rfl, rfl⟩⟩ := ⟨_, rfl⟩
      have QY : Hid (PK (RdP b ⟨W2.heap.size, b⟩) W1 wJ r b (b + 1) s12 (rc y0) Ak k ck a4) := Lib.hid (by rw [hy0]; exact QJ.out)
      have YF := Lib.hid hy0
      clear QJ hy0
      have GA := QY
      have GB := QY
      go_upto_region 11 with (first
            | (have g := GA; clear g; go_at_call 62; refine (tag_st QY.out.rd E13.out).mono ?_; rintro e v13 ⟨rfl, hr, hg⟩; have P13 := Lib.hid (QY.out.read hr hg); clear hr hg; clear GA)
            | (have g := GB; clear g; go_at_call 62; refine (tag_st P13.out.rd E14.out).mono ?_; rintro e v14 ⟨rfl, hr, hg⟩; have P14 := Lib.hid (P13.out.read hr hg); clear hr hg; have TH1 := Lib.hid (P14.out.there 11 g13.1 (by omega)); clear GB)
            | (show wpList _ _ _ (⟨none, .store 42 (.tmp 62) (.tmp 58), _, _, _, _⟩ :: _) _ _; refine wpList_store_as (op := ⟨none, .store 42 (.tmp 62) (.tmp 58), _, _, _, _⟩) rfl 42 (.tmp 62) (.tmp 58) rfl r 11 (vals a13).toArray rfl rfl (TH1.out) (tag_sizeA a13 g13.1) (tag_oneA a13) ?_; intro wS hwS; have PS1 := Lib.hid (P14.out.stored g13.1 (by omega) hwS); have TH2 := Lib.hid (PS1.out.there 43 g14.1 (by omega)); clear hwS)
            | (show wpList _ _ _ (⟨none, .store 42 (.tmp 64) (.tmp 60), _, _, _, _⟩ :: _) _ _; refine wpList_store_as (op := ⟨none, .store 42 (.tmp 64) (.tmp 60), _, _, _, _⟩) rfl 42 (.tmp 64) (.tmp 60) rfl r 43 (vals a14).toArray rfl rfl (TH2.out) (tag_sizeA a14 g14.1) (tag_oneA a14) ?_; intro wD hwD; have PS2 := Lib.hid (PS1.out.stored g14.1 (by omega) hwD); clear hwD))
      obtain ⟨x, hx⟩ : ∃ x : RX, x = ⟨a1, strOfNums a2, Ak, k, ck, a4, a5, ⟨a6, a7, a8, a9, a10, a11, a12, a13, a14, g13.1, g14.1⟩⟩ := ⟨_, rfl⟩
      have QX0 : Hid (PK (RdP b ⟨W2.heap.size, b⟩) W1 wD r b (b + 1) s14 (rc x) Ak k ck a4) := Lib.hid (by
        have := PS2.out
        rw [putL_H _ _ g13.1, putL_S _ _ g14.1, YF.out] at this
        rw [hx]
        exact this)
      have OW : Hid (wD.ownsRow (b + 1) 9 1 (.slice x.A x.kn x.kc) x.kn (svs x.ks)) := Lib.hid (by rw [hx]; exact QX0.out.ow)
      have OX : Hid (ROk wD wD.heap.size x) := Lib.hid (by
        have hsr := sr_of_own QX0.out.ow
        obtain ⟨_, c0, h0, hc1, hc2⟩ := own_shape QX0.out.ow
        injection h0 with _ _ h3
        subst h3
        rw [hx]
        exact ⟨g1, g5, ⟨g6, g7, g8, g9, g10, g11, g12, g13.2, g14.2⟩, hc1, hc2, hsr⟩)
      have XZ : Hid (x.z = ⟨a1, strOfNums a2, a4, a5, ⟨a6, a7, a8, a9, a10, a11, a12, a13, a14, g13.1, g14.1⟩⟩) := Lib.hid (by rw [hx]; rfl)
      have HP2 : Hid (parseR bs = if endZ s14.1 s14.2 = 0 ∧ mayR x.z = true then (x.z, 0) else (rz0, 150)) := Lib.hid (by rw [HP.out, XZ.out])
      clear hx HP XZ PS2 PS1 QY YF QB2 g1 g2 g5 g6 g7 g8 g9 g10 g11 g12 g13 g14 t0 t1 t2 t3 t4 t5 t6 t7 t8 t9 t10 t11 t12 t13 t14 E1 E2 E3 E4 E5 E6 E7 E8 E9 E10 E11 E12 E13 E14 HR TS3
      have V9 := Lib.hid (V1.out.below QX0.out.ps.below (by rw [z1.out]; omega))
      have BD := Lib.hid (b1.out.trans (QX0.out.ps.below.mono b1.out.size))
      have gD : Hid (g < wD.heap.size ∧ w.heap.size ≤ b + 1) := Lib.hid (by have h1 := QX0.out.ps.below.size; rw [z1.out] at h1; have h2 := QX0.out.ps.lo; rw [z1.out] at h2; have h3 := HG.out; have h4 := QX0.out.ps.rm; omega)
      obtain ⟨z, hz⟩ : ∃ z, endZ s14.1 s14.2 = z := ⟨_, rfl⟩
      have EM := Lib.hid (end_st QX0.out.rd z hz)
      rw [hz] at HP2
      clear hz
      by_cases hz0 : z = 0
      · subst hz0
        obtain ⟨q, hq⟩ : ∃ q, mayR x.z = q := ⟨_, rfl⟩
        have HQ := Lib.hid hq
        rw [hq] at HP2
        clear hq
        cases q with
        | false =>
          have HP3 : Hid (parseR bs = (rz0, 150)) := Lib.hid (by rw [HP2.out]; simp)
          go_upto_region 12 with (first
                | (go_at_call 55; refine EM.out.mono ?_; rintro e v15 ⟨rfl, rfl⟩)
                | (show wpList _ _ _ (⟨some 69, .load 46 (.tmp 4), _, _, _, some (3, false)⟩ :: _) _ _; refine wpList_load_guard (op := ⟨some 69, .load 46 (.tmp 4), _, _, _, some (3, false)⟩) (by rfl) 46 (.tmp 4) rfl (r) 0 rfl (rc x) _ ((QX0.out.ps.box.range)) Try.underlying46 rfl (r_size x) ?_)
                | (go_at_call 56; refine (mayreply_any (w := wD) false OX.out (Nat.le_refl _) HQ.out).mono ?_; rintro e w10 ⟨rfl, hb⟩; have B10 := Lib.hid hb; clear hb))
          have VT := Lib.hid (vthere (V9.out.grow B10.out) (us := rc r0) (rc_len _))
          go_wp2_with (first
                | (show wpList _ _ _ (⟨some 73, .build 46 #[], _, _, _, _⟩ :: _) _ _; refine wpList_exec (op := ⟨some 73, .build 46 #[], _, _, _, _⟩) rfl (.agg (rc r0).toArray) (by exact exec_r0 rfl rfl) ?_)
                | (show wpList _ _ _ (⟨none, .store 46 (.tmp 2) (.tmp 73), _, _, _, _⟩ :: _) _ _; refine wpList_store_as (op := ⟨none, .store 46 (.tmp 2) (.tmp 73), _, _, _, _⟩) rfl 46 (.tmp 2) (.tmp 73) rfl (g) 0 (rc r0).toArray rfl rfl (VT.out) (r_sizeA r0) (r_oneA r0) ?_; intro w9 hw9))
          obtain ⟨V11, b11⟩ := vstored (V9.out.grow B10.out) (rc_len r0) hw9 (by rw [HG.out]; exact Nat.le_refl _) (BD.out.trans (B10.out.mono BD.out.size))
          exact bodyPost_ret (v := .tuple #[.agg (rc r0).toArray, .int .i64 150]) (results_mid_tmp (p := 2) (u := 3) (ty := 46) rfl _ _ g 0 (rc r0) _ rfl V11.range Try.underlying46 rfl (r_size r0)) rfl (by rw [HP3.out]; exact readsR_zero 150 b11)
        | true =>
          have HP3 : Hid (parseR bs = (x.z, 0)) := Lib.hid (by rw [HP2.out]; simp)
          go_upto_region 13 with (first
                | (go_at_call 55; refine EM.out.mono ?_; rintro e v15 ⟨rfl, rfl⟩)
                | (show wpList _ _ _ (⟨some 69, .load 46 (.tmp 4), _, _, _, some (3, false)⟩ :: _) _ _; refine wpList_load_guard (op := ⟨some 69, .load 46 (.tmp 4), _, _, _, some (3, false)⟩) (by rfl) 46 (.tmp 4) rfl (r) 0 rfl (rc x) _ ((QX0.out.ps.box.range)) Try.underlying46 rfl (r_size x) ?_)
                | (go_at_call 56; refine (mayreply_any (w := wD) true OX.out (Nat.le_refl _) HQ.out).mono ?_; rintro e w10 ⟨rfl, hb⟩; have B10 := Lib.hid hb; clear hb))
          have VT := Lib.hid (vthere (V9.out.grow B10.out) (us := rc x) (rc_len _))
          have VR := Lib.hid (QX0.out.ps.box.grow B10.out)
          go_wp2_with (first
                | (show wpList _ _ _ (⟨some 74, .load 46 (.tmp 4), _, _, _, _⟩ :: _) _ _; refine wpList_load_mid (op := ⟨some 74, .load 46 (.tmp 4), _, _, _, _⟩) rfl 46 (.tmp 4) rfl (r) 0 rfl (rc x) _ (VR.out.range) Try.underlying46 rfl (r_size x) ?_)
                | (show wpList _ _ _ (⟨none, .store 46 (.tmp 2) (.tmp 74), _, _, _, _⟩ :: _) _ _; refine wpList_store_as (op := ⟨none, .store 46 (.tmp 2) (.tmp 74), _, _, _, _⟩) rfl 46 (.tmp 2) (.tmp 74) rfl (g) 0 (rc x).toArray rfl rfl (VT.out) (r_sizeA x) (r_oneA x) ?_; intro w9 hw9))
          obtain ⟨V11, b11⟩ := vstored (V9.out.grow B10.out) (rc_len x) hw9 (by rw [HG.out]; exact Nat.le_refl _) (BD.out.trans (B10.out.mono BD.out.size))
          have hk : ∀ k, k ≠ g → w9.heap[k]? = w10.heap[k]? := fun k hk => by rw [hw9.out]; exact heap_setCells g k hk _ _ _
          have sz : w9.heap.size = w10.heap.size := by rw [hw9.out]; exact size_setCellsQ _ _ _ _
          have OW2 := own_below OW.out B10.out (Nat.le_refl _)
          have OW3 : w9.ownsRow w.heap.size 9 1 (.slice x.A x.kn x.kc) x.kn (svs x.ks) := own_base (own_keepB OW2 (fun k h1 h2 => hk k (by have := QX0.out.ps.lo; have := QX0.out.ps.rm; rw [z1.out] at *; omega))) gD.out.2
          have OX3 : ROk w9 w9.heap.size x := by
            have h0 := OX.out
            exact ⟨h0.err, h0.n, h0.g, h0.kc, h0.km, sr_of_own OW3⟩
          exact bodyPost_ret (v := .tuple #[.agg (rc x).toArray, .int .i64 0]) (results_mid_tmp (p := 2) (u := 3) (ty := 46) rfl _ _ g 0 (rc x) _ rfl V11.range Try.underlying46 rfl (r_size x)) rfl (by rw [HP3.out]; exact ⟨x, rfl, rfl, OX3, OW3, b11⟩)
      · have HP3 : Hid (parseR bs = (rz0, 150)) := Lib.hid (by rw [HP2.out, if_neg (fun h => hz0 h.1)])
        have hzb : (z != 0) = true := by simpa using hz0
        have VT := Lib.hid (vthere V9.out (us := rc r0) (rc_len _))
        clear hz0
        go_wp2_with (first
              | (go_at_call 55; refine EM.out.mono ?_; rintro e v15 ⟨rfl, rfl⟩)
              | (show wpList _ _ _ (⟨some 73, .build 46 #[], _, _, _, _⟩ :: _) _ _; refine wpList_exec (op := ⟨some 73, .build 46 #[], _, _, _, _⟩) rfl (.agg (rc r0).toArray) (by exact exec_r0 rfl rfl) ?_)
              | (show wpList _ _ _ (⟨none, .store 46 (.tmp 2) (.tmp 73), _, _, _, _⟩ :: _) _ _; refine wpList_store_as (op := ⟨none, .store 46 (.tmp 2) (.tmp 73), _, _, _, _⟩) rfl 46 (.tmp 2) (.tmp 73) rfl (g) 0 (rc r0).toArray rfl rfl (VT.out) (r_sizeA r0) (r_oneA r0) ?_; intro w9 hw9))
        obtain ⟨V11, b11⟩ := vstored V9.out (rc_len r0) hw9 (by rw [HG.out]; exact Nat.le_refl _) BD.out
        exact bodyPost_ret (v := .tuple #[.agg (rc r0).toArray, .int .i64 150]) (results_mid_tmp (p := 2) (u := 3) (ty := 46) rfl _ _ g 0 (rc r0) _ rfl V11.range Try.underlying46 rfl (r_size r0)) rfl (by rw [HP3.out]; exact readsR_zero 150 b11)
end Go.Proofs.Ytcgclaailhhbpaa
