/- Parse: the document's. -/
import Derived.Test.YtlknjaoamkcmjaaLkE
import Derived.Test.YtlknjaoamkcmjaaLkRm
namespace Go.Proofs.Ytlknjaoamkcmjaa
open Go.ChangeShapes Go.WideShapes Go.ChangeAt Go.RowKit
set_option linter.unusedVariables false
set_option maxRecDepth 100000
set_option linter.unusedSimpArgs false
open Plain Sha Wn Lk
set_option maxHeartbeats 8000000 in
theorem rlparse_any {w : World} {B n : Nat} (c : Nat) {A : Option Addr} {bs : List Int} (h : Bs w B A n bs) (hB : B ≤ w.heap.size) (hn : n ≤ c) (hs : n ≤ 65000) : Calls Try.prog 5 #[.slice A n c] w (ReadsP w (parseL bs).1 (parseL bs).2) := by
  obtain ⟨g, hg⟩ : ∃ g, w.heap.size = g := ⟨_, rfl⟩
  have HG := Lib.hid hg
  obtain ⟨W1, hW1⟩ : ∃ W, W = w.alloc (.cells zPc 26) := ⟨_, rfl⟩
  have b1 := Lib.hid (show Below w.heap.size w W1 by rw [hW1]; exact below_one _ _)
  have V1 := Lib.hid (show VBox W1 g 38 (pc px0) by rw [hW1]; exact zbox_new w _ g hg)
  have z1 := Lib.hid (show W1.heap.size = g + 1 by rw [hW1]; simp [hg])
  have HW1 := Lib.hid hW1
  have HN1 := Lib.hid (new_rr (w := W1) c (h.belowM b1.out hB) (Nat.le_trans hB b1.out.size) hn (by omega))
  have HBB := Lib.hid (show B ≤ W1.heap.size from Nat.le_trans hB b1.out.size)
  have t0 : StL (0, bs) := ⟨h.isBytes, by show bs.length ≤ _; rw [h.len]; omega⟩
  have HS : Hid (newWhy bs = (0, bs)) := Lib.hid (newWhy_ok (by rw [h.len]; omega))
  clear hW1 hg h hB hn hs
  obtain ⟨a1, s1, e1⟩ : ∃ a s, rInt (0, bs) = (a, s) := ⟨_, _, rfl⟩
  obtain ⟨a2, s2, e2⟩ : ∃ a s, rInt s1 = (a, s) := ⟨_, _, rfl⟩
  obtain ⟨a3, s3, e3⟩ : ∃ a s, rInt s2 = (a, s) := ⟨_, _, rfl⟩
  obtain ⟨a4, s4, e4⟩ : ∃ a s, rInt s3 = (a, s) := ⟨_, _, rfl⟩
  obtain ⟨a5, s5, e5⟩ : ∃ a s, rInt s4 = (a, s) := ⟨_, _, rfl⟩
  obtain ⟨a6, s6, e6⟩ : ∃ a s, rBytes s5 = (a, s) := ⟨_, _, rfl⟩
  obtain ⟨a7, s7, e7⟩ : ∃ a s, rTag s6 = (a, s) := ⟨_, _, rfl⟩
  obtain ⟨g1, t1⟩ := int_rg t0 e1
  obtain ⟨g2, t2⟩ := int_rg t1 e2
  obtain ⟨g3, t3⟩ := int_rg t2 e3
  obtain ⟨g4, t4⟩ := int_rg t3 e4
  obtain ⟨g5, t5⟩ := int_rg t4 e5
  obtain ⟨g6, t6⟩ := bytes_rg t5 e6
  obtain ⟨g7, t7⟩ := tag_rg t6 e7
  have HR : Hid (pkR (0, bs) = (⟨a1, a2, a3, a4, a5, a6, a7⟩, s7)) := Lib.hid (by
    unfold pkR
    simp only [e1, e2, e3, e4, e5, e6, e7])
  have E1 := Lib.hid e1
  have E2 := Lib.hid e2
  have E3 := Lib.hid e3
  have E4 := Lib.hid e4
  have E5 := Lib.hid e5
  have E6 := Lib.hid e6
  have E7 := Lib.hid e7
  clear e1 e2 e3 e4 e5 e6 e7
  have HP : Hid (parseL bs = if endZ s7.1 s7.2 = 0 ∧ mayP ⟨a1, a2, a3, a4, a5, a6, a7⟩ = true then (⟨a1, a2, a3, a4, a5, a6, a7⟩, 0) else (p0, 190)) := Lib.hid (by unfold parseL; rw [HS.out, HR.out])
  have zk := zPk
  have zs := zPc_size
  have zn := zPc_ne
  go_enter Try.func5, Try.ntmps5
  go_upto_region 1 with fail
  rw [← HW1.out, HG.out]
  go_upto_region 2 with (go_at_call 13; refine HN1.out.mono ?_; rintro e w3 ⟨rfl, hrd, hb, hlt⟩; have HB3 := Lib.hid hb; have HRD := Lib.hid hrd; have HLT := Lib.hid hlt; clear hb hrd hlt)
  obtain ⟨b, hb0⟩ : ∃ b, W1.heap.size = b := ⟨_, rfl⟩
  rw [hb0] at HRD HLT
  rw [hb0]
  have HBb := Lib.hid hb0
  obtain ⟨W4, hW4⟩ : ∃ W, W = w3.alloc (.cells zPc 26) := ⟨_, rfl⟩
  obtain ⟨r, hr0⟩ : ∃ r, w3.heap.size = r := ⟨_, rfl⟩
  have HRR := Lib.hid hr0
  have b4 := Lib.hid (show Below w3.heap.size w3 W4 by rw [hW4]; exact below_one _ _)
  have V4 := Lib.hid (show VBox W4 r 38 (pc px0) by rw [hW4]; exact zbox_new w3 _ r hr0)
  have z4 := Lib.hid (show W4.heap.size = r + 1 by rw [hW4]; simp [hr0])
  have HW4 := Lib.hid hW4
  clear hW4 hr0 hb0
  go_upto_region 3 with fail
  rw [← HW4.out, HRR.out]
  have LT : Hid (b < r) := Lib.hid (by have := HLT.out; rw [HRR.out] at this; omega)
  have Q0 : Hid (PS (RdD b B) W1 W4 r b (r + 1) 38 (0, bs) (pc px0) (.slice none 0 0) []) := Lib.hid
    ⟨HRD.out.below b4.out (by rw [HRR.out]; exact LT.out), V4.out, HB3.out.trans (b4.out.mono HB3.out.size), by rw [← HRR.out]; exact HB3.out.size, by have := LT.out; omega, by omega, by have := LT.out; omega, by rw [z4.out]; exact Nat.le_refl _, by rw [HBb.out]; exact Nat.le_refl _,
      rdD_keep (by have := HBB.out; have := LT.out; rw [HBb.out] at *; omega) (by have := LT.out; omega) (by rw [← HBb.out]; exact HBB.out) (by have := LT.out; omega), isList_none _ _⟩
  clear HN1 HB3 HRD V4 zk zs zn
  go_upto_region 4 with (go_at_call 14; refine (int_sd Q0.out.rd E1.out).mono ?_; rintro e v1 ⟨rfl, hr, hg⟩; have P1 := Lib.hid (Q0.out.read hr hg); clear hr hg; obtain ⟨x0, y0⟩ := P1.out.cell 0 rfl)
  obtain ⟨wA, hwA⟩ : ∃ W, W = (v1.setCell ⟨r, 0, none⟩ (.int .i64 a1)) := ⟨_, rfl⟩
  rw [← hwA]
  have QA := Lib.hid (P1.out.set (i := 0) (by omega) (.int .i64 a1))
  rw [← hwA] at QA
  clear hwA P1 x0 y0
  go_upto_region 5 with (go_at_call 14; refine (int_sd QA.out.rd E2.out).mono ?_; rintro e v2 ⟨rfl, hr, hg⟩; have P2 := Lib.hid (QA.out.read hr hg); clear hr hg; obtain ⟨x1, y1⟩ := P2.out.cell 1 rfl)
  obtain ⟨wB, hwB⟩ : ∃ W, W = (v2.setCell ⟨r, 1, none⟩ (.int .i64 a2)) := ⟨_, rfl⟩
  rw [← hwB]
  have QB := Lib.hid (P2.out.set (i := 1) (by omega) (.int .i64 a2))
  rw [← hwB] at QB
  clear hwB P2 x1 y1
  go_upto_region 6 with (go_at_call 14; refine (int_sd QB.out.rd E3.out).mono ?_; rintro e v3 ⟨rfl, hr, hg⟩; have P3 := Lib.hid (QB.out.read hr hg); clear hr hg; obtain ⟨x2, y2⟩ := P3.out.cell 2 rfl)
  obtain ⟨wC, hwC⟩ : ∃ W, W = (v3.setCell ⟨r, 2, none⟩ (.int .i64 a3)) := ⟨_, rfl⟩
  rw [← hwC]
  have QC := Lib.hid (P3.out.set (i := 2) (by omega) (.int .i64 a3))
  rw [← hwC] at QC
  clear hwC P3 x2 y2
  go_upto_region 7 with (go_at_call 14; refine (int_sd QC.out.rd E4.out).mono ?_; rintro e v4 ⟨rfl, hr, hg⟩; have P4 := Lib.hid (QC.out.read hr hg); clear hr hg; obtain ⟨x3, y3⟩ := P4.out.cell 3 rfl)
  obtain ⟨wD, hwD⟩ : ∃ W, W = (v4.setCell ⟨r, 3, none⟩ (.int .i64 a4)) := ⟨_, rfl⟩
  rw [← hwD]
  have QD := Lib.hid (P4.out.set (i := 3) (by omega) (.int .i64 a4))
  rw [← hwD] at QD
  clear hwD P4 x3 y3
  go_upto_region 8 with (go_at_call 14; refine (int_sd QD.out.rd E5.out).mono ?_; rintro e v5 ⟨rfl, hr, hg⟩; have P5 := Lib.hid (QD.out.read hr hg); clear hr hg; obtain ⟨x4, y4⟩ := P5.out.cell 4 rfl)
  obtain ⟨wE, hwE⟩ : ∃ W, W = (v5.setCell ⟨r, 4, none⟩ (.int .i64 a5)) := ⟨_, rfl⟩
  rw [← hwE]
  have QE := Lib.hid (P5.out.set (i := 4) (by omega) (.int .i64 a5))
  rw [← hwE] at QE
  clear hwE P5 x4 y4
  go_upto_region 9 with (go_at_call 15; refine (bytes_sd QE.out.rd E6.out).mono ?_; rintro e v6 ⟨T, rfl, hr, hg, hl⟩; have P6 := Lib.hid ((QE.out.read hr hg).list (hl.base QE.out.ms)); obtain ⟨AT, cT, rfl, _, _⟩ := hl; clear hr hg; obtain ⟨x5, y5⟩ := P6.out.cell 5 rfl)
  obtain ⟨wF, hwF⟩ : ∃ W, W = (v6.setCell ⟨r, 5, none⟩ (.slice AT a6.length cT)) := ⟨_, rfl⟩
  rw [← hwF]
  have QF := Lib.hid (P6.out.set (i := 5) (by omega) (.slice AT a6.length cT))
  rw [← hwF] at QF
  clear hwF P6 x5 y5
  obtain ⟨x6, hx6⟩ : ∃ x : PX, x = ⟨⟨a1, a2, a3, a4, a5, a6, List.replicate 32 0⟩, AT, a6.length, cT⟩ := ⟨_, rfl⟩
  have h6t : x6.z.tag.length = 32 := by rw [hx6]; exact List.length_replicate ..
  have QG := Lib.hid (show PS (RdD b B) W1 wF r b (r + 1) 38 s6 (pc x6) (.slice AT a6.length cT) a6 by rw [hx6]; exact QF.out)
  have H6T := Lib.hid h6t
  have L7 := Lib.hid g7.1
  clear QF h6t
  go_upto_region 10 with (first
        | (go_at_call 16; refine (tag_sd QG.out.rd E7.out).mono ?_; rintro e v7 ⟨rfl, hr, hg⟩; have P7 := Lib.hid (QG.out.read hr hg); have TH := Lib.hid (show v7.there r 6 (vals a7).toArray.size by rw [List.size_toArray, vals_len, L7.out]; exact (QG.out.read hr hg).box.thereI (by omega)); clear hr hg)
        | (show wpList _ _ _ (⟨none, .store 24 (.tmp 28) (.tmp 27), _, _, _, _⟩ :: _) _ _; refine wpList_store_as (op := ⟨none, .store 24 (.tmp 28) (.tmp 27), _, _, _, _⟩) rfl 24 (.tmp 28) (.tmp 27) rfl (r) 6 (vals a7).toArray rfl rfl (TH.out) (tag_size a7 L7.out) (all_oneCell_toArray (vals_one a7)) ?_; intro w8 hw8))
  have V7 : VBox w8 r 38 (pc { x6 with z := { x6.z with tag := a7 } }) := set_tagL x6 a7 H6T.out L7.out P7.out.box hw8
  have hk8 : ∀ k, k ≠ r → w8.heap[k]? = v7.heap[k]? := fun k hk => by rw [hw8.out]; exact heap_setCells r k hk _ _ _
  have s8 : w8.heap.size = v7.heap.size := by rw [hw8.out]; exact size_setCellsQ _ _ _ _
  have g8 : v7.grownBy w8 (some r) := by rw [hw8.out]; exact grown_setCells _ _ _ (grown_refl _ _)
  have RD8 : RdD b B w8 s7 := P7.out.keep v7 w8 s7 (some r) P7.out.rd g8 (fun j hj => by injection hj with hj; exact .inl hj.symm)
  have BT8 : Below W1.heap.size W1 w8 := by rw [hw8.out]; exact below_setCells P7.out.lo _ _ _ P7.out.below
  have LO := Lib.hid P7.out.lo
  have T8 := P7.out.tok.keep (w' := w8) (fun k h1 h2 => hk8 k (by omega))
  obtain ⟨x, hx⟩ : ∃ x : PX, x = { x6 with z := { x6.z with tag := a7 } } := ⟨_, rfl⟩
  rw [← hx] at V7
  have hxe : x = ⟨⟨a1, a2, a3, a4, a5, a6, a7⟩, AT, a6.length, cT⟩ := by rw [hx, hx6]
  have hxt : x.z.tag.length = 32 := by rw [hxe]; exact g7.1
  have O8 : w8.ownsRow (r + 1) 5 1 (.slice x.A x.n x.c) x.n (vals x.z.body) ∧ x.n ≤ x.c ∧ x.c ≤ maxLen := by
    obtain ⟨A0, c0, h0, ho, h1, h2⟩ := T8
    injection h0 with q1 q2 q3
    subst q1 q3
    rw [hxe]
    exact ⟨ho, h1, h2⟩
  have OK8 : POk x.z := by rw [hxe]; exact ⟨g1, g2, g3, g4, g5, g6.1, g6.2, g7.2, g7.1⟩
  have HP2 : Hid (parseL bs = if endZ s7.1 s7.2 = 0 ∧ mayP x.z = true then (x.z, 0) else (p0, 190)) := Lib.hid (by rw [HP.out, hxe])
  have XT := Lib.hid hxt
  have XO := Lib.hid (show PXOk w8 w8.heap.size x from ⟨OK8, bs_of_own O8.1 OK8.body, O8.2.1, O8.2.2⟩)
  have XW := Lib.hid O8.1
  have V8 := Lib.hid V7
  have V18 := Lib.hid (V1.out.below BT8 (by rw [z1.out]; omega))
  have BD := Lib.hid (b1.out.trans (BT8.mono b1.out.size))
  have gD : Hid (g < w8.heap.size ∧ w.heap.size ≤ r + 1 ∧ g < r + 1) := Lib.hid (by have h1 := BT8.size; rw [z1.out] at h1; have h2 := LO.out; rw [z1.out] at h2; have h3 := HG.out; omega)
  obtain ⟨z, hz⟩ : ∃ z, endZ s7.1 s7.2 = z := ⟨_, rfl⟩
  have EM := Lib.hid (end_sd RD8 z hz)
  rw [hz] at HP2
  have V8D := fun m => Lib.hid (V8.out.same (w' := w8.drewN m) rfl)
  have zk := zPk
  have zs := zPc_size
  have zn := zPc_ne
  clear hz hx hx6 hxe hxt V7 RD8 O8 OK8 BT8 hw8 HP g1 g2 g3 g4 g5 g6 g7 t0 t1 t2 t3 t4 t5 t6 t7 E1 E2 E3 E4 E5 E6 E7 HR QG P7 hk8 s8 g8 T8
  by_cases hz0 : z = 0
  · subst hz0
    obtain ⟨q, hq⟩ : ∃ q, mayP x.z = q := ⟨_, rfl⟩
    have MM := Lib.hid (rlmay_any XT.out q hq)
    rw [hq] at HP2
    clear hq
    cases q with
    | false =>
      have HP3 : Hid (parseL bs = (p0, 190)) := Lib.hid (by rw [HP2.out]; simp)
      go_upto_region 11 with (first
        | (go_at_call 17; refine EM.out.mono ?_; rintro e v13 ⟨rfl, m13, rfl⟩)
        | (with_reducible show wpList _ _ _ (⟨some 33, .load 26 (.tmp 5), _, _, _, _⟩ :: _) _ _; refine wpList_load_guardL (op := ⟨some 33, .load 26 (.tmp 5), _, _, _, some (3, false)⟩) (by first | rfl | go_simp) 26 (.tmp 5) rfl (_) 0 rfl (pc x) _ ((V8D m13).out.range) Try.underlying26 rfl (p_size XT.out) ?_)
        | (go_at_call 18; refine (MM.out _).mono ?_; rintro e w10 ⟨rfl, hb⟩; have B10 : Hid (Below w8.heap.size w8 w10) := Lib.hid ((below_drewN (Below.refl _ _) m13).trans hb); clear hb))
      have VT := Lib.hid (vthere (V18.out.grow B10.out) (us := pc px0) (pc_len px0_tl))
      go_wp2_with (first
        | (with_reducible show wpList _ _ _ (⟨some 37, .build 26 #[], _, _, _, _⟩ :: _) _ _; refine wpList_exec (op := ⟨some 37, .build 26 #[], _, _, _, _⟩) rfl (.agg (pc px0).toArray) (by exact exec_p0 rfl rfl) ?_)
        | (with_reducible show wpList _ _ _ (⟨none, .store 26 (.tmp 2) (.tmp 37), _, _, _, _⟩ :: _) _ _; refine wpList_store_as (op := ⟨none, .store 26 (.tmp 2) (.tmp 37), _, _, _, _⟩) rfl 26 (.tmp 2) (.tmp 37) rfl (g) 0 (pc px0).toArray rfl rfl (VT.out) (p_sizeA px0_tl) (p_oneA px0) ?_; intro w11 hw11))
      obtain ⟨V11, b11⟩ := vstored (V18.out.grow B10.out) (pc_len px0_tl) hw11 (by rw [HG.out]; exact Nat.le_refl _) (BD.out.trans (B10.out.mono BD.out.size))
      exact bodyPost_ret (v := .tuple #[.agg (pc px0).toArray, .int .i64 190]) (results_mid_tmp (p := 2) (u := 3) (ty := 26) rfl _ _ g 0 (pc px0) _ rfl V11.range Try.underlying26 rfl (p_size px0_tl)) rfl (by rw [HP3.out]; exact readsp_zero 190 b11)
    | true =>
      have HP3 : Hid (parseL bs = (x.z, 0)) := Lib.hid (by rw [HP2.out]; simp)
      go_upto_region 12 with (first
        | (go_at_call 17; refine EM.out.mono ?_; rintro e v13 ⟨rfl, m13, rfl⟩)
        | (with_reducible show wpList _ _ _ (⟨some 33, .load 26 (.tmp 5), _, _, _, _⟩ :: _) _ _; refine wpList_load_guardL (op := ⟨some 33, .load 26 (.tmp 5), _, _, _, some (3, false)⟩) (by first | rfl | go_simp) 26 (.tmp 5) rfl (_) 0 rfl (pc x) _ ((V8D m13).out.range) Try.underlying26 rfl (p_size XT.out) ?_)
        | (go_at_call 18; refine (MM.out _).mono ?_; rintro e w10 ⟨rfl, hb⟩; have B10 : Hid (Below w8.heap.size w8 w10) := Lib.hid ((below_drewN (Below.refl _ _) m13).trans hb); clear hb))
      have VT := Lib.hid (vthere (V18.out.grow B10.out) (us := pc x) (pc_len XT.out))
      have VR := Lib.hid (V8.out.grow B10.out)
      go_wp2_with (first
        | (with_reducible show wpList _ _ _ (⟨some 38, .load 26 (.tmp 5), _, _, _, _⟩ :: _) _ _; refine wpList_load_mid (op := ⟨some 38, .load 26 (.tmp 5), _, _, _, _⟩) rfl 26 (.tmp 5) rfl (_) 0 rfl (pc x) _ (VR.out.range) Try.underlying26 rfl (p_size XT.out) ?_)
        | (with_reducible show wpList _ _ _ (⟨none, .store 26 (.tmp 2) (.tmp 38), _, _, _, _⟩ :: _) _ _; refine wpList_store_as (op := ⟨none, .store 26 (.tmp 2) (.tmp 38), _, _, _, _⟩) rfl 26 (.tmp 2) (.tmp 38) rfl (g) 0 (pc x).toArray rfl rfl (VT.out) (p_sizeA XT.out) (p_oneA x) ?_; intro w11 hw11))
      obtain ⟨V11, b11⟩ := vstored (V18.out.grow B10.out) (pc_len XT.out) hw11 (by rw [HG.out]; exact Nat.le_refl _) (BD.out.trans (B10.out.mono BD.out.size))
      have hk : ∀ k, k ≠ g → w11.heap[k]? = w10.heap[k]? := fun k hk => by rw [hw11.out]; exact heap_setCells g k hk _ _ _
      have OW2 := own_below XW.out B10.out (Nat.le_refl _)
      have OW3 : w11.ownsRow w.heap.size 5 1 (.slice x.A x.n x.c) x.n (vals x.z.body) := own_base (own_keepB OW2 (fun k h1 h2 => hk k (by have := gD.out; omega))) gD.out.2.1
      exact bodyPost_ret (v := .tuple #[.agg (pc x).toArray, .int .i64 0]) (results_mid_tmp (p := 2) (u := 3) (ty := 26) rfl _ _ g 0 (pc x) _ rfl V11.range Try.underlying26 rfl (p_size XT.out)) rfl (by rw [HP3.out]; exact ⟨x, rfl, rfl, ⟨XO.out.ok, bs_of_own OW3 XO.out.ok.body, XO.out.nc, XO.out.cm⟩, OW3, b11⟩)
  · have HP3 : Hid (parseL bs = (p0, 190)) := Lib.hid (by rw [HP2.out, if_neg (fun h => hz0 h.1)])
    have hzb : (z != 0) = true := by simpa using hz0
    have VT := fun m => Lib.hid (vthere (V18.out.same (w' := w8.drewN m) rfl) (us := pc px0) (pc_len px0_tl))
    clear hz0
    go_wp2_with (first
        | (go_at_call 17; refine EM.out.mono ?_; rintro e v13 ⟨rfl, m13, rfl⟩)
        | (with_reducible show wpList _ _ _ (⟨some 37, .build 26 #[], _, _, _, _⟩ :: _) _ _; refine wpList_exec (op := ⟨some 37, .build 26 #[], _, _, _, _⟩) rfl (.agg (pc px0).toArray) (by exact exec_p0 rfl rfl) ?_)
        | (with_reducible show wpList _ _ _ (⟨none, .store 26 (.tmp 2) (.tmp 37), _, _, _, _⟩ :: _) _ _; refine wpList_store_as (op := ⟨none, .store 26 (.tmp 2) (.tmp 37), _, _, _, _⟩) rfl 26 (.tmp 2) (.tmp 37) rfl (g) 0 (pc px0).toArray rfl rfl ((VT m13).out) (p_sizeA px0_tl) (p_oneA px0) ?_; intro w11 hw11))
    obtain ⟨V11, b11⟩ := vstored (V18.out.same (w' := w8.drewN m13) rfl) (pc_len px0_tl) hw11 (by rw [HG.out]; exact Nat.le_refl _) (below_drewN BD.out m13)
    exact bodyPost_ret (v := .tuple #[.agg (pc px0).toArray, .int .i64 190]) (results_mid_tmp (p := 2) (u := 3) (ty := 26) rfl _ _ g 0 (pc px0) _ rfl V11.range Try.underlying26 rfl (p_size px0_tl)) rfl (by rw [HP3.out]; exact readsp_zero 190 b11)
end Go.Proofs.Ytlknjaoamkcmjaa
