/- A request that is read: the document's. -/
import Derived.Test.YtcgclaailhhbpaaRqL
import Derived.Test.YtcgclaailhhbpaaRqF
import Derived.Test.YtcgclaailhhbpaaB4
namespace Go.Proofs.Ytcgclaailhhbpaa
open Go.ChangeShapes Go.WideShapes Go.ChangeAt Go.RowKit
set_option linter.unusedVariables false
set_option maxRecDepth 100000
set_option linter.unusedSimpArgs false
open Plain Sha Au Rp Rq
section
variable {w : World} {b : Nat} {B : Nat} {s s' : Int × List Int}
theorem byte_sd (h : RdD b B w s) {a : Int} (e : rByte s = (a, s')) : Calls Try.prog 46 #[.pointer (some ⟨b, 0, none⟩)] w (fun e w' => e = .returned (.int .u8 a) ∧ RdD b B w' s' ∧ w.grownBy w' (some b)) := by
  obtain ⟨y, zs⟩ := s
  have := byte_rr h
  rw [e] at this
  exact this
theorem int_sd (h : RdD b B w s) {a : Int} (e : rInt s = (a, s')) : Calls Try.prog 48 #[.pointer (some ⟨b, 0, none⟩)] w (fun e w' => e = .returned (.int .i64 a) ∧ RdD b B w' s' ∧ w.grownBy w' (some b)) := by
  obtain ⟨y, zs⟩ := s
  have := int_rr h
  rw [e] at this
  exact this
theorem bytes_sd (h : RdD b B w s) {a : List Int} (e : rBytes s = (a, s')) : Calls Try.prog 47 #[.pointer (some ⟨b, 0, none⟩)] w (fun e w' => ∃ T, e = .returned T ∧ RdD b B w' s' ∧ w.grownBy w' (some b) ∧ IsList T w' w.heap.size a) := by
  obtain ⟨y, zs⟩ := s
  have := bytes_rr h
  rw [e] at this
  exact this.mono fun e w' ⟨T, ⟨h1, h2, h3⟩, h4⟩ => ⟨T, h1, h2, h3, h4⟩
theorem tag_sd (h : RdD b B w s) {a : List Int} (e : rTag s = (a, s')) : Calls Try.prog 60 #[.pointer (some ⟨b, 0, none⟩)] w (fun e w' => e = .returned (.agg (vals a).toArray) ∧ RdD b B w' s' ∧ w.grownBy w' (some b)) := by
  obtain ⟨y, zs⟩ := s
  have := tag_rr h
  rw [e] at this
  exact this
theorem count_sd (most : Int) (h : RdD b B w s) {a : Int} (e : rCount most s = (a, s')) : Calls Try.prog 59 #[.pointer (some ⟨b, 0, none⟩), .int .i64 most] w (fun e w' => e = .returned (.int .i64 a) ∧ RdD b B w' s' ∧ w.grownBy w' (some b)) := by
  obtain ⟨y, zs⟩ := s
  have := count_rr h most
  rw [e] at this
  exact this
theorem end_sd (h : RdD b B w s) (z : Int) (e : endZ s.1 s.2 = z) : Calls Try.prog 49 #[.pointer (some ⟨b, 0, none⟩)] w (Quiet (.int .i64 z) w) := by
  obtain ⟨y, zs⟩ := s
  have := end_rr h
  rw [e] at this
  exact this
end
set_option maxHeartbeats 8000000 in
theorem rparse_any {w : World} {B n c : Nat} {A : Option Addr} {bs : List Int} (h : Bs w B A n bs) (hB : B ≤ w.heap.size) (hn : n ≤ c) : Calls Try.prog 18 #[.slice A n c] w (ReadsQ w (parseQ bs).1 (parseQ bs).2) := by
  obtain ⟨g, hg⟩ : ∃ g, w.heap.size = g := ⟨_, rfl⟩
  have HG := Lib.hid hg
  obtain ⟨W1, hW1⟩ : ∃ W, W = w.alloc (.cells #[.int .u8 0, .slice none 0 0, .string { data := #[] }, .string { data := #[] }, .string { data := #[] }, .int .i64 0, .int .i64 0, .int .i64 0, .int .i64 0, .int .u8 0, .int .i64 0, .int .i64 0] 26) := ⟨_, rfl⟩
  have b1 := Lib.hid (show Below w.heap.size w W1 by rw [hW1]; exact below_one _ _)
  have V1 := Lib.hid (show VBox W1 g 12 (qc q0) by rw [hW1]; exact vbox_new w (qc q0) _ _ _ hg (qc_len _) (by omega))
  have z1 := Lib.hid (show W1.heap.size = g + 1 by rw [hW1]; simp [hg])
  have HW1 := Lib.hid hW1
  have HL := Lib.hid h.len
  clear hW1 hg
  by_cases hbig : 1024 < n
  · have hi : (1024 : Int) < (n : Int) := by omega
    have HP : Hid (parseQ bs = (z0, 3)) := Lib.hid (by unfold parseQ; rw [if_pos (by rw [HL.out]; exact hbig)])
    have VT := Lib.hid (vthere V1.out (us := qc q0) rfl)
    rw [HP.out]
    clear h hbig
    go_enter Try.func18, Try.ntmps18
    go_upto_region 1 with fail
    rw [← HW1.out, HG.out]
    go_wp2_with (first
          | (show wpList _ _ _ (⟨some 9, .build 26 #[], _, _, _, _⟩ :: _) _ _; refine wpList_exec (op := ⟨some 9, .build 26 #[], _, _, _, _⟩) rfl (.agg (qc q0).toArray) (by exact exec_q0 rfl rfl) ?_)
          | (show wpList _ _ _ (⟨none, .store 26 (.tmp 2) (.tmp 9), _, _, _, _⟩ :: _) _ _; refine wpList_store_as (op := ⟨none, .store 26 (.tmp 2) (.tmp 9), _, _, _, _⟩) rfl 26 (.tmp 2) (.tmp 9) rfl (g) 0 (qc q0).toArray rfl rfl (VT.out) (q_sizeA q0) (q_oneA q0) ?_; intro w9 hw9))
    obtain ⟨V9, b9⟩ := vstored V1.out (qc_len q0) hw9 (by rw [HG.out]; exact Nat.le_refl _) b1.out
    exact bodyPost_ret (v := .tuple #[.agg (qc q0).toArray, .int .i64 3]) (results_mid_tmp (p := 2) (u := 3) (ty := 26) rfl _ _ g 0 (qc q0) _ rfl V9.range Try.underlying26 rfl (q_size q0)) rfl (reads_zero 3 b9)
  · have hi : ¬ (1024 : Int) < (n : Int) := by omega
    have hsmall : n ≤ 1024 := by omega
    have HN2 := Lib.hid (new_rr (w := W1) c (h.belowM b1.out hB) (Nat.le_trans hB b1.out.size) hn (by omega))
    have HBB := Lib.hid (show B ≤ W1.heap.size from Nat.le_trans hB b1.out.size)
    have t0 : StB (0, bs) := ⟨h.isBytes, by rw [h.len]; omega⟩
    have BG := Lib.hid b1.out.size
    clear h hbig hsmall
    obtain ⟨a1, s1, e1⟩ : ∃ a s, rByte (0, bs) = (a, s) := ⟨_, _, rfl⟩
    obtain ⟨a2, s2, e2⟩ : ∃ a s, rBytes s1 = (a, s) := ⟨_, _, rfl⟩
    obtain ⟨a3, s3, e3⟩ : ∃ a s, rBytes s2 = (a, s) := ⟨_, _, rfl⟩
    obtain ⟨a4, s4, e4⟩ : ∃ a s, rBytes s3 = (a, s) := ⟨_, _, rfl⟩
    obtain ⟨a5, s5, e5⟩ : ∃ a s, rBytes s4 = (a, s) := ⟨_, _, rfl⟩
    obtain ⟨a6, s6, e6⟩ : ∃ a s, rInt s5 = (a, s) := ⟨_, _, rfl⟩
    obtain ⟨a7, s7, e7⟩ : ∃ a s, rInt s6 = (a, s) := ⟨_, _, rfl⟩
    obtain ⟨a8, s8, e8⟩ : ∃ a s, rInt s7 = (a, s) := ⟨_, _, rfl⟩
    obtain ⟨a9, s9, e9⟩ : ∃ a s, rInt s8 = (a, s) := ⟨_, _, rfl⟩
    obtain ⟨a10, s10, e10⟩ : ∃ a s, rByte s9 = (a, s) := ⟨_, _, rfl⟩
    obtain ⟨a11, s11, e11⟩ : ∃ a s, rInt s10 = (a, s) := ⟨_, _, rfl⟩
    obtain ⟨a12, s12, e12⟩ : ∃ a s, rInt s11 = (a, s) := ⟨_, _, rfl⟩
    obtain ⟨g1, t1⟩ := byte_rg t0 e1
    obtain ⟨g2, t2⟩ := bytes_rg t1 e2
    obtain ⟨g3, t3⟩ := bytes_rg t2 e3
    obtain ⟨g4, t4⟩ := bytes_rg t3 e4
    obtain ⟨g5, t5⟩ := bytes_rg t4 e5
    obtain ⟨g6, t6⟩ := int_rg t5 e6
    obtain ⟨g7, t7⟩ := int_rg t6 e7
    obtain ⟨g8, t8⟩ := int_rg t7 e8
    obtain ⟨g9, t9⟩ := int_rg t8 e9
    obtain ⟨g10, t10⟩ := byte_rg t9 e10
    obtain ⟨g11, t11⟩ := int_rg t10 e11
    obtain ⟨g12, t12⟩ := int_rg t11 e12
    have HR : Hid (reqR (0, bs) = (⟨a1, a2, strOfNums a3, strOfNums a4, strOfNums a5, a6, a7, a8, a9, a10, a11, a12⟩, s12)) := Lib.hid (by
      unfold reqR
      simp only [e1, e2, e3, e4, e5, e6, e7, e8, e9, e10, e11, e12])
    have E1 := Lib.hid e1
    have E2 := Lib.hid e2
    have E3 := Lib.hid e3
    have E4 := Lib.hid e4
    have E5 := Lib.hid e5
    have E6 := Lib.hid e6
    have E7 := Lib.hid e7
    have E8 := Lib.hid e8
    have E9 := Lib.hid e9
    have E10 := Lib.hid e10
    have E11 := Lib.hid e11
    have E12 := Lib.hid e12
    clear e1 e2 e3 e4 e5 e6 e7 e8 e9 e10 e11 e12
    have HP : Hid (parseQ bs = if endZ s12.1 s12.2 = 0 ∧ mayB ⟨a1, a2, strOfNums a3, strOfNums a4, strOfNums a5, a6, a7, a8, a9, a10, a11, a12⟩ = true then (⟨a1, a2, strOfNums a3, strOfNums a4, strOfNums a5, a6, a7, a8, a9, a10, a11, a12⟩, 0) else (z0, 150)) := Lib.hid (by unfold parseQ; rw [if_neg (by rw [HL.out]; omega), HR.out])
    go_enter Try.func18, Try.ntmps18
    go_upto_region 1 with fail
    rw [← HW1.out, HG.out]
    go_upto_region 4 with (go_at_call 45; refine HN2.out.mono ?_; rintro e w3 ⟨rfl, hrd, hb, hlt⟩; have HB3 := Lib.hid hb; have HRD := Lib.hid hrd; have HLT := Lib.hid hlt; clear hb hrd hlt)
    obtain ⟨b, hb0⟩ : ∃ b, W1.heap.size = b := ⟨_, rfl⟩
    rw [hb0] at HRD HLT
    rw [hb0]
    have HBb := Lib.hid hb0
    obtain ⟨W4, hW4⟩ : ∃ W, W = w3.alloc (.cells #[.int .u8 0, .slice none 0 0, .string { data := #[] }, .string { data := #[] }, .string { data := #[] }, .int .i64 0, .int .i64 0, .int .i64 0, .int .i64 0, .int .u8 0, .int .i64 0, .int .i64 0] 26) := ⟨_, rfl⟩
    obtain ⟨r, hr0⟩ : ∃ r, w3.heap.size = r := ⟨_, rfl⟩
    have HRR := Lib.hid hr0
    have b4 := Lib.hid (show Below w3.heap.size w3 W4 by rw [hW4]; exact below_one _ _)
    have V4 := Lib.hid (show VBox W4 r 12 (qc q0) by rw [hW4]; exact vbox_new w3 (qc q0) _ _ _ hr0 (qc_len _) (by omega))
    have z4 := Lib.hid (show W4.heap.size = r + 1 by rw [hW4]; simp [hr0])
    have HW4 := Lib.hid hW4
    clear hW4 hr0 hb0
    go_upto_region 5 with fail
    rw [← HW4.out, HRR.out]
    have Q0 : Hid (PS (RdD b B) W1 W4 r b (r + 1) 12 (0, bs) (qc q0) (.slice none 0 0) []) := Lib.hid
      ⟨HRD.out.below b4.out (by rw [HRR.out]; have := HLT.out; rw [HRR.out] at this; omega), V4.out, HB3.out.trans (b4.out.mono HB3.out.size), by rw [← HRR.out]; exact HB3.out.size, by have := HLT.out; rw [HRR.out] at this; omega, by omega, by have := HLT.out; rw [HRR.out] at this; omega, by rw [z4.out]; exact Nat.le_refl _, by rw [HBb.out]; exact Nat.le_refl _,
        rdD_keep (by have := HBB.out; have := HLT.out; rw [HRR.out] at this; rw [HBb.out] at *; omega) (by have := HLT.out; rw [HRR.out] at this; omega) (by rw [← HBb.out]; exact HBB.out) (by have := HLT.out; rw [HRR.out] at this; omega), isList_nil _ _⟩
    clear HN2 HB3 HRD V4
    go_upto_region 6 with (go_at_call 46; refine (byte_sd Q0.out.rd E1.out).mono ?_; rintro e v1 ⟨rfl, hr, hg⟩; have P1 := Lib.hid (Q0.out.read hr hg); clear hr hg; obtain ⟨x0, y0⟩ := P1.out.cell 0 rfl)
    obtain ⟨wA, hwA⟩ : ∃ W, W = (v1.setCell ⟨r, 0, none⟩ (.int .u8 a1)) := ⟨_, rfl⟩
    rw [← hwA]
    have QA := Lib.hid (P1.out.set (i := 0) (by omega) (.int .u8 a1))
    rw [← hwA] at QA
    clear hwA P1 x0 y0
    go_upto_region 7 with (go_at_call 47; refine (bytes_sd QA.out.rd E2.out).mono ?_; rintro e v2 ⟨T, rfl, hr, hg, hl⟩; have P2 := Lib.hid ((QA.out.read hr hg).list (hl.base QA.out.ms)); obtain ⟨AT, cT, rfl, _, _⟩ := hl; clear hr hg; obtain ⟨x1, y1⟩ := P2.out.cell 1 rfl)
    obtain ⟨wB, hwB⟩ : ∃ W, W = (v2.setCell ⟨r, 1, none⟩ (.slice AT a2.length cT)) := ⟨_, rfl⟩
    rw [← hwB]
    have QB := Lib.hid (P2.out.set (i := 1) (by omega) (.slice AT a2.length cT))
    rw [← hwB] at QB
    clear hwB P2 x1 y1
    go_upto_region 8 with (go_at_call 47; refine (bytes_sd QB.out.rd E3.out).mono ?_; rintro e v3 ⟨T, rfl, hr, hg, hl⟩; have P3 := Lib.hid (QB.out.read hr hg); obtain ⟨AX, cX, rfl, hoX, _⟩ := hl; have cv := run_str cX (bs_of_own hoX g3.1); clear hr hg hoX; obtain ⟨x2, y2⟩ := P3.out.cell 2 rfl)
    obtain ⟨wC, hwC⟩ : ∃ W, W = (v3.setCell ⟨r, 2, none⟩ (.string (strOfNums a3))) := ⟨_, rfl⟩
    rw [← hwC]
    have QC := Lib.hid (P3.out.set (i := 2) (by omega) (.string (strOfNums a3)))
    rw [← hwC] at QC
    clear hwC P3 x2 y2 cv
    go_upto_region 9 with (go_at_call 47; refine (bytes_sd QC.out.rd E4.out).mono ?_; rintro e v4 ⟨T, rfl, hr, hg, hl⟩; have P4 := Lib.hid (QC.out.read hr hg); obtain ⟨AX, cX, rfl, hoX, _⟩ := hl; have cv := run_str cX (bs_of_own hoX g4.1); clear hr hg hoX; obtain ⟨x3, y3⟩ := P4.out.cell 3 rfl)
    obtain ⟨wE, hwE⟩ : ∃ W, W = (v4.setCell ⟨r, 3, none⟩ (.string (strOfNums a4))) := ⟨_, rfl⟩
    rw [← hwE]
    have QE := Lib.hid (P4.out.set (i := 3) (by omega) (.string (strOfNums a4)))
    rw [← hwE] at QE
    clear hwE P4 x3 y3 cv
    go_upto_region 10 with (go_at_call 47; refine (bytes_sd QE.out.rd E5.out).mono ?_; rintro e v5 ⟨T, rfl, hr, hg, hl⟩; have P5 := Lib.hid (QE.out.read hr hg); obtain ⟨AX, cX, rfl, hoX, _⟩ := hl; have cv := run_str cX (bs_of_own hoX g5.1); clear hr hg hoX; obtain ⟨x4, y4⟩ := P5.out.cell 4 rfl)
    obtain ⟨wF, hwF⟩ : ∃ W, W = (v5.setCell ⟨r, 4, none⟩ (.string (strOfNums a5))) := ⟨_, rfl⟩
    rw [← hwF]
    have QF := Lib.hid (P5.out.set (i := 4) (by omega) (.string (strOfNums a5)))
    rw [← hwF] at QF
    clear hwF P5 x4 y4 cv
    go_upto_region 11 with (go_at_call 48; refine (int_sd QF.out.rd E6.out).mono ?_; rintro e v6 ⟨rfl, hr, hg⟩; have P6 := Lib.hid (QF.out.read hr hg); clear hr hg; obtain ⟨x5, y5⟩ := P6.out.cell 5 rfl)
    obtain ⟨wG, hwG⟩ : ∃ W, W = (v6.setCell ⟨r, 5, none⟩ (.int .i64 a6)) := ⟨_, rfl⟩
    rw [← hwG]
    have QG := Lib.hid (P6.out.set (i := 5) (by omega) (.int .i64 a6))
    rw [← hwG] at QG
    clear hwG P6 x5 y5
    go_upto_region 12 with (go_at_call 48; refine (int_sd QG.out.rd E7.out).mono ?_; rintro e v7 ⟨rfl, hr, hg⟩; have P7 := Lib.hid (QG.out.read hr hg); clear hr hg; obtain ⟨x6, y6⟩ := P7.out.cell 6 rfl)
    obtain ⟨wH, hwH⟩ : ∃ W, W = (v7.setCell ⟨r, 6, none⟩ (.int .i64 a7)) := ⟨_, rfl⟩
    rw [← hwH]
    have QH := Lib.hid (P7.out.set (i := 6) (by omega) (.int .i64 a7))
    rw [← hwH] at QH
    clear hwH P7 x6 y6
    go_upto_region 13 with (go_at_call 48; refine (int_sd QH.out.rd E8.out).mono ?_; rintro e v8 ⟨rfl, hr, hg⟩; have P8 := Lib.hid (QH.out.read hr hg); clear hr hg; obtain ⟨x7, y7⟩ := P8.out.cell 7 rfl)
    obtain ⟨wI, hwI⟩ : ∃ W, W = (v8.setCell ⟨r, 7, none⟩ (.int .i64 a8)) := ⟨_, rfl⟩
    rw [← hwI]
    have QI := Lib.hid (P8.out.set (i := 7) (by omega) (.int .i64 a8))
    rw [← hwI] at QI
    clear hwI P8 x7 y7
    go_upto_region 14 with (go_at_call 48; refine (int_sd QI.out.rd E9.out).mono ?_; rintro e v9 ⟨rfl, hr, hg⟩; have P9 := Lib.hid (QI.out.read hr hg); clear hr hg; obtain ⟨x8, y8⟩ := P9.out.cell 8 rfl)
    obtain ⟨wJ, hwJ⟩ : ∃ W, W = (v9.setCell ⟨r, 8, none⟩ (.int .i64 a9)) := ⟨_, rfl⟩
    rw [← hwJ]
    have QJ := Lib.hid (P9.out.set (i := 8) (by omega) (.int .i64 a9))
    rw [← hwJ] at QJ
    clear hwJ P9 x8 y8
    go_upto_region 15 with (go_at_call 46; refine (byte_sd QJ.out.rd E10.out).mono ?_; rintro e v10 ⟨rfl, hr, hg⟩; have P10 := Lib.hid (QJ.out.read hr hg); clear hr hg; obtain ⟨x9, y9⟩ := P10.out.cell 9 rfl)
    obtain ⟨wK, hwK⟩ : ∃ W, W = (v10.setCell ⟨r, 9, none⟩ (.int .u8 a10)) := ⟨_, rfl⟩
    rw [← hwK]
    have QK := Lib.hid (P10.out.set (i := 9) (by omega) (.int .u8 a10))
    rw [← hwK] at QK
    clear hwK P10 x9 y9
    go_upto_region 16 with (go_at_call 48; refine (int_sd QK.out.rd E11.out).mono ?_; rintro e v11 ⟨rfl, hr, hg⟩; have P11 := Lib.hid (QK.out.read hr hg); clear hr hg; obtain ⟨x10, y10⟩ := P11.out.cell 10 rfl)
    obtain ⟨wL, hwL⟩ : ∃ W, W = (v11.setCell ⟨r, 10, none⟩ (.int .i64 a11)) := ⟨_, rfl⟩
    rw [← hwL]
    have QL := Lib.hid (P11.out.set (i := 10) (by omega) (.int .i64 a11))
    rw [← hwL] at QL
    clear hwL P11 x10 y10
    go_upto_region 17 with (go_at_call 48; refine (int_sd QL.out.rd E12.out).mono ?_; rintro e v12 ⟨rfl, hr, hg⟩; have P12 := Lib.hid (QL.out.read hr hg); clear hr hg; obtain ⟨x11, y11⟩ := P12.out.cell 11 rfl)
    obtain ⟨wD, hwD⟩ : ∃ W, W = (v12.setCell ⟨r, 11, none⟩ (.int .i64 a12)) := ⟨_, rfl⟩
    rw [← hwD]
    have QD := Lib.hid (P12.out.set (i := 11) (by omega) (.int .i64 a12))
    rw [← hwD] at QD
    clear hwD P12 x11 y11
    have QX0 := Lib.hid (show PS (RdD b B) W1 wD r b (r + 1) 12 s12 (qc ⟨a1, AT, a2.length, cT, a2, strOfNums a3, strOfNums a4, strOfNums a5, a6, a7, a8, a9, a10, a11, a12⟩) (.slice AT a2.length cT) a2 from QD.out)
    obtain ⟨x, hx⟩ : ∃ x : QX, x = ⟨a1, AT, a2.length, cT, a2, strOfNums a3, strOfNums a4, strOfNums a5, a6, a7, a8, a9, a10, a11, a12⟩ := ⟨_, rfl⟩
    have OW : Hid (wD.ownsRow (r + 1) 5 1 (.slice x.A x.tl x.tc) x.tl (vals x.tok)) := Lib.hid (by
      obtain ⟨A0, c0, h0, ho, _⟩ := QD.out.tok
      injection h0 with h1 h2 h3
      subst h1 h3
      rw [hx]; exact ho)
    have OX : Hid (QOk wD wD.heap.size x) := Lib.hid (by
      obtain ⟨A0, c0, h0, ho, h4, h5⟩ := QD.out.tok
      injection h0 with h1 h2 h3
      subst h1 h3
      rw [hx]
      exact ⟨g1, g6, g7, g8, g9, g10, g11, g12, h4, h5, bs_of_own ho g2.1⟩)
    rw [← hx] at QX0
    have HP2 : Hid (parseQ bs = if endZ s12.1 s12.2 = 0 ∧ mayB x.z = true then (x.z, 0) else (z0, 150)) := Lib.hid (by rw [HP.out, hx]; rfl)
    clear QD hx HP g1 g2 g3 g4 g5 g6 g7 g8 g9 g10 g11 g12 t0 t1 t2 t3 t4 t5 t6 t7 t8 t9 t10 t11 t12 E1 E2 E3 E4 E5 E6 E7 E8 E9 E10 E11 E12 HR
    have V9 := Lib.hid (V1.out.below QX0.out.below (by rw [z1.out]; omega))
    have BD := Lib.hid (b1.out.trans (QX0.out.below.mono b1.out.size))
    have gD : Hid (g < wD.heap.size ∧ w.heap.size ≤ r + 1) := Lib.hid (by have h1 := QX0.out.below.size; rw [z1.out] at h1; have h2 := QX0.out.lo; rw [z1.out] at h2; have h3 := HG.out; omega)
    obtain ⟨z, hz⟩ : ∃ z, endZ s12.1 s12.2 = z := ⟨_, rfl⟩
    have EM := Lib.hid (end_sd QX0.out.rd z hz)
    rw [hz] at HP2
    clear hz
    by_cases hz0 : z = 0
    · subst hz0
      obtain ⟨q, hq⟩ : ∃ q, mayB x.z = q := ⟨_, rfl⟩
      have MM := Lib.hid (fun w => rmay_any (w := w) q OX.out.tok.len OX.out.rt hq)
      rw [hq] at HP2
      clear hq
      cases q with
      | false =>
        have HP3 : Hid (parseQ bs = (z0, 150)) := Lib.hid (by rw [HP2.out]; simp)
        go_upto_region 18 with (first
              | (go_at_call 49; refine EM.out.mono ?_; rintro e v13 ⟨rfl, m13, rfl⟩)
              | (show wpList _ _ _ (⟨some 58, .load 26 (.tmp 5), _, _, _, some (3, false)⟩ :: _) _ _; refine wpList_load_guard (op := ⟨some 58, .load 26 (.tmp 5), _, _, _, some (3, false)⟩) (by rfl) 26 (.tmp 5) rfl (r) 0 rfl (qc x) _ ((QX0.out.drew m13).box.range) Try.underlying26 rfl (q_size x) ?_)
              | (go_at_call 13; refine (MM.out _).mono ?_; rintro e w10 ⟨rfl, hb⟩; have B10 : Hid (Below wD.heap.size wD w10) := Lib.hid ((below_drewN (Below.refl _ _) m13).trans hb); clear hb))
        have VT := Lib.hid (vthere (V9.out.grow B10.out) (us := qc q0) rfl)
        go_wp2_with (first
              | (show wpList _ _ _ (⟨some 62, .build 26 #[], _, _, _, _⟩ :: _) _ _; refine wpList_exec (op := ⟨some 62, .build 26 #[], _, _, _, _⟩) rfl (.agg (qc q0).toArray) (by exact exec_q0 rfl rfl) ?_)
              | (show wpList _ _ _ (⟨none, .store 26 (.tmp 2) (.tmp 62), _, _, _, _⟩ :: _) _ _; refine wpList_store_as (op := ⟨none, .store 26 (.tmp 2) (.tmp 62), _, _, _, _⟩) rfl 26 (.tmp 2) (.tmp 62) rfl (g) 0 (qc q0).toArray rfl rfl (VT.out) (q_sizeA q0) (q_oneA q0) ?_; intro w9 hw9))
        obtain ⟨V11, b11⟩ := vstored (V9.out.grow B10.out) (qc_len q0) hw9 (by rw [HG.out]; exact Nat.le_refl _) (BD.out.trans (B10.out.mono BD.out.size))
        exact bodyPost_ret (v := .tuple #[.agg (qc q0).toArray, .int .i64 150]) (results_mid_tmp (p := 2) (u := 3) (ty := 26) rfl _ _ g 0 (qc q0) _ rfl V11.range Try.underlying26 rfl (q_size q0)) rfl (by rw [HP3.out]; exact reads_zero 150 b11)
      | true =>
        have HP3 : Hid (parseQ bs = (x.z, 0)) := Lib.hid (by rw [HP2.out]; simp)
        go_upto_region 19 with (first
              | (go_at_call 49; refine EM.out.mono ?_; rintro e v13 ⟨rfl, m13, rfl⟩)
              | (show wpList _ _ _ (⟨some 58, .load 26 (.tmp 5), _, _, _, some (3, false)⟩ :: _) _ _; refine wpList_load_guard (op := ⟨some 58, .load 26 (.tmp 5), _, _, _, some (3, false)⟩) (by rfl) 26 (.tmp 5) rfl (r) 0 rfl (qc x) _ ((QX0.out.drew m13).box.range) Try.underlying26 rfl (q_size x) ?_)
              | (go_at_call 13; refine (MM.out _).mono ?_; rintro e w10 ⟨rfl, hb⟩; have B10 : Hid (Below wD.heap.size wD w10) := Lib.hid ((below_drewN (Below.refl _ _) m13).trans hb); clear hb))
        have VT := Lib.hid (vthere (V9.out.grow B10.out) (us := qc x) rfl)
        have VR := Lib.hid (QX0.out.box.grow B10.out)
        go_wp2_with (first
              | (show wpList _ _ _ (⟨some 63, .load 26 (.tmp 5), _, _, _, _⟩ :: _) _ _; refine wpList_load_mid (op := ⟨some 63, .load 26 (.tmp 5), _, _, _, _⟩) rfl 26 (.tmp 5) rfl (r) 0 rfl (qc x) _ (VR.out.range) Try.underlying26 rfl (q_size x) ?_)
              | (show wpList _ _ _ (⟨none, .store 26 (.tmp 2) (.tmp 63), _, _, _, _⟩ :: _) _ _; refine wpList_store_as (op := ⟨none, .store 26 (.tmp 2) (.tmp 63), _, _, _, _⟩) rfl 26 (.tmp 2) (.tmp 63) rfl (g) 0 (qc x).toArray rfl rfl (VT.out) (q_sizeA x) (q_oneA x) ?_; intro w9 hw9))
        obtain ⟨V11, b11⟩ := vstored (V9.out.grow B10.out) (qc_len x) hw9 (by rw [HG.out]; exact Nat.le_refl _) (BD.out.trans (B10.out.mono BD.out.size))
        have hk : ∀ k, k ≠ g → w9.heap[k]? = w10.heap[k]? := fun k hk => by rw [hw9.out]; exact heap_setCells g k hk _ _ _
        have sz : w9.heap.size = w10.heap.size := by rw [hw9.out]; exact size_setCellsQ _ _ _ _
        have OW2 := own_below OW.out B10.out (Nat.le_refl _)
        have OW3 : w9.ownsRow w.heap.size 5 1 (.slice x.A x.tl x.tc) x.tl (vals x.tok) := own_base (own_keepB OW2 (fun k h1 h2 => hk k (by have := QX0.out.lo; rw [z1.out] at this; omega))) gD.out.2
        have OX3 : QOk w9 w9.heap.size x := by
          have h0 := OX.out
          exact ⟨h0.op, h0.n, h0.tn, h0.ks, h0.sp, h0.rt, h0.ex, h0.sr, h0.tc, h0.tm, bs_of_own OW3 h0.tok.isBytes⟩
        exact bodyPost_ret (v := .tuple #[.agg (qc x).toArray, .int .i64 0]) (results_mid_tmp (p := 2) (u := 3) (ty := 26) rfl _ _ g 0 (qc x) _ rfl V11.range Try.underlying26 rfl (q_size x)) rfl (by rw [HP3.out]; exact ⟨x, rfl, rfl, OX3, OW3, b11⟩)
    · have HP3 : Hid (parseQ bs = (z0, 150)) := Lib.hid (by rw [HP2.out, if_neg (fun h => hz0 h.1)])
      have hzb : (z != 0) = true := by simpa using hz0
      have VT := Lib.hid (fun m => vthere (V9.out.same (w' := wD.drewN m) rfl) (us := qc q0) rfl)
      clear hz0
      go_wp2_with (first
            | (go_at_call 49; refine EM.out.mono ?_; rintro e v13 ⟨rfl, m13, rfl⟩)
            | (show wpList _ _ _ (⟨some 62, .build 26 #[], _, _, _, _⟩ :: _) _ _; refine wpList_exec (op := ⟨some 62, .build 26 #[], _, _, _, _⟩) rfl (.agg (qc q0).toArray) (by exact exec_q0 rfl rfl) ?_)
            | (show wpList _ _ _ (⟨none, .store 26 (.tmp 2) (.tmp 62), _, _, _, _⟩ :: _) _ _; refine wpList_store_as (op := ⟨none, .store 26 (.tmp 2) (.tmp 62), _, _, _, _⟩) rfl 26 (.tmp 2) (.tmp 62) rfl (g) 0 (qc q0).toArray rfl rfl (VT.out m13) (q_sizeA q0) (q_oneA q0) ?_; intro w9 hw9))
      obtain ⟨V11, b11⟩ := vstored (V9.out.same (w' := wD.drewN m13) rfl) (qc_len q0) hw9 (by rw [HG.out]; exact Nat.le_refl _) (below_drewN BD.out m13)
      exact bodyPost_ret (v := .tuple #[.agg (qc q0).toArray, .int .i64 150]) (results_mid_tmp (p := 2) (u := 3) (ty := 26) rfl _ _ g 0 (qc q0) _ rfl V11.range Try.underlying26 rfl (q_size q0)) rfl (by rw [HP3.out]; exact reads_zero 150 b11)
end Go.Proofs.Ytcgclaailhhbpaa
