/- The statement RequestBack: the walk. -/
import Derived.Test.YtcgclaailhhbpaaRqN
namespace Go.Proofs.Ytcgclaailhhbpaa
open Go.ChangeShapes Go.WideShapes Go.ChangeAt Go.RowKit
set_option linter.unusedVariables false
set_option maxRecDepth 100000
set_option linter.unusedSimpArgs false
open Plain Sha Au Rp Rq
set_option maxHeartbeats 8000000 in
theorem rqback_in (x : QX) (A : Option Addr) (n c : Nat) (bs : List Int) (w : World) (h : QOk w w.heap.size x) (hM : x.tl ≤ 140737488355328) (h0 : Bs w w.heap.size A n bs) (hc : n ≤ c) (hn : n ≤ maxLen) :
    Calls Try.prog 7 #[.agg (qc x).toArray, .slice A n c] w (fun e w' => e = .returned (.bool true) ∧ Below w.heap.size w w') := by
  obtain ⟨W1, hW1⟩ : ∃ W, W = w.alloc (.cells (qc x).toArray 26) := ⟨_, rfl⟩
  have b1 := Lib.hid (show Below w.heap.size w W1 by rw [hW1]; exact below_one _ _)
  obtain ⟨g, hg⟩ : ∃ g, w.heap.size = g := ⟨_, rfl⟩
  have HG := Lib.hid hg
  have V1 := Lib.hid (show VBox W1 g 12 (qc x) by rw [hW1]; exact vbox_new _ _ _ _ _ hg (qc_len x) (by omega))
  have HW1 := Lib.hid hW1
  have HH := Lib.hid h
  have UP : Hid (∀ W, Below W1.heap.size W1 W → Below w.heap.size w W) := Lib.hid (fun W hW => b1.out.trans (hW.mono b1.out.size))
  have VX : Hid (∀ W, Below W1.heap.size W1 W → VBox W g 12 (qc x)) := Lib.hid (fun W hW => V1.out.grow hW)
  have XQ : Hid (∀ W, Below W1.heap.size W1 W → QOk W w.heap.size x) := Lib.hid (fun W hW => HH.out.below (UP.out W hW) (Nat.le_refl _))
  have SZ : Hid (∀ W, Below W1.heap.size W1 W → w.heap.size ≤ W.heap.size) := Lib.hid (fun W hW => (UP.out W hW).size)
  have P1 := Lib.hid (Below.refl W1.heap.size W1)
  have HTL := Lib.hid h.tok.len
  clear hW1 hg
  have BZ : Hid (∀ W, Below W1.heap.size W1 W → Bs W w.heap.size A n bs) := Lib.hid (fun W hW => h0.below (UP.out W hW))
  have HL := Lib.hid h0.len
  have HIB := Lib.hid h0.isBytes
  obtain ⟨gq, hgq⟩ : ∃ q, greatQ x.z = q := ⟨_, rfl⟩
  have GM := Lib.hid (fun w => greatq_any (w := w) gq HTL.out hgq)
  obtain ⟨z, er, hz⟩ : ∃ z er, parseQ bs = (z, er) := ⟨_, _, rfl⟩
  have HZE := Lib.hid hz
  have er_cases : er = 0 ∨ (z = z0 ∧ er ≠ 0) := by
    rcases parseQ_err bs with e | ⟨e1, ⟨e2, _⟩ | ⟨e2, _⟩⟩
    · rw [hz] at e; exact .inl e
    · rw [hz] at e1 e2; exact .inr ⟨e1, by simp only at e2; omega⟩
    · rw [hz] at e1 e2; exact .inr ⟨e1, by simp only at e2; omega⟩
  cases gq with
  | true =>
    clear hgq h h0 hz er_cases
    go_enter Try.func7, Try.ntmps7
    go_upto_region 1 with fail
    rw [← HW1.out, HG.out]
    go_wp2_with (first
          | (go_at_call 28; refine (rqawake_any W1).mono ?_; rintro e w2 ⟨rfl, hb⟩; have P2 := Lib.hid (P1.out.trans (hb.mono P1.out.size)); clear hb)
          | (show wpList _ _ _ (⟨some 15, .load 26 (.tmp 2), _, _, _, _⟩ :: _) _ _; refine wpList_load_mid (op := ⟨some 15, .load 26 (.tmp 2), _, _, _, _⟩) rfl 26 (.tmp 2) rfl (g) 0 rfl (qc x) _ ((VX.out _ P2.out).range) Try.underlying26 rfl (q_size x) ?_)
          | (go_at_call 11; refine (GM.out _).mono ?_; rintro e w3 ⟨rfl, hb⟩; have P3 := Lib.hid (P2.out.trans (hb.mono P2.out.size)); clear hb))
    go_ret
    exact ⟨rfl, UP.out _ P3.out⟩
  | false =>
    obtain ⟨n1, n2, n3, n4⟩ := greatQ_no hgq
    have n1 : x.tl ≤ 2000 := by rw [← HTL.out]; exact n1
    clear hgq
    by_cases hbig : 3000 < n
    · have hi : (3000 : Int) < (n : Int) := by omega
      clear h h0 hz er_cases
      go_enter Try.func7, Try.ntmps7
      go_upto_region 1 with fail
      rw [← HW1.out, HG.out]
      go_wp2_with (first
            | (go_at_call 28; refine (rqawake_any W1).mono ?_; rintro e w2 ⟨rfl, hb⟩; have P2 := Lib.hid (P1.out.trans (hb.mono P1.out.size)); clear hb)
            | (show wpList _ _ _ (⟨some 15, .load 26 (.tmp 2), _, _, _, _⟩ :: _) _ _; refine wpList_load_mid (op := ⟨some 15, .load 26 (.tmp 2), _, _, _, _⟩) rfl 26 (.tmp 2) rfl (g) 0 rfl (qc x) _ ((VX.out _ P2.out).range) Try.underlying26 rfl (q_size x) ?_)
            | (go_at_call 11; refine (GM.out _).mono ?_; rintro e w3 ⟨rfl, hb⟩; have P3 := Lib.hid (P2.out.trans (hb.mono P2.out.size)); clear hb))
      go_ret
      exact ⟨rfl, UP.out _ P3.out⟩
    · have hi : ¬ (3000 : Int) < (n : Int) := by omega
      obtain ⟨q, hq⟩ : ∃ q, mayB x.z = q := ⟨_, rfl⟩
      have HQ := Lib.hid hq
      clear hq h h0 hz
      go_enter Try.func7, Try.ntmps7
      go_upto_region 1 with fail
      rw [← HW1.out, HG.out]
      go_upto_region 5 with (first
            | (go_at_call 28; refine (rqawake_any W1).mono ?_; rintro e w2 ⟨rfl, hb⟩; have P2 := Lib.hid (P1.out.trans (hb.mono P1.out.size)); clear hb)
            | (show wpList _ _ _ (⟨some 15, .load 26 (.tmp 2), _, _, _, _⟩ :: _) _ _; refine wpList_load_mid (op := ⟨some 15, .load 26 (.tmp 2), _, _, _, _⟩) rfl 26 (.tmp 2) rfl (g) 0 rfl (qc x) _ ((VX.out _ P2.out).range) Try.underlying26 rfl (q_size x) ?_)
            | (go_at_call 11; refine (GM.out _).mono ?_; rintro e w3 ⟨rfl, hb⟩; have P3 := Lib.hid (P2.out.trans (hb.mono P2.out.size)); clear hb))
      cases q with
      | false =>
        have PM := Lib.hid (print_no (w := w3) (XQ.out _ P3.out) (SZ.out _ P3.out) hM HQ.out)
        go_upto_region 10 with (first
              | (show wpList _ _ _ (⟨some 23, .load 26 (.tmp 2), _, _, _, _⟩ :: _) _ _; refine wpList_load_mid (op := ⟨some 23, .load 26 (.tmp 2), _, _, _, _⟩) rfl 26 (.tmp 2) rfl (g) 0 rfl (qc x) _ ((VX.out _ P3.out).range) Try.underlying26 rfl (q_size x) ?_)
              | (go_at_call 14; refine (PM.out).mono ?_; rintro e w5 ⟨D5, d5, rfl, hb⟩; have P5 := Lib.hid (P3.out.trans (hb.mono P3.out.size)); clear hb))
        have BP := Lib.hid (parse_any (w := w5) (c := c) (BZ.out _ P5.out) (SZ.out _ P5.out) (by omega))
        rw [HZE.out] at BP
        go_upto_region 11 with (first
              | (go_at_call 19; refine (BP.out).mono ?_; rintro e wb ⟨xb, rfl, zw, kw, ow, hb⟩; have ZB := Lib.hid zw; have KB := Lib.hid kw; have OB := Lib.hid ow; have BB := Lib.hid hb; have vn := Lib.hid (vbox_new wb (qc q0) 26 wb.heap.size 12 rfl (qc_len _) (by omega)); have TH := Lib.hid (vthere vn.out (us := qc xb) rfl); have PB := Lib.hid (P5.out.trans (hb.mono P5.out.size)); clear zw kw ow hb)
              | (show wpList _ _ _ (⟨none, .store 26 (.tmp 9) (.tmp 55), _, _, _, _⟩ :: _) _ _; refine wpList_store_as (op := ⟨none, .store 26 (.tmp 9) (.tmp 55), _, _, _, _⟩) rfl 26 (.tmp 9) (.tmp 55) rfl (wb.heap.size) 0 (qc xb).toArray rfl rfl (TH.out) (q_sizeA xb) (q_oneA xb) ?_; intro wc hwc))
        obtain ⟨Vm, bm⟩ := vstored vn.out (qc_len xb) hwc (Nat.le_refl _) (below_one wb _)
        have VB := Lib.hid Vm
        have bm := Lib.hid bm
        have PC := Lib.hid (PB.out.trans (bm.out.mono PB.out.size))
        have KC := Lib.hid (KB.out.grow bm.out (Nat.le_refl _))
        obtain ⟨gc, hgc⟩ : ∃ g, wb.heap.size = g := ⟨_, rfl⟩
        rw [hgc] at VB
        rw [hgc]
        clear vn TH hwc Vm hgc KB
        clear BP
        rcases er_cases with he | ⟨hz, he⟩
        · subst he
          have PBK := parseQ_back HIB.out HZE.out
          have hxl : xb.tl ≤ 140737488355328 := by
            have h2 := KC.out.tok.len
            have h1 : xb.tok = z.tok := by rw [← ZB.out]; rfl
            have h3 := (may_short PBK.2.1).1
            rw [h1] at h2
            omega
          have PY := Lib.hid (print_yes (w := wc) (x := xb) (F := bs) (L := n) KC.out (Nat.le_refl _) hxl (by rw [ZB.out]; exact PBK.2.1) (by rw [ZB.out]; exact PBK.2.2) HL.out)
          go_upto_region 14 with (first
                | (show wpList _ _ _ (⟨some 63, .load 26 (.tmp 9), _, _, _, _⟩ :: _) _ _; refine wpList_load_mid (op := ⟨some 63, .load 26 (.tmp 9), _, _, _, _⟩) rfl 26 (.tmp 9) rfl (gc) 0 rfl (qc xb) _ (VB.out.range) Try.underlying26 rfl (q_size xb) ?_)
                | (go_at_call 14; refine PY.out.mono ?_; rintro e wd ⟨D, d, rfl, ho, hd1, hd2, hb⟩; have OY := Lib.hid ho; have PD := Lib.hid (PC.out.trans (hb.mono PC.out.size)); clear hb ho))
          have S1 := Lib.hid (bs_of_own OY.out HIB.out)
          have S2 := Lib.hid (BZ.out _ PD.out)
          have EQ : eqB bs bs = true := eqB_self _
          go_wp2_with (go_at_call 29; refine (same_any d c S1.out S2.out (by unfold maxLen; omega) (by unfold maxLen; omega)).mono ?_; rintro e we ⟨rfl, me, rfl⟩)
          go_ret
          exact ⟨rfl, below_drewN (UP.out _ PD.out) _⟩
        · have heb : (er != 0) = true := by simpa using he
          have SM := Lib.hid (rqsame_any (w := wc) true KC.out (q0_ok wc wc.heap.size) (Nat.le_refl _) (Nat.le_refl _) (by rw [ZB.out, hz]; exact reqB_refl _))
          go_wp2_with (first
                | (show wpList _ _ _ (⟨some 59, .load 26 (.tmp 9), _, _, _, _⟩ :: _) _ _; refine wpList_load_mid (op := ⟨some 59, .load 26 (.tmp 9), _, _, _, _⟩) rfl 26 (.tmp 9) rfl (gc) 0 rfl (qc xb) _ (VB.out.range) Try.underlying26 rfl (q_size xb) ?_)
                | (show wpList _ _ _ (⟨some 60, .build 26 #[], _, _, _, _⟩ :: _) _ _; refine wpList_exec (op := ⟨some 60, .build 26 #[], _, _, _, _⟩) rfl (.agg (qc q0).toArray) (by exact exec_q0 rfl rfl) ?_)
                | (go_at_call 20; refine (SM.out).mono ?_; rintro e wd ⟨rfl, hb⟩; have PD := Lib.hid (PC.out.trans (hb.mono PC.out.size)); clear hb))
          go_ret
          exact ⟨rfl, UP.out _ PD.out⟩
      | true =>
        obtain ⟨F, hF⟩ : ∃ F, reqF x.z = F := ⟨_, rfl⟩
        obtain ⟨L, hL⟩ : ∃ L, F.length = L := ⟨_, rfl⟩
        have HF := Lib.hid hF
        have HFL := Lib.hid hL
        have HFB : Hid (IsBytes F) := Lib.hid (by rw [← hF]; exact reqF_bytes HH.out)
        have hLs : L ≤ 474 := by rw [← hL, ← hF]; exact reqF_short HQ.out
        have hLi : decide ((1024 : Int) < (L : Int)) = false := decide_eq_false (by omega)
        have PM := Lib.hid (print_yes (w := w3) (XQ.out _ P3.out) (SZ.out _ P3.out) hM HQ.out HF.out HFL.out)
        have PF : Hid (parseQ F = (x.z, 0)) := Lib.hid (by rw [← hF]; exact parseQ_form (HH.out.z HQ.out) HQ.out)
        clear hF hL
        go_upto_region 7 with (first
              | (show wpList _ _ _ (⟨some 23, .load 26 (.tmp 2), _, _, _, _⟩ :: _) _ _; refine wpList_load_mid (op := ⟨some 23, .load 26 (.tmp 2), _, _, _, _⟩) rfl 26 (.tmp 2) rfl (g) 0 rfl (qc x) _ ((VX.out _ P3.out).range) Try.underlying26 rfl (q_size x) ?_)
              | (go_at_call 14; refine (PM.out).mono ?_; rintro e w5 ⟨D5, d5, rfl, ho, hd1, hd2, hb⟩; have O5 := Lib.hid ho; have P5 := Lib.hid (P3.out.trans (hb.mono P3.out.size)); clear hb))
        have RP := Lib.hid (parse_any (w := w5) (c := d5) (bs_of_own O5.out HFB.out) (Nat.le_refl _) (by omega))
        rw [PF.out] at RP
        go_upto_region 8 with (first
              | (go_at_call 19; refine (RP.out).mono ?_; rintro e w6 ⟨x7, rfl, zw, kw, ow, hb⟩; have Z6 := Lib.hid zw; have K6 := Lib.hid kw; have O6 := Lib.hid ow; have B6 := Lib.hid hb; have vn := Lib.hid (vbox_new w6 (qc q0) 26 w6.heap.size 12 rfl (qc_len _) (by omega)); have TH := Lib.hid (vthere vn.out (us := qc x7) rfl); have P6 := Lib.hid (P5.out.trans (hb.mono P5.out.size)); clear zw kw ow hb)
              | (show wpList _ _ _ (⟨none, .store 26 (.tmp 7) (.tmp 32), _, _, _, _⟩ :: _) _ _; refine wpList_store_as (op := ⟨none, .store 26 (.tmp 7) (.tmp 32), _, _, _, _⟩) rfl 26 (.tmp 7) (.tmp 32) rfl (w6.heap.size) 0 (qc x7).toArray rfl rfl (TH.out) (q_sizeA x7) (q_oneA x7) ?_; intro w7 hw7))
        obtain ⟨Vm, bm⟩ := vstored vn.out (qc_len x7) hw7 (Nat.le_refl _) (below_one w6 _)
        have V7 := Lib.hid Vm
        have bm := Lib.hid bm
        have P7 := Lib.hid (P6.out.trans (bm.out.mono P6.out.size))
        have K7 := Lib.hid (K6.out.grow bm.out (Nat.le_refl _))
        obtain ⟨g7, hg7⟩ : ∃ g, w6.heap.size = g := ⟨_, rfl⟩
        rw [hg7] at V7
        rw [hg7]
        clear vn TH hw7 Vm hg7 K6
        have SMM := Lib.hid (rqsame_any (w := w7) true K7.out (XQ.out _ P7.out) (Nat.le_refl _) (SZ.out _ P7.out) (by rw [Z6.out]; exact reqB_refl _))
        go_upto_region 10 with (first
              | (show wpList _ _ _ (⟨some 37, .load 26 (.tmp 7), _, _, _, some (2, false)⟩ :: _) _ _; refine wpList_load_guard (op := ⟨some 37, .load 26 (.tmp 7), _, _, _, some (2, false)⟩) (by rfl) 26 (.tmp 7) rfl (g7) 0 rfl (qc x7) _ (V7.out.range) Try.underlying26 rfl (q_size x7) ?_)
              | (show wpList _ _ _ (⟨some 38, .load 26 (.tmp 2), _, _, _, some (2, false)⟩ :: _) _ _; refine wpList_load_guard (op := ⟨some 38, .load 26 (.tmp 2), _, _, _, some (2, false)⟩) (by rfl) 26 (.tmp 2) rfl (g) 0 rfl (qc x) _ ((VX.out _ P7.out).range) Try.underlying26 rfl (q_size x) ?_)
              | (go_at_call 20; refine (SMM.out).mono ?_; rintro e w8 ⟨rfl, hb⟩; have P8 := Lib.hid (P7.out.trans (hb.mono P7.out.size)); clear hb)
              | (show wpList _ _ _ (⟨some 48, .load 26 (.tmp 2), _, _, _, some (13, false)⟩ :: _) _ _; refine wpList_load_guard (op := ⟨some 48, .load 26 (.tmp 2), _, _, _, some (13, false)⟩) (by rfl) 26 (.tmp 2) rfl (g) 0 rfl (qc x) _ ((VX.out _ P8.out).range) Try.underlying26 rfl (q_size x) ?_)
              | (go_at_call 15; refine (may_any (w := w8) true HTL.out HQ.out).mono ?_; rintro e w9 ⟨rfl, hb⟩; have P9 := Lib.hid (P8.out.trans (hb.mono P8.out.size)); clear hb))
        clear V7 K7 O5 SMM RP
        have BP := Lib.hid (parse_any (w := w9) (c := c) (BZ.out _ P9.out) (SZ.out _ P9.out) (by omega))
        rw [HZE.out] at BP
        go_upto_region 11 with (first
              | (go_at_call 19; refine (BP.out).mono ?_; rintro e wb ⟨xb, rfl, zw, kw, ow, hb⟩; have ZB := Lib.hid zw; have KB := Lib.hid kw; have OB := Lib.hid ow; have BB := Lib.hid hb; have vn := Lib.hid (vbox_new wb (qc q0) 26 wb.heap.size 12 rfl (qc_len _) (by omega)); have TH := Lib.hid (vthere vn.out (us := qc xb) rfl); have PB := Lib.hid (P9.out.trans (hb.mono P9.out.size)); clear zw kw ow hb)
              | (show wpList _ _ _ (⟨none, .store 26 (.tmp 9) (.tmp 55), _, _, _, _⟩ :: _) _ _; refine wpList_store_as (op := ⟨none, .store 26 (.tmp 9) (.tmp 55), _, _, _, _⟩) rfl 26 (.tmp 9) (.tmp 55) rfl (wb.heap.size) 0 (qc xb).toArray rfl rfl (TH.out) (q_sizeA xb) (q_oneA xb) ?_; intro wc hwc))
        obtain ⟨Vm, bm⟩ := vstored vn.out (qc_len xb) hwc (Nat.le_refl _) (below_one wb _)
        have VB := Lib.hid Vm
        have bm := Lib.hid bm
        have PC := Lib.hid (PB.out.trans (bm.out.mono PB.out.size))
        have KC := Lib.hid (KB.out.grow bm.out (Nat.le_refl _))
        obtain ⟨gc, hgc⟩ : ∃ g, wb.heap.size = g := ⟨_, rfl⟩
        rw [hgc] at VB
        rw [hgc]
        clear vn TH hwc Vm hgc KB
        clear BP
        rcases er_cases with he | ⟨hz, he⟩
        · subst he
          have PBK := parseQ_back HIB.out HZE.out
          have hxl : xb.tl ≤ 140737488355328 := by
            have h2 := KC.out.tok.len
            have h1 : xb.tok = z.tok := by rw [← ZB.out]; rfl
            have h3 := (may_short PBK.2.1).1
            rw [h1] at h2
            omega
          have PY := Lib.hid (print_yes (w := wc) (x := xb) (F := bs) (L := n) KC.out (Nat.le_refl _) hxl (by rw [ZB.out]; exact PBK.2.1) (by rw [ZB.out]; exact PBK.2.2) HL.out)
          go_upto_region 14 with (first
                | (show wpList _ _ _ (⟨some 63, .load 26 (.tmp 9), _, _, _, _⟩ :: _) _ _; refine wpList_load_mid (op := ⟨some 63, .load 26 (.tmp 9), _, _, _, _⟩) rfl 26 (.tmp 9) rfl (gc) 0 rfl (qc xb) _ (VB.out.range) Try.underlying26 rfl (q_size xb) ?_)
                | (go_at_call 14; refine PY.out.mono ?_; rintro e wd ⟨D, d, rfl, ho, hd1, hd2, hb⟩; have OY := Lib.hid ho; have PD := Lib.hid (PC.out.trans (hb.mono PC.out.size)); clear hb ho))
          have S1 := Lib.hid (bs_of_own OY.out HIB.out)
          have S2 := Lib.hid (BZ.out _ PD.out)
          have EQ : eqB bs bs = true := eqB_self _
          go_wp2_with (go_at_call 29; refine (same_any d c S1.out S2.out (by unfold maxLen; omega) (by unfold maxLen; omega)).mono ?_; rintro e we ⟨rfl, me, rfl⟩)
          go_ret
          exact ⟨rfl, below_drewN (UP.out _ PD.out) _⟩
        · have heb : (er != 0) = true := by simpa using he
          have SM := Lib.hid (rqsame_any (w := wc) true KC.out (q0_ok wc wc.heap.size) (Nat.le_refl _) (Nat.le_refl _) (by rw [ZB.out, hz]; exact reqB_refl _))
          go_wp2_with (first
                | (show wpList _ _ _ (⟨some 59, .load 26 (.tmp 9), _, _, _, _⟩ :: _) _ _; refine wpList_load_mid (op := ⟨some 59, .load 26 (.tmp 9), _, _, _, _⟩) rfl 26 (.tmp 9) rfl (gc) 0 rfl (qc xb) _ (VB.out.range) Try.underlying26 rfl (q_size xb) ?_)
                | (show wpList _ _ _ (⟨some 60, .build 26 #[], _, _, _, _⟩ :: _) _ _; refine wpList_exec (op := ⟨some 60, .build 26 #[], _, _, _, _⟩) rfl (.agg (qc q0).toArray) (by exact exec_q0 rfl rfl) ?_)
                | (go_at_call 20; refine (SM.out).mono ?_; rintro e wd ⟨rfl, hb⟩; have PD := Lib.hid (PC.out.trans (hb.mono PC.out.size)); clear hb))
          go_ret
          exact ⟨rfl, UP.out _ PD.out⟩
end Go.Proofs.Ytcgclaailhhbpaa
