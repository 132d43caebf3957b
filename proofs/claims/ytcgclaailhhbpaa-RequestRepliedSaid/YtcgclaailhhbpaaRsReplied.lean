/- The statement RequestReplied: the walk. -/
import Derived.Test.YtcgclaailhhbpaaRsZ
import Derived.Test.YtcgclaailhhbpaaRqN
import Derived.Test.YtcgclaailhhbpaaRsF
import Derived.Test.YtcgclaailhhbpaaRsB
namespace Go.Proofs.Ytcgclaailhhbpaa
open Go.ChangeShapes Go.WideShapes Go.ChangeAt Go.RowKit
set_option linter.unusedVariables false
set_option maxRecDepth 100000
set_option linter.unusedSimpArgs false
open Plain Sha Au Rp Rq
set_option maxHeartbeats 8000000 in
theorem rqreplied_in (x : RX) (A : Option Addr) (n c : Nat) (bs : List Int) (cut : Int) (w : World) (h : ROk w w.heap.size x) (hM : x.kn ≤ 140737488355328) (h0 : Bs w w.heap.size A n bs) (hc : n ≤ c) (hn : n ≤ maxLen) (hcut : -9223372036854775808 ≤ cut ∧ cut ≤ 9223372036854775807) :
    Calls Try.prog 9 #[.agg (rc x).toArray, .slice A n c, .int .i64 cut] w (fun e w' => e = .returned (.bool true) ∧ Below w.heap.size w w') := by
  obtain ⟨hcut1, hcut2⟩ := hcut
  obtain ⟨W1, hW1⟩ : ∃ W, W = w.alloc (.cells (rc x).toArray 46) := ⟨_, rfl⟩
  have b1 := Lib.hid (show Below w.heap.size w W1 by rw [hW1]; exact below_one _ _)
  obtain ⟨g, hg⟩ : ∃ g, w.heap.size = g := ⟨_, rfl⟩
  have HG := Lib.hid hg
  have V1 := Lib.hid (show VBox W1 g 75 (rc x) by rw [hW1]; exact vbox_new _ _ _ _ _ hg (rc_len x) (by omega))
  have HW1 := Lib.hid hW1
  have HH := Lib.hid h
  have UP : Hid (∀ W, Below W1.heap.size W1 W → Below w.heap.size w W) := Lib.hid (fun W hW => b1.out.trans (hW.mono b1.out.size))
  have VX : Hid (∀ W, Below W1.heap.size W1 W → VBox W g 75 (rc x)) := Lib.hid (fun W hW => V1.out.grow hW)
  have XQ : Hid (∀ W, Below W1.heap.size W1 W → ROk W w.heap.size x) := Lib.hid (fun W hW => HH.out.below (UP.out W hW) (Nat.le_refl _))
  have SZ : Hid (∀ W, Below W1.heap.size W1 W → w.heap.size ≤ W.heap.size) := Lib.hid (fun W hW => (UP.out W hW).size)
  have P1 := Lib.hid (Below.refl W1.heap.size W1)
  have GM : Hid (∀ W, Below W1.heap.size W1 W → Calls Try.prog 21 #[.agg (rc x).toArray] W (GrPost W)) := Lib.hid (fun W hW => greatr_any (XQ.out W hW) (SZ.out W hW))
  clear hW1 hg
  have BZ : Hid (∀ W, Below W1.heap.size W1 W → Bs W w.heap.size A n bs) := Lib.hid (fun W hW => h0.below (UP.out W hW))
  have HL := Lib.hid h0.len
  have HIB := Lib.hid h0.isBytes
  obtain ⟨z, er, hz⟩ : ∃ z er, parseR bs = (z, er) := ⟨_, _, rfl⟩
  have HZE := Lib.hid hz
  have er_cases : er = 0 ∨ (z = rz0 ∧ er ≠ 0) := by
    rcases parseR_err bs with e | ⟨e1, e2⟩
    · rw [hz] at e; exact .inl e
    · rw [hz] at e1 e2; exact .inr ⟨e1, by simp only at e2; omega⟩
  by_cases hbig : 3000 < n
  · have hi : (3000 : Int) < (n : Int) := by omega
    clear h h0 hz er_cases hM
    go_enter Try.func9, Try.ntmps9
    go_upto_region 1 with fail
    rw [← HW1.out, HG.out]
    go_wp2_with (first
          | (go_at_call 28; refine (rqawake_any W1).mono ?_; rintro e w2 ⟨rfl, hb⟩; have P2 := Lib.hid (P1.out.trans (hb.mono P1.out.size)); clear hb)
          | (show wpList _ _ _ (⟨some 19, .load 46 (.tmp 3), _, _, _, _⟩ :: _) _ _; refine wpList_load_mid (op := ⟨some 19, .load 46 (.tmp 3), _, _, _, _⟩) rfl 46 (.tmp 3) rfl (g) 0 rfl (rc x) _ ((VX.out _ P2.out).range) Try.underlying46 rfl (r_size x) ?_)
          | (go_at_call 21; refine (GM.out _ P2.out).mono ?_; rintro e w3 ⟨q, rfl, hb⟩; have P3 := Lib.hid (P2.out.trans (hb.mono P2.out.size)); clear hb; cases q))
    · go_ret
      exact ⟨rfl, UP.out _ P3.out⟩
    · go_wp2
      go_ret
      exact ⟨rfl, UP.out _ P3.out⟩
  · have hi : ¬ (3000 : Int) < (n : Int) := by omega
    obtain ⟨q2, hq2⟩ : ∃ q, mayR x.z = q := ⟨_, rfl⟩
    have HQ := Lib.hid hq2
    clear hq2 h h0 hz hM
    go_enter Try.func9, Try.ntmps9
    go_upto_region 1 with fail
    rw [← HW1.out, HG.out]
    go_upto_region 5 with (first
          | (go_at_call 28; refine (rqawake_any W1).mono ?_; rintro e w2 ⟨rfl, hb⟩; have P2 := Lib.hid (P1.out.trans (hb.mono P1.out.size)); clear hb)
          | (show wpList _ _ _ (⟨some 19, .load 46 (.tmp 3), _, _, _, _⟩ :: _) _ _; refine wpList_load_mid (op := ⟨some 19, .load 46 (.tmp 3), _, _, _, _⟩) rfl 46 (.tmp 3) rfl (g) 0 rfl (rc x) _ ((VX.out _ P2.out).range) Try.underlying46 rfl (r_size x) ?_)
          | (go_at_call 21; refine (GM.out _ P2.out).mono ?_; rintro e w3 ⟨q, rfl, hb⟩; have P3 := Lib.hid (P2.out.trans (hb.mono P2.out.size)); clear hb; cases q))
    rotate_left
    · go_wp2
      go_ret
      exact ⟨rfl, UP.out _ P3.out⟩
    cases q2 with
    | false =>
      have PM := Lib.hid (printr_no (w := w3) (XQ.out _ P3.out) (SZ.out _ P3.out) HQ.out)
      go_upto_region 14 with (first
            | (show wpList _ _ _ (⟨some 27, .load 46 (.tmp 3), _, _, _, _⟩ :: _) _ _; refine wpList_load_mid (op := ⟨some 27, .load 46 (.tmp 3), _, _, _, _⟩) rfl 46 (.tmp 3) rfl (g) 0 rfl (rc x) _ ((VX.out _ P3.out).range) Try.underlying46 rfl (r_size x) ?_)
            | (go_at_call 22; refine (PM.out).mono ?_; rintro e w5 ⟨D5, d5, rfl, hb⟩; have P5 := Lib.hid (P3.out.trans (hb.mono P3.out.size)); clear hb))
      have BP := Lib.hid (parser_any (w := w5) (c := c) (BZ.out _ P5.out) (SZ.out _ P5.out) hc (by omega))
      rw [HZE.out] at BP
      go_upto_region 15 with (first
            | (go_at_call 26; refine (BP.out).mono ?_; rintro e wb ⟨xb, rfl, zw, kw, ow, hb⟩; have ZB := Lib.hid zw; have KB := Lib.hid kw; have BB := Lib.hid hb; have vn := Lib.hid (vbox_new wb (rc r0) 46 wb.heap.size 75 rfl (rc_len _) (by omega)); have TH := Lib.hid (vthere vn.out (us := rc xb) (rc_len _)); have PB := Lib.hid (P5.out.trans (hb.mono P5.out.size)); clear zw kw ow hb)
            | (show wpList _ _ _ (⟨none, .store 46 (.tmp 13) (.tmp 69), _, _, _, _⟩ :: _) _ _; refine wpList_store_as (op := ⟨none, .store 46 (.tmp 13) (.tmp 69), _, _, _, _⟩) rfl 46 (.tmp 13) (.tmp 69) rfl (wb.heap.size) 0 (rc xb).toArray rfl rfl (TH.out) (r_sizeA xb) (r_oneA xb) ?_; intro wc hwc))
      obtain ⟨Vm, bm⟩ := vstored vn.out (rc_len xb) hwc (Nat.le_refl _) (below_one wb _)
      have VB := Lib.hid Vm
      have bm := Lib.hid bm
      have PC := Lib.hid (PB.out.trans (bm.out.mono PB.out.size))
      have KC := Lib.hid (KB.out.grow bm.out (Nat.le_refl _))
      obtain ⟨gc, hgc⟩ : ∃ g, wb.heap.size = g := ⟨_, rfl⟩
      rw [hgc] at VB
      rw [hgc]
      clear vn TH hwc Vm hgc KB
      clear BP
      rcases er_cases with he | ⟨hz, he⟩
      · subst he
        have PBK := parseR_back HIB.out (by rw [HL.out]; omega) HZE.out
        have PY := Lib.hid (printr_yes (w := wc) (x := xb) (F := bs) (L := n) KC.out (Nat.le_refl _) (by rw [ZB.out]; exact PBK.2.1) (by rw [ZB.out]; exact PBK.2.2.1) HL.out)
        clear PBK
        go_upto_region 18 with (first
              | (show wpList _ _ _ (⟨some 77, .load 46 (.tmp 13), _, _, _, _⟩ :: _) _ _; refine wpList_load_mid (op := ⟨some 77, .load 46 (.tmp 13), _, _, _, _⟩) rfl 46 (.tmp 13) rfl (gc) 0 rfl (rc xb) _ (VB.out.range) Try.underlying46 rfl (r_size xb) ?_)
              | (go_at_call 22; refine PY.out.mono ?_; rintro e wd ⟨D, d, rfl, ho, hd1, hd2, hb⟩; have OY := Lib.hid ho; have PD := Lib.hid (PC.out.trans (hb.mono PC.out.size)); clear hb ho))
        have S1 := Lib.hid (bs_of_own OY.out HIB.out)
        have S2 := Lib.hid (BZ.out _ PD.out)
        have EQ : eqB bs bs = true := eqB_self _
        go_wp2_with (go_at_call 29; refine (same_any d c S1.out S2.out (by unfold maxLen; omega) (by unfold maxLen; omega)).mono ?_; rintro e we ⟨rfl, me, rfl⟩)
        go_ret
        exact ⟨rfl, below_drewN (UP.out _ PD.out) _⟩
      · have heb : (er != 0) = true := by simpa using he
        have SM := Lib.hid (rsrep_any (w := wc) true KC.out (r0_ok wc wc.heap.size) (Nat.le_refl _) (Nat.le_refl _) (by rw [ZB.out, hz]; exact repB_refl _))
        go_wp2_with (first
              | (show wpList _ _ _ (⟨some 73, .load 46 (.tmp 13), _, _, _, _⟩ :: _) _ _; refine wpList_load_mid (op := ⟨some 73, .load 46 (.tmp 13), _, _, _, _⟩) rfl 46 (.tmp 13) rfl (gc) 0 rfl (rc xb) _ (VB.out.range) Try.underlying46 rfl (r_size xb) ?_)
              | (show wpList _ _ _ (⟨some 74, .build 46 #[], _, _, _, _⟩ :: _) _ _; refine wpList_exec (op := ⟨some 74, .build 46 #[], _, _, _, _⟩) rfl (.agg (rc r0).toArray) (by exact exec_r0 rfl rfl) ?_)
              | (go_at_call 27; refine (SM.out).mono ?_; rintro e wd ⟨rfl, hb⟩; have PD := Lib.hid (PC.out.trans (hb.mono PC.out.size)); clear hb))
        go_ret
        exact ⟨rfl, UP.out _ PD.out⟩
    | true =>
      obtain ⟨F, hF⟩ : ∃ F, repF x.z = F := ⟨_, rfl⟩
      obtain ⟨L, hL⟩ : ∃ L, F.length = L := ⟨_, rfl⟩
      have HF := Lib.hid hF
      have HFL := Lib.hid hL
      have HFB : Hid (IsBytes F) := Lib.hid (by rw [← hF]; exact repF_bytes HH.out)
      have hLs : L ≤ 8909 := by rw [← hL, ← hF]; exact repF_short HQ.out
      have XO := Lib.hid (HH.out.z HQ.out)
      have PM := Lib.hid (printr_yes (w := w3) (XQ.out _ P3.out) (SZ.out _ P3.out) HQ.out HF.out HFL.out)
      have PF : Hid (parseR F = (x.z, 0)) := Lib.hid (by rw [← hF]; exact parseR_form XO.out HQ.out)
      clear hF hL
      go_upto_region 7 with (first
            | (show wpList _ _ _ (⟨some 27, .load 46 (.tmp 3), _, _, _, _⟩ :: _) _ _; refine wpList_load_mid (op := ⟨some 27, .load 46 (.tmp 3), _, _, _, _⟩) rfl 46 (.tmp 3) rfl (g) 0 rfl (rc x) _ ((VX.out _ P3.out).range) Try.underlying46 rfl (r_size x) ?_)
            | (go_at_call 22; refine (PM.out).mono ?_; rintro e w5 ⟨D5, d5, rfl, ho, hd1, hd2, hb⟩; have O5 := Lib.hid ho; clear ho; have P5 := Lib.hid (P3.out.trans (hb.mono P3.out.size)); clear hb))
      have RP := Lib.hid (parser_any (w := w5) (c := d5) (bs_of_own O5.out HFB.out) (Nat.le_refl _) hd1 (by omega))
      rw [PF.out] at RP
      go_upto_region 8 with (first
            | (go_at_call 26; refine (RP.out).mono ?_; rintro e w6 ⟨x7, rfl, zw, kw, ow, hb⟩; have Z6 := Lib.hid zw; have K6 := Lib.hid kw; have B6 := Lib.hid hb; have vn := Lib.hid (vbox_new w6 (rc r0) 46 w6.heap.size 75 rfl (rc_len _) (by omega)); have TH := Lib.hid (vthere vn.out (us := rc x7) (rc_len _)); have P6 := Lib.hid (P5.out.trans (hb.mono P5.out.size)); clear zw kw ow hb)
            | (show wpList _ _ _ (⟨none, .store 46 (.tmp 9) (.tmp 36), _, _, _, _⟩ :: _) _ _; refine wpList_store_as (op := ⟨none, .store 46 (.tmp 9) (.tmp 36), _, _, _, _⟩) rfl 46 (.tmp 9) (.tmp 36) rfl (w6.heap.size) 0 (rc x7).toArray rfl rfl (TH.out) (r_sizeA x7) (r_oneA x7) ?_; intro w7 hw7))
      obtain ⟨Vm, bm⟩ := vstored vn.out (rc_len x7) hw7 (Nat.le_refl _) (below_one w6 _)
      have V7 := Lib.hid Vm
      have bm := Lib.hid bm
      have P7 := Lib.hid (P6.out.trans (bm.out.mono P6.out.size))
      have K7 := Lib.hid (K6.out.grow bm.out (Nat.le_refl _))
      obtain ⟨g7, hg7⟩ : ∃ g, w6.heap.size = g := ⟨_, rfl⟩
      rw [hg7] at V7
      rw [hg7]
      clear vn TH hw7 Vm hg7 K6
      have SMM := Lib.hid (rsrep_any (w := w7) true K7.out (XQ.out _ P7.out) (Nat.le_refl _) (SZ.out _ P7.out) (by rw [Z6.out]; exact repB_refl _))
      go_upto_region 10 with (first
            | (show wpList _ _ _ (⟨some 41, .load 46 (.tmp 9), _, _, _, some (2, false)⟩ :: _) _ _; refine wpList_load_guard (op := ⟨some 41, .load 46 (.tmp 9), _, _, _, some (2, false)⟩) (by rfl) 46 (.tmp 9) rfl (g7) 0 rfl (rc x7) _ (V7.out.range) Try.underlying46 rfl (r_size x7) ?_)
            | (show wpList _ _ _ (⟨some 42, .load 46 (.tmp 3), _, _, _, some (2, false)⟩ :: _) _ _; refine wpList_load_guard (op := ⟨some 42, .load 46 (.tmp 3), _, _, _, some (2, false)⟩) (by rfl) 46 (.tmp 3) rfl (g) 0 rfl (rc x) _ ((VX.out _ P7.out).range) Try.underlying46 rfl (r_size x) ?_)
            | (go_at_call 27; refine (SMM.out).mono ?_; rintro e w8 ⟨rfl, hb⟩; have C8 := Lib.hid hb; have P8 := Lib.hid (P7.out.trans (hb.mono P7.out.size)); clear hb))
      have Q8 := Lib.hid ((B6.out.trans (bm.out.mono B6.out.size)).trans (C8.out.mono (Nat.le_trans B6.out.size bm.out.size)))
      clear V7 K7 SMM RP B6 bm C8
      by_cases h1 : 0 < cut
      · by_cases h2 : cut ≤ (L : Int)
        · obtain ⟨m, hm⟩ : ∃ m : Nat, (L : Int) - cut = (m : Int) := ⟨((L : Int) - cut).toNat, by omega⟩
          have hw : IntKind.i64.wrap ((L : Int) - cut) = (m : Int) := by rw [IntKind.wrap_i64]; omega
          have hmL : m < L := by omega
          have hmd : m ≤ d5 := by omega
          have CZ := Lib.hid ((bs_of_own (own_below O5.out Q8.out (Nat.le_refl _)) HFB.out).cut (k := 0) (m := m) (by omega) D5 (fun b off e _ => by rw [e]; simp))
          rw [List.drop_zero] at CZ
          have PE : Hid ((parseR (F.take m)).2 = 150) := Lib.hid (by rw [← HF.out]; exact parseR_cut XO.out (repF_bytes HH.out) (by rw [HF.out, HFL.out]; omega) (by rw [HF.out, HFL.out]; exact hmL))
          have RP := Lib.hid (parser_any (w := w8) (c := d5) CZ.out (Nat.le_refl _) hmd (by omega))
          obtain ⟨zc, ec, hz⟩ : ∃ z er, parseR (F.take m) = (z, er) := ⟨_, _, rfl⟩
          rw [hz] at RP PE
          obtain rfl : ec = 150 := PE.out
          have SL := cut_h D5 L d5 m (m : Int) rfl hmd
          clear hz PE CZ
          go_upto_region 12 with (first
                | (go_at_call 26; refine (RP.out).mono ?_; rintro e w9 ⟨x9, rfl, zw, kw, ow, hb⟩; have Z9 := Lib.hid zw; have K9 := Lib.hid kw; have B9 := Lib.hid hb; have vn := Lib.hid (vbox_new w9 (rc r0) 46 w9.heap.size 75 rfl (rc_len _) (by omega)); have TH := Lib.hid (vthere vn.out (us := rc x9) (rc_len _)); have P9 := Lib.hid (P8.out.trans (hb.mono P8.out.size)); clear zw kw ow hb)
                | (show wpList _ _ _ (⟨none, .store 46 (.tmp 11) (.tmp 62), _, _, _, _⟩ :: _) _ _; refine wpList_store_as (op := ⟨none, .store 46 (.tmp 11) (.tmp 62), _, _, _, _⟩) rfl 46 (.tmp 11) (.tmp 62) rfl (w9.heap.size) 0 (rc x9).toArray rfl rfl (TH.out) (r_sizeA x9) (r_oneA x9) ?_; intro wz hwz))
          obtain ⟨Vm, bn⟩ := vstored vn.out (rc_len x9) hwz (Nat.le_refl _) (below_one w9 _)
          have V9 := Lib.hid Vm
          have bn := Lib.hid bn
          have PZ := Lib.hid (P9.out.trans (bn.out.mono P9.out.size))
          have KZ := Lib.hid (K9.out.grow bn.out (Nat.le_refl _))
          obtain ⟨g9, hg9⟩ : ∃ g, w9.heap.size = g := ⟨_, rfl⟩
          rw [hg9] at V9
          rw [hg9]
          clear vn TH hwz Vm hg9 K9
          clear V9 KZ SL bn B9 RP
          go_upto_region 14 with fail
          have BP := Lib.hid (parser_any (w := wz) (c := c) (BZ.out _ PZ.out) (SZ.out _ PZ.out) hc (by omega))
          rw [HZE.out] at BP
          go_upto_region 15 with (first
                | (go_at_call 26; refine (BP.out).mono ?_; rintro e wb ⟨xb, rfl, zw, kw, ow, hb⟩; have ZB := Lib.hid zw; have KB := Lib.hid kw; have BB := Lib.hid hb; have vn := Lib.hid (vbox_new wb (rc r0) 46 wb.heap.size 75 rfl (rc_len _) (by omega)); have TH := Lib.hid (vthere vn.out (us := rc xb) (rc_len _)); have PB := Lib.hid (PZ.out.trans (hb.mono PZ.out.size)); clear zw kw ow hb)
                | (show wpList _ _ _ (⟨none, .store 46 (.tmp 13) (.tmp 69), _, _, _, _⟩ :: _) _ _; refine wpList_store_as (op := ⟨none, .store 46 (.tmp 13) (.tmp 69), _, _, _, _⟩) rfl 46 (.tmp 13) (.tmp 69) rfl (wb.heap.size) 0 (rc xb).toArray rfl rfl (TH.out) (r_sizeA xb) (r_oneA xb) ?_; intro wc hwc))
          obtain ⟨Vm, bm⟩ := vstored vn.out (rc_len xb) hwc (Nat.le_refl _) (below_one wb _)
          have VB := Lib.hid Vm
          have bm := Lib.hid bm
          have PC := Lib.hid (PB.out.trans (bm.out.mono PB.out.size))
          have KC := Lib.hid (KB.out.grow bm.out (Nat.le_refl _))
          obtain ⟨gc, hgc⟩ : ∃ g, wb.heap.size = g := ⟨_, rfl⟩
          rw [hgc] at VB
          rw [hgc]
          clear vn TH hwc Vm hgc KB
          clear BP
          rcases er_cases with he | ⟨hz, he⟩
          · subst he
            have PBK := parseR_back HIB.out (by rw [HL.out]; omega) HZE.out
            have PY := Lib.hid (printr_yes (w := wc) (x := xb) (F := bs) (L := n) KC.out (Nat.le_refl _) (by rw [ZB.out]; exact PBK.2.1) (by rw [ZB.out]; exact PBK.2.2.1) HL.out)
            clear PBK
            go_upto_region 18 with (first
                  | (show wpList _ _ _ (⟨some 77, .load 46 (.tmp 13), _, _, _, _⟩ :: _) _ _; refine wpList_load_mid (op := ⟨some 77, .load 46 (.tmp 13), _, _, _, _⟩) rfl 46 (.tmp 13) rfl (gc) 0 rfl (rc xb) _ (VB.out.range) Try.underlying46 rfl (r_size xb) ?_)
                  | (go_at_call 22; refine PY.out.mono ?_; rintro e wd ⟨D, d, rfl, ho, hd1, hd2, hb⟩; have OY := Lib.hid ho; have PD := Lib.hid (PC.out.trans (hb.mono PC.out.size)); clear hb ho))
            have S1 := Lib.hid (bs_of_own OY.out HIB.out)
            have S2 := Lib.hid (BZ.out _ PD.out)
            have EQ : eqB bs bs = true := eqB_self _
            go_wp2_with (go_at_call 29; refine (same_any d c S1.out S2.out (by unfold maxLen; omega) (by unfold maxLen; omega)).mono ?_; rintro e we ⟨rfl, me, rfl⟩)
            go_ret
            exact ⟨rfl, below_drewN (UP.out _ PD.out) _⟩
          · have heb : (er != 0) = true := by simpa using he
            have SM := Lib.hid (rsrep_any (w := wc) true KC.out (r0_ok wc wc.heap.size) (Nat.le_refl _) (Nat.le_refl _) (by rw [ZB.out, hz]; exact repB_refl _))
            go_wp2_with (first
                  | (show wpList _ _ _ (⟨some 73, .load 46 (.tmp 13), _, _, _, _⟩ :: _) _ _; refine wpList_load_mid (op := ⟨some 73, .load 46 (.tmp 13), _, _, _, _⟩) rfl 46 (.tmp 13) rfl (gc) 0 rfl (rc xb) _ (VB.out.range) Try.underlying46 rfl (r_size xb) ?_)
                  | (show wpList _ _ _ (⟨some 74, .build 46 #[], _, _, _, _⟩ :: _) _ _; refine wpList_exec (op := ⟨some 74, .build 46 #[], _, _, _, _⟩) rfl (.agg (rc r0).toArray) (by exact exec_r0 rfl rfl) ?_)
                  | (go_at_call 27; refine (SM.out).mono ?_; rintro e wd ⟨rfl, hb⟩; have PD := Lib.hid (PC.out.trans (hb.mono PC.out.size)); clear hb))
            go_ret
            exact ⟨rfl, UP.out _ PD.out⟩
        · have h2d : decide (cut ≤ (L : Int)) = false := decide_eq_false h2
          go_upto_region 14 with fail
          have BP := Lib.hid (parser_any (w := w8) (c := c) (BZ.out _ P8.out) (SZ.out _ P8.out) hc (by omega))
          rw [HZE.out] at BP
          go_upto_region 15 with (first
                | (go_at_call 26; refine (BP.out).mono ?_; rintro e wb ⟨xb, rfl, zw, kw, ow, hb⟩; have ZB := Lib.hid zw; have KB := Lib.hid kw; have BB := Lib.hid hb; have vn := Lib.hid (vbox_new wb (rc r0) 46 wb.heap.size 75 rfl (rc_len _) (by omega)); have TH := Lib.hid (vthere vn.out (us := rc xb) (rc_len _)); have PB := Lib.hid (P8.out.trans (hb.mono P8.out.size)); clear zw kw ow hb)
                | (show wpList _ _ _ (⟨none, .store 46 (.tmp 13) (.tmp 69), _, _, _, _⟩ :: _) _ _; refine wpList_store_as (op := ⟨none, .store 46 (.tmp 13) (.tmp 69), _, _, _, _⟩) rfl 46 (.tmp 13) (.tmp 69) rfl (wb.heap.size) 0 (rc xb).toArray rfl rfl (TH.out) (r_sizeA xb) (r_oneA xb) ?_; intro wc hwc))
          obtain ⟨Vm, bm⟩ := vstored vn.out (rc_len xb) hwc (Nat.le_refl _) (below_one wb _)
          have VB := Lib.hid Vm
          have bm := Lib.hid bm
          have PC := Lib.hid (PB.out.trans (bm.out.mono PB.out.size))
          have KC := Lib.hid (KB.out.grow bm.out (Nat.le_refl _))
          obtain ⟨gc, hgc⟩ : ∃ g, wb.heap.size = g := ⟨_, rfl⟩
          rw [hgc] at VB
          rw [hgc]
          clear vn TH hwc Vm hgc KB
          clear BP
          rcases er_cases with he | ⟨hz, he⟩
          · subst he
            have PBK := parseR_back HIB.out (by rw [HL.out]; omega) HZE.out
            have PY := Lib.hid (printr_yes (w := wc) (x := xb) (F := bs) (L := n) KC.out (Nat.le_refl _) (by rw [ZB.out]; exact PBK.2.1) (by rw [ZB.out]; exact PBK.2.2.1) HL.out)
            clear PBK
            go_upto_region 18 with (first
                  | (show wpList _ _ _ (⟨some 77, .load 46 (.tmp 13), _, _, _, _⟩ :: _) _ _; refine wpList_load_mid (op := ⟨some 77, .load 46 (.tmp 13), _, _, _, _⟩) rfl 46 (.tmp 13) rfl (gc) 0 rfl (rc xb) _ (VB.out.range) Try.underlying46 rfl (r_size xb) ?_)
                  | (go_at_call 22; refine PY.out.mono ?_; rintro e wd ⟨D, d, rfl, ho, hd1, hd2, hb⟩; have OY := Lib.hid ho; have PD := Lib.hid (PC.out.trans (hb.mono PC.out.size)); clear hb ho))
            have S1 := Lib.hid (bs_of_own OY.out HIB.out)
            have S2 := Lib.hid (BZ.out _ PD.out)
            have EQ : eqB bs bs = true := eqB_self _
            go_wp2_with (go_at_call 29; refine (same_any d c S1.out S2.out (by unfold maxLen; omega) (by unfold maxLen; omega)).mono ?_; rintro e we ⟨rfl, me, rfl⟩)
            go_ret
            exact ⟨rfl, below_drewN (UP.out _ PD.out) _⟩
          · have heb : (er != 0) = true := by simpa using he
            have SM := Lib.hid (rsrep_any (w := wc) true KC.out (r0_ok wc wc.heap.size) (Nat.le_refl _) (Nat.le_refl _) (by rw [ZB.out, hz]; exact repB_refl _))
            go_wp2_with (first
                  | (show wpList _ _ _ (⟨some 73, .load 46 (.tmp 13), _, _, _, _⟩ :: _) _ _; refine wpList_load_mid (op := ⟨some 73, .load 46 (.tmp 13), _, _, _, _⟩) rfl 46 (.tmp 13) rfl (gc) 0 rfl (rc xb) _ (VB.out.range) Try.underlying46 rfl (r_size xb) ?_)
                  | (show wpList _ _ _ (⟨some 74, .build 46 #[], _, _, _, _⟩ :: _) _ _; refine wpList_exec (op := ⟨some 74, .build 46 #[], _, _, _, _⟩) rfl (.agg (rc r0).toArray) (by exact exec_r0 rfl rfl) ?_)
                  | (go_at_call 27; refine (SM.out).mono ?_; rintro e wd ⟨rfl, hb⟩; have PD := Lib.hid (PC.out.trans (hb.mono PC.out.size)); clear hb))
            go_ret
            exact ⟨rfl, UP.out _ PD.out⟩
      · have h1d : decide (0 < cut) = false := decide_eq_false h1
        go_upto_region 14 with fail
        have BP := Lib.hid (parser_any (w := w8) (c := c) (BZ.out _ P8.out) (SZ.out _ P8.out) hc (by omega))
        rw [HZE.out] at BP
        go_upto_region 15 with (first
              | (go_at_call 26; refine (BP.out).mono ?_; rintro e wb ⟨xb, rfl, zw, kw, ow, hb⟩; have ZB := Lib.hid zw; have KB := Lib.hid kw; have BB := Lib.hid hb; have vn := Lib.hid (vbox_new wb (rc r0) 46 wb.heap.size 75 rfl (rc_len _) (by omega)); have TH := Lib.hid (vthere vn.out (us := rc xb) (rc_len _)); have PB := Lib.hid (P8.out.trans (hb.mono P8.out.size)); clear zw kw ow hb)
              | (show wpList _ _ _ (⟨none, .store 46 (.tmp 13) (.tmp 69), _, _, _, _⟩ :: _) _ _; refine wpList_store_as (op := ⟨none, .store 46 (.tmp 13) (.tmp 69), _, _, _, _⟩) rfl 46 (.tmp 13) (.tmp 69) rfl (wb.heap.size) 0 (rc xb).toArray rfl rfl (TH.out) (r_sizeA xb) (r_oneA xb) ?_; intro wc hwc))
        obtain ⟨Vm, bm⟩ := vstored vn.out (rc_len xb) hwc (Nat.le_refl _) (below_one wb _)
        have VB := Lib.hid Vm
        have bm := Lib.hid bm
        have PC := Lib.hid (PB.out.trans (bm.out.mono PB.out.size))
        have KC := Lib.hid (KB.out.grow bm.out (Nat.le_refl _))
        obtain ⟨gc, hgc⟩ : ∃ g, wb.heap.size = g := ⟨_, rfl⟩
        rw [hgc] at VB
        rw [hgc]
        clear vn TH hwc Vm hgc KB
        clear BP
        rcases er_cases with he | ⟨hz, he⟩
        · subst he
          have PBK := parseR_back HIB.out (by rw [HL.out]; omega) HZE.out
          have PY := Lib.hid (printr_yes (w := wc) (x := xb) (F := bs) (L := n) KC.out (Nat.le_refl _) (by rw [ZB.out]; exact PBK.2.1) (by rw [ZB.out]; exact PBK.2.2.1) HL.out)
          clear PBK
          go_upto_region 18 with (first
                | (show wpList _ _ _ (⟨some 77, .load 46 (.tmp 13), _, _, _, _⟩ :: _) _ _; refine wpList_load_mid (op := ⟨some 77, .load 46 (.tmp 13), _, _, _, _⟩) rfl 46 (.tmp 13) rfl (gc) 0 rfl (rc xb) _ (VB.out.range) Try.underlying46 rfl (r_size xb) ?_)
                | (go_at_call 22; refine PY.out.mono ?_; rintro e wd ⟨D, d, rfl, ho, hd1, hd2, hb⟩; have OY := Lib.hid ho; have PD := Lib.hid (PC.out.trans (hb.mono PC.out.size)); clear hb ho))
          have S1 := Lib.hid (bs_of_own OY.out HIB.out)
          have S2 := Lib.hid (BZ.out _ PD.out)
          have EQ : eqB bs bs = true := eqB_self _
          go_wp2_with (go_at_call 29; refine (same_any d c S1.out S2.out (by unfold maxLen; omega) (by unfold maxLen; omega)).mono ?_; rintro e we ⟨rfl, me, rfl⟩)
          go_ret
          exact ⟨rfl, below_drewN (UP.out _ PD.out) _⟩
        · have heb : (er != 0) = true := by simpa using he
          have SM := Lib.hid (rsrep_any (w := wc) true KC.out (r0_ok wc wc.heap.size) (Nat.le_refl _) (Nat.le_refl _) (by rw [ZB.out, hz]; exact repB_refl _))
          go_wp2_with (first
                | (show wpList _ _ _ (⟨some 73, .load 46 (.tmp 13), _, _, _, _⟩ :: _) _ _; refine wpList_load_mid (op := ⟨some 73, .load 46 (.tmp 13), _, _, _, _⟩) rfl 46 (.tmp 13) rfl (gc) 0 rfl (rc xb) _ (VB.out.range) Try.underlying46 rfl (r_size xb) ?_)
                | (show wpList _ _ _ (⟨some 74, .build 46 #[], _, _, _, _⟩ :: _) _ _; refine wpList_exec (op := ⟨some 74, .build 46 #[], _, _, _, _⟩) rfl (.agg (rc r0).toArray) (by exact exec_r0 rfl rfl) ?_)
                | (go_at_call 27; refine (SM.out).mono ?_; rintro e wd ⟨rfl, hb⟩; have PD := Lib.hid (PC.out.trans (hb.mono PC.out.size)); clear hb))
          go_ret
          exact ⟨rfl, UP.out _ PD.out⟩
end Go.Proofs.Ytcgclaailhhbpaa
