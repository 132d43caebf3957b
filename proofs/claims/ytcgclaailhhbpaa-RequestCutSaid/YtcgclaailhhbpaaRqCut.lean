/- The statement RequestCut: the walk. -/
import Derived.Test.YtcgclaailhhbpaaRqN
namespace Go.Proofs.Ytcgclaailhhbpaa
open Go.ChangeShapes Go.WideShapes Go.ChangeAt Go.RowKit
set_option linter.unusedVariables false
set_option maxRecDepth 100000
set_option linter.unusedSimpArgs false
open Plain Sha Au Rp Rq
set_option maxHeartbeats 8000000 in
theorem rqcut_in (x : QX) (cut : Int) (A : Option Addr) (n c : Nat) (bs : List Int) (w : World) (h : QOk w w.heap.size x) (hM : x.tl ≤ 140737488355328) (hcut : -9223372036854775808 ≤ cut ∧ cut ≤ 9223372036854775807) (h0 : Bs w w.heap.size A n bs) (hn : n ≤ maxLen) :
    Calls Try.prog 8 #[.agg (qc x).toArray, .int .i64 cut, .slice A n c] w (fun e w' => e = .returned (.bool true) ∧ Below w.heap.size w w') := by
  obtain ⟨hcut1, hcut2⟩ := hcut
  obtain ⟨W1, hW1⟩ : ∃ W, W = w.alloc (.cells (qc x).toArray 26) := ⟨_, rfl⟩
  have b1 := Lib.hid (show Below w.heap.size w W1 by rw [hW1]; exact below_one _ _)
  obtain ⟨g, hg⟩ : ∃ g, w.heap.size = g := ⟨_, rfl⟩
  have HG := Lib.hid hg
  have V1 := Lib.hid (show VBox W1 g 12 (qc x) by rw [hW1]; exact vbox_new _ _ _ _ _ hg (qc_len x) (by omega))
  have HW1 := Lib.hid hW1
  have HH := Lib.hid h
  have UP : Hid (∀ W, Below W1.heap.size W1 W → Below w.heap.size w W) := Lib.hid (fun W hW => b1.out.trans (hW.mono b1.out.size))
  have VX : Hid (∀ W, Below W1.heap.size W1 W → VBox W g 12 (qc x)) := Lib.hid (fun W hW => V1.out.grow hW)
  have XQ : Hid (∀ W, Below W1.heap.size W1 W → QOk W w.heap.size x) := Lib.hid (fun W hW => HH.out.below (UP.out W hW) (Nat.le_refl _))
  have SZ : Hid (∀ W, Below W1.heap.size W1 W → w.heap.size ≤ W.heap.size) := Lib.hid (fun W hW => (UP.out W hW).size)
  have P1 := Lib.hid (Below.refl W1.heap.size W1)
  have HTL := Lib.hid h.tok.len
  clear hW1 hg
  have BZ : Hid (∀ W, Below W1.heap.size W1 W → Bs W w.heap.size A n bs) := Lib.hid (fun W hW => h0.below (UP.out W hW))
  have HL := Lib.hid h0.len
  have HIB := Lib.hid h0.isBytes
  obtain ⟨gq, hgq⟩ : ∃ q, greatQ x.z = q := ⟨_, rfl⟩
  have GM := Lib.hid (fun w => greatq_any (w := w) gq HTL.out hgq)
  cases gq with
  | true =>
    clear hgq h h0
    go_enter Try.func8, Try.ntmps8
    go_upto_region 1 with fail
    rw [← HW1.out, HG.out]
    go_wp2_with (first
          | (go_at_call 28; refine (rqawake_any W1).mono ?_; rintro e w2 ⟨rfl, hb⟩; have P2 := Lib.hid (P1.out.trans (hb.mono P1.out.size)); clear hb)
          | (show wpList _ _ _ (⟨some 15, .load 26 (.tmp 3), _, _, _, _⟩ :: _) _ _; refine wpList_load_mid (op := ⟨some 15, .load 26 (.tmp 3), _, _, _, _⟩) rfl 26 (.tmp 3) rfl (g) 0 rfl (qc x) _ ((VX.out _ P2.out).range) Try.underlying26 rfl (q_size x) ?_)
          | (go_at_call 11; refine (GM.out _).mono ?_; rintro e w3 ⟨rfl, hb⟩; have P3 := Lib.hid (P2.out.trans (hb.mono P2.out.size)); clear hb))
    go_ret
    exact ⟨rfl, UP.out _ P3.out⟩
  | false =>
    obtain ⟨n1, n2, n3, n4⟩ := greatQ_no hgq
    have n1 : x.tl ≤ 2000 := by rw [← HTL.out]; exact n1
    clear hgq
    by_cases hbig : 100 < n
    · have hi : (100 : Int) < (n : Int) := by omega
      clear h h0
      go_enter Try.func8, Try.ntmps8
      go_upto_region 1 with fail
      rw [← HW1.out, HG.out]
      go_wp2_with (first
            | (go_at_call 28; refine (rqawake_any W1).mono ?_; rintro e w2 ⟨rfl, hb⟩; have P2 := Lib.hid (P1.out.trans (hb.mono P1.out.size)); clear hb)
            | (show wpList _ _ _ (⟨some 15, .load 26 (.tmp 3), _, _, _, _⟩ :: _) _ _; refine wpList_load_mid (op := ⟨some 15, .load 26 (.tmp 3), _, _, _, _⟩) rfl 26 (.tmp 3) rfl (g) 0 rfl (qc x) _ ((VX.out _ P2.out).range) Try.underlying26 rfl (q_size x) ?_)
            | (go_at_call 11; refine (GM.out _).mono ?_; rintro e w3 ⟨rfl, hb⟩; have P3 := Lib.hid (P2.out.trans (hb.mono P2.out.size)); clear hb))
      go_ret
      exact ⟨rfl, UP.out _ P3.out⟩
    · have hi : ¬ (100 : Int) < (n : Int) := by omega
      obtain ⟨q, hq⟩ : ∃ q, mayB x.z = q := ⟨_, rfl⟩
      have HQ := Lib.hid hq
      clear hq h h0
      go_enter Try.func8, Try.ntmps8
      go_upto_region 1 with fail
      rw [← HW1.out, HG.out]
      go_upto_region 5 with (first
            | (go_at_call 28; refine (rqawake_any W1).mono ?_; rintro e w2 ⟨rfl, hb⟩; have P2 := Lib.hid (P1.out.trans (hb.mono P1.out.size)); clear hb)
            | (show wpList _ _ _ (⟨some 15, .load 26 (.tmp 3), _, _, _, _⟩ :: _) _ _; refine wpList_load_mid (op := ⟨some 15, .load 26 (.tmp 3), _, _, _, _⟩) rfl 26 (.tmp 3) rfl (g) 0 rfl (qc x) _ ((VX.out _ P2.out).range) Try.underlying26 rfl (q_size x) ?_)
            | (go_at_call 11; refine (GM.out _).mono ?_; rintro e w3 ⟨rfl, hb⟩; have P3 := Lib.hid (P2.out.trans (hb.mono P2.out.size)); clear hb))
      cases q with
      | false =>
        have PM := Lib.hid (print_no (w := w3) (XQ.out _ P3.out) (SZ.out _ P3.out) hM HQ.out)
        go_wp2_with (first
              | (show wpList _ _ _ (⟨some 23, .load 26 (.tmp 3), _, _, _, _⟩ :: _) _ _; refine wpList_load_mid (op := ⟨some 23, .load 26 (.tmp 3), _, _, _, _⟩) rfl 26 (.tmp 3) rfl (g) 0 rfl (qc x) _ ((VX.out _ P3.out).range) Try.underlying26 rfl (q_size x) ?_)
              | (go_at_call 14; refine (PM.out).mono ?_; rintro e w5 ⟨D5, d5, rfl, hb⟩; have P5 := Lib.hid (P3.out.trans (hb.mono P3.out.size)); clear hb))
        go_ret
        exact ⟨rfl, UP.out _ P5.out⟩
      | true =>
        obtain ⟨F, hF⟩ : ∃ F, reqF x.z = F := ⟨_, rfl⟩
        obtain ⟨L, hL⟩ : ∃ L, F.length = L := ⟨_, rfl⟩
        have HF := Lib.hid hF
        have HFL := Lib.hid hL
        have HFB : Hid (IsBytes F) := Lib.hid (by rw [← hF]; exact reqF_bytes HH.out)
        have hLs : L ≤ 474 := by rw [← hL, ← hF]; exact reqF_short HQ.out
        have XO := Lib.hid (HH.out.z HQ.out)
        have PM := Lib.hid (print_yes (w := w3) (XQ.out _ P3.out) (SZ.out _ P3.out) hM HQ.out HF.out HFL.out)
        clear hF hL
        go_upto_region 8 with (first
              | (show wpList _ _ _ (⟨some 23, .load 26 (.tmp 3), _, _, _, _⟩ :: _) _ _; refine wpList_load_mid (op := ⟨some 23, .load 26 (.tmp 3), _, _, _, _⟩) rfl 26 (.tmp 3) rfl (g) 0 rfl (qc x) _ ((VX.out _ P3.out).range) Try.underlying26 rfl (q_size x) ?_)
              | (go_at_call 14; refine (PM.out).mono ?_; rintro e w5 ⟨D5, d5, rfl, ho, hd1, hd2, hb⟩; have O5 := Lib.hid ho; have P5 := Lib.hid (P3.out.trans (hb.mono P3.out.size)); clear hb))
        by_cases h1 : 0 < cut
        · by_cases h2 : cut ≤ (L : Int)
          · obtain ⟨m, hm⟩ : ∃ m : Nat, (L : Int) - cut = (m : Int) := ⟨((L : Int) - cut).toNat, by omega⟩
            have hw : IntKind.i64.wrap ((L : Int) - cut) = (m : Int) := by rw [IntKind.wrap_i64]; omega
            have hmL : m < L := by omega
            have hmd : m ≤ d5 := by omega
            have CZ := Lib.hid ((bs_of_own O5.out HFB.out).cut (k := 0) (m := m) (by omega) D5 (fun b off e _ => by rw [e]; simp))
            rw [List.drop_zero] at CZ
            have PE : Hid ((parseQ (F.take m)).2 = 150) := Lib.hid (by rw [← HF.out]; exact parseQ_cut XO.out (reqF_bytes HH.out) (reqF_short HQ.out) (by rw [HF.out, HFL.out]; exact hmL))
            have RP := Lib.hid (parse_any (w := w5) (c := d5) CZ.out (Nat.le_refl _) (by omega))
            obtain ⟨zc, ec, hz⟩ : ∃ z er, parseQ (F.take m) = (z, er) := ⟨_, _, rfl⟩
            rw [hz] at RP PE
            obtain rfl : ec = 150 := PE.out
            have SL := cut_h D5 L d5 m (m : Int) rfl hmd
            clear hz PE CZ
            go_upto_region 10 with (first
                  | (go_at_call 19; refine (RP.out).mono ?_; rintro e w6 ⟨x7, rfl, zw, kw, ow, hb⟩; have Z6 := Lib.hid zw; have K6 := Lib.hid kw; have O6 := Lib.hid ow; have B6 := Lib.hid hb; have vn := Lib.hid (vbox_new w6 (qc q0) 26 w6.heap.size 12 rfl (qc_len _) (by omega)); have TH := Lib.hid (vthere vn.out (us := qc x7) rfl); have P6 := Lib.hid (P5.out.trans (hb.mono P5.out.size)); clear zw kw ow hb)
                  | (show wpList _ _ _ (⟨none, .store 26 (.tmp 9) (.tmp 45), _, _, _, _⟩ :: _) _ _; refine wpList_store_as (op := ⟨none, .store 26 (.tmp 9) (.tmp 45), _, _, _, _⟩) rfl 26 (.tmp 9) (.tmp 45) rfl (w6.heap.size) 0 (qc x7).toArray rfl rfl (TH.out) (q_sizeA x7) (q_oneA x7) ?_; intro w7 hw7))
            obtain ⟨Vm, bm⟩ := vstored vn.out (qc_len x7) hw7 (Nat.le_refl _) (below_one w6 _)
            have V7 := Lib.hid Vm
            have bm := Lib.hid bm
            have P7 := Lib.hid (P6.out.trans (bm.out.mono P6.out.size))
            have K7 := Lib.hid (K6.out.grow bm.out (Nat.le_refl _))
            obtain ⟨g7, hg7⟩ : ∃ g, w6.heap.size = g := ⟨_, rfl⟩
            rw [hg7] at V7
            rw [hg7]
            clear vn TH hw7 Vm hg7 K6
            have Q7 := Lib.hid (B6.out.trans (bm.out.mono B6.out.size))
            clear V7 K7 SL bm B6
            go_upto_region 12 with fail
            have SF := Lib.hid (bs_of_own (own_below O5.out Q7.out (Nat.le_refl _)) HFB.out)
            have CC := Lib.hid (cat2_any (w := w7) d5 c 22 SF.out (BZ.out _ P7.out) (Nat.le_refl _) (SZ.out _ P7.out) (by omega) 2 w7.heap.size rfl)
            have PA := Lib.hid (P7.out.trans ((below_one w7 (.cells #[.slice D5 L d5, .slice A n c] 22)).mono P7.out.size))
            have LFB : Hid ((F ++ bs).length = L + n) := Lib.hid (by rw [List.length_append, HFL.out, HL.out])
            have HFBB := Lib.hid (HFB.out.app HIB.out)
            obtain ⟨z2, e2, hz2⟩ : ∃ z e, parseQ (F ++ bs) = (z, e) := ⟨_, _, rfl⟩
            have RPW : Hid (∀ (W : World) (B : Nat) (A : Option Addr) (c : Nat), Bs W B A (L + n) (F ++ bs) → B ≤ W.heap.size → Calls Try.prog 19 #[.slice A (L + n) c] W (ReadsQ W z2 e2)) := Lib.hid (fun W B A c hb hB => by
              have := parse_any (w := W) (c := c) hb hB (by omega)
              rw [hz2] at this
              exact this)
            clear SF
            by_cases hn0 : n = 0
            · have h0b : bs = [] := List.eq_nil_of_length_eq_zero (by rw [HL.out]; exact hn0)
              have he2 : e2 = 0 := by
                have e1 := parseQ_form XO.out HQ.out
                rw [HF.out] at e1
                rw [h0b, List.append_nil, e1] at hz2
                injection hz2 with _ h; exact h.symm
              subst he2
              have HN0 := Lib.hid hn0
              clear hz2 h0b hn0
              go_upto_region 13 with (first
                    | (go_at_call 30; refine CC.out.mono ?_; intro e w8 hm; obtain ⟨D8, d8, rfl, o8, hb, _, _⟩ := hm.n LFB.out; have P8 := Lib.hid (PA.out.trans (hb.mono PA.out.size)); have H8 := Lib.hid (Made.bs o8 HFBB.out); clear hm o8 hb)
                    | (go_at_call 19; refine (RPW.out _ _ _ _ H8.out (Nat.le_refl _)).mono ?_; rintro e w9 ⟨x9, rfl, zw, kw, ow, hb⟩; have P9 := Lib.hid (P8.out.trans (hb.mono P8.out.size)); have vn := Lib.hid (vbox_new w9 (qc q0) 26 w9.heap.size 12 rfl (qc_len _) (by omega)); have TH := Lib.hid (vthere vn.out (us := qc x9) rfl); clear zw kw ow hb)
                    | (show wpList _ _ _ (⟨none, .store 26 (.tmp 11) (.tmp 55), _, _, _, _⟩ :: _) _ _; refine wpList_store_as (op := ⟨none, .store 26 (.tmp 11) (.tmp 55), _, _, _, _⟩) rfl 26 (.tmp 11) (.tmp 55) rfl (w9.heap.size) 0 (qc x9).toArray rfl rfl (TH.out) (q_sizeA x9) (q_oneA x9) ?_; intro wa hwa))
              obtain ⟨_, bm⟩ := vstored vn.out (qc_len x9) hwa (Nat.le_refl _) (below_one w9 _)
              have PB := Lib.hid (P9.out.trans (bm.mono P9.out.size))
              clear hwa bm vn TH
              have hn1 : ((n : Int) == 0) = true := by simp [HN0.out]
              have hn2 : (n : Int) = 0 := by have := HN0.out; omega
              go_wp2
              go_ret
              exact ⟨rfl, UP.out _ PB.out⟩
            · have h0b : bs ≠ [] := fun e => hn0 (by rw [← HL.out, e]; rfl)
              have he2 : e2 = if 1024 < L + n then 3 else 150 := by
                have e1 := parseQ_behind XO.out h0b
                rw [HF.out, LFB.out] at e1
                rw [e1] at hz2
                injection hz2 with _ h; exact h.symm
              clear hz2 h0b
              go_upto_region 13 with (first
                    | (go_at_call 30; refine CC.out.mono ?_; intro e w8 hm; obtain ⟨D8, d8, rfl, o8, hb, _, _⟩ := hm.n LFB.out; have P8 := Lib.hid (PA.out.trans (hb.mono PA.out.size)); have H8 := Lib.hid (Made.bs o8 HFBB.out); clear hm o8 hb)
                    | (go_at_call 19; refine (RPW.out _ _ _ _ H8.out (Nat.le_refl _)).mono ?_; rintro e w9 ⟨x9, rfl, zw, kw, ow, hb⟩; have P9 := Lib.hid (P8.out.trans (hb.mono P8.out.size)); have vn := Lib.hid (vbox_new w9 (qc q0) 26 w9.heap.size 12 rfl (qc_len _) (by omega)); have TH := Lib.hid (vthere vn.out (us := qc x9) rfl); clear zw kw ow hb)
                    | (show wpList _ _ _ (⟨none, .store 26 (.tmp 11) (.tmp 55), _, _, _, _⟩ :: _) _ _; refine wpList_store_as (op := ⟨none, .store 26 (.tmp 11) (.tmp 55), _, _, _, _⟩) rfl 26 (.tmp 11) (.tmp 55) rfl (w9.heap.size) 0 (qc x9).toArray rfl rfl (TH.out) (q_sizeA x9) (q_oneA x9) ?_; intro wa hwa))
              obtain ⟨_, bm⟩ := vstored vn.out (qc_len x9) hwa (Nat.le_refl _) (below_one w9 _)
              have PB := Lib.hid (P9.out.trans (bm.mono P9.out.size))
              clear hwa bm vn TH
              have hn1 : ((n : Int) == 0) = false := by simpa using hn0
              have hn2 : ¬ (n : Int) = 0 := by omega
              by_cases hbb : 1024 < L + n
              · rw [if_pos hbb] at he2
                subst he2
                have hw2 : IntKind.i64.wrap ((L : Int) + (n : Int)) = (L : Int) + (n : Int) := by rw [IntKind.wrap_i64]; omega
                have hd2 : decide ((1024 : Int) < (L : Int) + (n : Int)) = true := decide_eq_true (by omega)
                clear hn0 hbb
                go_wp2
                go_ret
                exact ⟨rfl, UP.out _ PB.out⟩
              · rw [if_neg hbb] at he2
                subst he2
                clear hn0 hbb
                go_wp2
                go_ret
                exact ⟨rfl, UP.out _ PB.out⟩
          · have h2d : decide (cut ≤ (L : Int)) = false := decide_eq_false h2
            have Q5 := Lib.hid (Below.refl w5.heap.size w5)
            go_upto_region 12 with fail
            have SF := Lib.hid (bs_of_own (own_below O5.out Q5.out (Nat.le_refl _)) HFB.out)
            have CC := Lib.hid (cat2_any (w := w5) d5 c 22 SF.out (BZ.out _ P5.out) (Nat.le_refl _) (SZ.out _ P5.out) (by omega) 2 w5.heap.size rfl)
            have PA := Lib.hid (P5.out.trans ((below_one w5 (.cells #[.slice D5 L d5, .slice A n c] 22)).mono P5.out.size))
            have LFB : Hid ((F ++ bs).length = L + n) := Lib.hid (by rw [List.length_append, HFL.out, HL.out])
            have HFBB := Lib.hid (HFB.out.app HIB.out)
            obtain ⟨z2, e2, hz2⟩ : ∃ z e, parseQ (F ++ bs) = (z, e) := ⟨_, _, rfl⟩
            have RPW : Hid (∀ (W : World) (B : Nat) (A : Option Addr) (c : Nat), Bs W B A (L + n) (F ++ bs) → B ≤ W.heap.size → Calls Try.prog 19 #[.slice A (L + n) c] W (ReadsQ W z2 e2)) := Lib.hid (fun W B A c hb hB => by
              have := parse_any (w := W) (c := c) hb hB (by omega)
              rw [hz2] at this
              exact this)
            clear SF
            by_cases hn0 : n = 0
            · have h0b : bs = [] := List.eq_nil_of_length_eq_zero (by rw [HL.out]; exact hn0)
              have he2 : e2 = 0 := by
                have e1 := parseQ_form XO.out HQ.out
                rw [HF.out] at e1
                rw [h0b, List.append_nil, e1] at hz2
                injection hz2 with _ h; exact h.symm
              subst he2
              have HN0 := Lib.hid hn0
              clear hz2 h0b hn0
              go_upto_region 13 with (first
                    | (go_at_call 30; refine CC.out.mono ?_; intro e w8 hm; obtain ⟨D8, d8, rfl, o8, hb, _, _⟩ := hm.n LFB.out; have P8 := Lib.hid (PA.out.trans (hb.mono PA.out.size)); have H8 := Lib.hid (Made.bs o8 HFBB.out); clear hm o8 hb)
                    | (go_at_call 19; refine (RPW.out _ _ _ _ H8.out (Nat.le_refl _)).mono ?_; rintro e w9 ⟨x9, rfl, zw, kw, ow, hb⟩; have P9 := Lib.hid (P8.out.trans (hb.mono P8.out.size)); have vn := Lib.hid (vbox_new w9 (qc q0) 26 w9.heap.size 12 rfl (qc_len _) (by omega)); have TH := Lib.hid (vthere vn.out (us := qc x9) rfl); clear zw kw ow hb)
                    | (show wpList _ _ _ (⟨none, .store 26 (.tmp 11) (.tmp 55), _, _, _, _⟩ :: _) _ _; refine wpList_store_as (op := ⟨none, .store 26 (.tmp 11) (.tmp 55), _, _, _, _⟩) rfl 26 (.tmp 11) (.tmp 55) rfl (w9.heap.size) 0 (qc x9).toArray rfl rfl (TH.out) (q_sizeA x9) (q_oneA x9) ?_; intro wa hwa))
              obtain ⟨_, bm⟩ := vstored vn.out (qc_len x9) hwa (Nat.le_refl _) (below_one w9 _)
              have PB := Lib.hid (P9.out.trans (bm.mono P9.out.size))
              clear hwa bm vn TH
              have hn1 : ((n : Int) == 0) = true := by simp [HN0.out]
              have hn2 : (n : Int) = 0 := by have := HN0.out; omega
              go_wp2
              go_ret
              exact ⟨rfl, UP.out _ PB.out⟩
            · have h0b : bs ≠ [] := fun e => hn0 (by rw [← HL.out, e]; rfl)
              have he2 : e2 = if 1024 < L + n then 3 else 150 := by
                have e1 := parseQ_behind XO.out h0b
                rw [HF.out, LFB.out] at e1
                rw [e1] at hz2
                injection hz2 with _ h; exact h.symm
              clear hz2 h0b
              go_upto_region 13 with (first
                    | (go_at_call 30; refine CC.out.mono ?_; intro e w8 hm; obtain ⟨D8, d8, rfl, o8, hb, _, _⟩ := hm.n LFB.out; have P8 := Lib.hid (PA.out.trans (hb.mono PA.out.size)); have H8 := Lib.hid (Made.bs o8 HFBB.out); clear hm o8 hb)
                    | (go_at_call 19; refine (RPW.out _ _ _ _ H8.out (Nat.le_refl _)).mono ?_; rintro e w9 ⟨x9, rfl, zw, kw, ow, hb⟩; have P9 := Lib.hid (P8.out.trans (hb.mono P8.out.size)); have vn := Lib.hid (vbox_new w9 (qc q0) 26 w9.heap.size 12 rfl (qc_len _) (by omega)); have TH := Lib.hid (vthere vn.out (us := qc x9) rfl); clear zw kw ow hb)
                    | (show wpList _ _ _ (⟨none, .store 26 (.tmp 11) (.tmp 55), _, _, _, _⟩ :: _) _ _; refine wpList_store_as (op := ⟨none, .store 26 (.tmp 11) (.tmp 55), _, _, _, _⟩) rfl 26 (.tmp 11) (.tmp 55) rfl (w9.heap.size) 0 (qc x9).toArray rfl rfl (TH.out) (q_sizeA x9) (q_oneA x9) ?_; intro wa hwa))
              obtain ⟨_, bm⟩ := vstored vn.out (qc_len x9) hwa (Nat.le_refl _) (below_one w9 _)
              have PB := Lib.hid (P9.out.trans (bm.mono P9.out.size))
              clear hwa bm vn TH
              have hn1 : ((n : Int) == 0) = false := by simpa using hn0
              have hn2 : ¬ (n : Int) = 0 := by omega
              by_cases hbb : 1024 < L + n
              · rw [if_pos hbb] at he2
                subst he2
                have hw2 : IntKind.i64.wrap ((L : Int) + (n : Int)) = (L : Int) + (n : Int) := by rw [IntKind.wrap_i64]; omega
                have hd2 : decide ((1024 : Int) < (L : Int) + (n : Int)) = true := decide_eq_true (by omega)
                clear hn0 hbb
                go_wp2
                go_ret
                exact ⟨rfl, UP.out _ PB.out⟩
              · rw [if_neg hbb] at he2
                subst he2
                clear hn0 hbb
                go_wp2
                go_ret
                exact ⟨rfl, UP.out _ PB.out⟩
        · have Q5 := Lib.hid (Below.refl w5.heap.size w5)
          have h1d : decide (0 < cut) = false := decide_eq_false h1
          go_upto_region 12 with fail
          have SF := Lib.hid (bs_of_own (own_below O5.out Q5.out (Nat.le_refl _)) HFB.out)
          have CC := Lib.hid (cat2_any (w := w5) d5 c 22 SF.out (BZ.out _ P5.out) (Nat.le_refl _) (SZ.out _ P5.out) (by omega) 2 w5.heap.size rfl)
          have PA := Lib.hid (P5.out.trans ((below_one w5 (.cells #[.slice D5 L d5, .slice A n c] 22)).mono P5.out.size))
          have LFB : Hid ((F ++ bs).length = L + n) := Lib.hid (by rw [List.length_append, HFL.out, HL.out])
          have HFBB := Lib.hid (HFB.out.app HIB.out)
          obtain ⟨z2, e2, hz2⟩ : ∃ z e, parseQ (F ++ bs) = (z, e) := ⟨_, _, rfl⟩
          have RPW : Hid (∀ (W : World) (B : Nat) (A : Option Addr) (c : Nat), Bs W B A (L + n) (F ++ bs) → B ≤ W.heap.size → Calls Try.prog 19 #[.slice A (L + n) c] W (ReadsQ W z2 e2)) := Lib.hid (fun W B A c hb hB => by
            have := parse_any (w := W) (c := c) hb hB (by omega)
            rw [hz2] at this
            exact this)
          clear SF
          by_cases hn0 : n = 0
          · have h0b : bs = [] := List.eq_nil_of_length_eq_zero (by rw [HL.out]; exact hn0)
            have he2 : e2 = 0 := by
              have e1 := parseQ_form XO.out HQ.out
              rw [HF.out] at e1
              rw [h0b, List.append_nil, e1] at hz2
              injection hz2 with _ h; exact h.symm
            subst he2
            have HN0 := Lib.hid hn0
            clear hz2 h0b hn0
            go_upto_region 13 with (first
                  | (go_at_call 30; refine CC.out.mono ?_; intro e w8 hm; obtain ⟨D8, d8, rfl, o8, hb, _, _⟩ := hm.n LFB.out; have P8 := Lib.hid (PA.out.trans (hb.mono PA.out.size)); have H8 := Lib.hid (Made.bs o8 HFBB.out); clear hm o8 hb)
                  | (go_at_call 19; refine (RPW.out _ _ _ _ H8.out (Nat.le_refl _)).mono ?_; rintro e w9 ⟨x9, rfl, zw, kw, ow, hb⟩; have P9 := Lib.hid (P8.out.trans (hb.mono P8.out.size)); have vn := Lib.hid (vbox_new w9 (qc q0) 26 w9.heap.size 12 rfl (qc_len _) (by omega)); have TH := Lib.hid (vthere vn.out (us := qc x9) rfl); clear zw kw ow hb)
                  | (show wpList _ _ _ (⟨none, .store 26 (.tmp 11) (.tmp 55), _, _, _, _⟩ :: _) _ _; refine wpList_store_as (op := ⟨none, .store 26 (.tmp 11) (.tmp 55), _, _, _, _⟩) rfl 26 (.tmp 11) (.tmp 55) rfl (w9.heap.size) 0 (qc x9).toArray rfl rfl (TH.out) (q_sizeA x9) (q_oneA x9) ?_; intro wa hwa))
            obtain ⟨_, bm⟩ := vstored vn.out (qc_len x9) hwa (Nat.le_refl _) (below_one w9 _)
            have PB := Lib.hid (P9.out.trans (bm.mono P9.out.size))
            clear hwa bm vn TH
            have hn1 : ((n : Int) == 0) = true := by simp [HN0.out]
            have hn2 : (n : Int) = 0 := by have := HN0.out; omega
            go_wp2
            go_ret
            exact ⟨rfl, UP.out _ PB.out⟩
          · have h0b : bs ≠ [] := fun e => hn0 (by rw [← HL.out, e]; rfl)
            have he2 : e2 = if 1024 < L + n then 3 else 150 := by
              have e1 := parseQ_behind XO.out h0b
              rw [HF.out, LFB.out] at e1
              rw [e1] at hz2
              injection hz2 with _ h; exact h.symm
            clear hz2 h0b
            go_upto_region 13 with (first
                  | (go_at_call 30; refine CC.out.mono ?_; intro e w8 hm; obtain ⟨D8, d8, rfl, o8, hb, _, _⟩ := hm.n LFB.out; have P8 := Lib.hid (PA.out.trans (hb.mono PA.out.size)); have H8 := Lib.hid (Made.bs o8 HFBB.out); clear hm o8 hb)
                  | (go_at_call 19; refine (RPW.out _ _ _ _ H8.out (Nat.le_refl _)).mono ?_; rintro e w9 ⟨x9, rfl, zw, kw, ow, hb⟩; have P9 := Lib.hid (P8.out.trans (hb.mono P8.out.size)); have vn := Lib.hid (vbox_new w9 (qc q0) 26 w9.heap.size 12 rfl (qc_len _) (by omega)); have TH := Lib.hid (vthere vn.out (us := qc x9) rfl); clear zw kw ow hb)
                  | (show wpList _ _ _ (⟨none, .store 26 (.tmp 11) (.tmp 55), _, _, _, _⟩ :: _) _ _; refine wpList_store_as (op := ⟨none, .store 26 (.tmp 11) (.tmp 55), _, _, _, _⟩) rfl 26 (.tmp 11) (.tmp 55) rfl (w9.heap.size) 0 (qc x9).toArray rfl rfl (TH.out) (q_sizeA x9) (q_oneA x9) ?_; intro wa hwa))
            obtain ⟨_, bm⟩ := vstored vn.out (qc_len x9) hwa (Nat.le_refl _) (below_one w9 _)
            have PB := Lib.hid (P9.out.trans (bm.mono P9.out.size))
            clear hwa bm vn TH
            have hn1 : ((n : Int) == 0) = false := by simpa using hn0
            have hn2 : ¬ (n : Int) = 0 := by omega
            by_cases hbb : 1024 < L + n
            · rw [if_pos hbb] at he2
              subst he2
              have hw2 : IntKind.i64.wrap ((L : Int) + (n : Int)) = (L : Int) + (n : Int) := by rw [IntKind.wrap_i64]; omega
              have hd2 : decide ((1024 : Int) < (L : Int) + (n : Int)) = true := decide_eq_true (by omega)
              clear hn0 hbb
              go_wp2
              go_ret
              exact ⟨rfl, UP.out _ PB.out⟩
            · rw [if_neg hbb] at he2
              subst he2
              clear hn0 hbb
              go_wp2
              go_ret
              exact ⟨rfl, UP.out _ PB.out⟩
end Go.Proofs.Ytcgclaailhhbpaa
