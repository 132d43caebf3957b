/- MessagePrint. Printed by gen_msl3.py. -/
import Derived.Test.YtfihiandifnkpaaMsFm
import Derived.Test.YtfihiandifnkpaaMsV
namespace Go.Proofs.Ytfihiandifnkpaa
open Go.ChangeShapes Go.WideShapes Go.ChangeAt Go.RowKit
set_option linter.unusedVariables false
set_option maxRecDepth 100000
set_option linter.unusedSimpArgs false
open Plain Sha Ms
theorem isl_n {x : Value} {w : World} {base N : Nat} {zs : List Int} (h : IsList x w base zs) (hn : zs.length = N) : ∃ A c, x = .slice A N c ∧ w.ownsRow base 5 1 (.slice A N c) N (vals zs) ∧ N ≤ c ∧ c ≤ maxLen := by
  subst hn
  obtain ⟨A, c, rfl, ho, h1, h2⟩ := h
  exact ⟨A, c, rfl, ho, h1, h2⟩
set_option maxHeartbeats 16000000 in
theorem msprint_in (x : MX) (w : World) (h : MXOk w w.heap.size x) (hM : x.n ≤ 140737488355328) (hE : ∀ e, e ∈ x.es → e.n ≤ 140737488355328) : Calls Try.prog 3 #[.agg (mc x).toArray] w (fun e w' => e = .returned (.bool true) ∧ Below w.heap.size w w') := by
  obtain ⟨W1, hW1⟩ : ∃ W, W = w.alloc (.cells (mc x).toArray 28) := ⟨_, rfl⟩
  have b1 := Lib.hid (show Below w.heap.size w W1 by rw [hW1]; exact below_one _ _)
  obtain ⟨g, hg⟩ : ∃ g, w.heap.size = g := ⟨_, rfl⟩
  have Hg := Lib.hid hg
  have V1 := Lib.hid (show VBox W1 g 12 (mc x) by rw [hW1]; exact vbox_new _ _ _ _ _ hg rfl (by omega))
  have z1 := Lib.hid (show W1.heap.size = g + 1 by rw [hW1]; simp [hg])
  have HW1 := Lib.hid hW1
  clear hW1 hg
  have HXO := Lib.hid (fun (W : World) (hW : Below W1.heap.size W1 W) => (⟨(h.below b1.out (Nat.le_refl _)).below hW b1.out.size, Nat.le_trans b1.out.size hW.size⟩ : MXOk W w.heap.size x ∧ w.heap.size ≤ W.heap.size))
  have GR := Lib.hid (great_anyM (HXO.out W1 (Below.refl _ _)).1 (HXO.out W1 (Below.refl _ _)).2)
  clear h hM hE
  go_enter Try.func3, Try.ntmps3
  go_upto_region 1 with fail
  rw [← HW1.out, Hg.out]
  go_upto_region 3 with (first
        | (with_reducible show wpList _ _ _ (⟨some 8, .load 28 (.tmp 1), _, _, _, _⟩ :: _) _ _; refine wpList_load_mid (op := ⟨some 8, .load 28 (.tmp 1), _, _, _, _⟩) rfl 28 (.tmp 1) rfl (g) (0) rfl (mc x) _ (V1.out.range) Try.underlying28 rfl (m_size _) ?_)
        | (go_at_call 10; refine GR.out.mono ?_; rintro e w2 ⟨q, rfl, hb⟩; have B2 := Lib.hid hb; clear hb; cases q))
  · have V2 := Lib.hid (V1.out.grow B2.out)
    obtain ⟨q, hq⟩ : ∃ q, mayM x.z = q := ⟨_, rfl⟩
    have HQ := Lib.hid hq
    have MM := Lib.hid (rmay_any q (HXO.out _ B2.out).1 (HXO.out _ B2.out).2 hq)
    have FB := Lib.hid (fun (e : mayM x.z = true) => formM_isB (MXOk.z (HXO.out _ B2.out).1 e))
    have FS := Lib.hid (fun (e : mayM x.z = true) => formM_short e)
    clear hq
    go_upto_region 4 with (first
        | (with_reducible show wpList _ _ _ (⟨some 10, .load 28 (.tmp 1), _, _, _, _⟩ :: _) _ _; refine wpList_load_mid (op := ⟨some 10, .load 28 (.tmp 1), _, _, _, _⟩) rfl 28 (.tmp 1) rfl (g) (0) rfl (mc x) _ (V2.out.range) Try.underlying28 rfl (m_size _) ?_)
        | (go_at_call 11; refine (MM.out).mono ?_; rintro e w3 ⟨rfl, hb⟩; have B3 := Lib.hid (B2.out.trans (hb.mono B2.out.size)); clear hb))
    obtain ⟨F, hF⟩ : ∃ F, formM x.z = F := ⟨_, rfl⟩
    obtain ⟨L, hL⟩ : ∃ L, F.length = L := ⟨_, rfl⟩
    have HF := Lib.hid hF
    have HL := Lib.hid hL
    rw [hF] at FB FS
    clear hF hL MM V2
    go_wp2
    go_loopw [4] (fun i wr => ∃ k : Nat, k ≤ 2 ∧ i = .int .i64 k ∧ Hid (Below W1.heap.size W1 wr)) (fun i _ => 2 - (intOf i).toNat)
    case atStart => exact ⟨0, by omega, rfl, B3⟩
    case round =>
      obtain ⟨k, hk, rfl, HB⟩ := hrel
      have BWr := Lib.hid (b1.out.trans (HB.out.mono b1.out.size))
      have XR := Lib.hid (HXO.out _ HB.out)
      have VR := Lib.hid (V1.out.grow HB.out)
      have PM := Lib.hid (print_anyM XR.out.1 XR.out.2)
      rw [HQ.out, HF.out] at PM
      by_cases hlt : k < 2
      · have hki : (k : Int) < 2 := by omega
        cases q with
        | false =>
          go_upto_region 8 with (first
        | (with_reducible show wpList _ _ _ (⟨some 17, .load 28 (.tmp 1), _, _, _, _⟩ :: _) _ _; refine wpList_load_mid (op := ⟨some 17, .load 28 (.tmp 1), _, _, _, _⟩) rfl 28 (.tmp 1) rfl (g) (0) rfl (mc x) _ (VR.out.range) Try.underlying28 rfl (m_size _) ?_)
        | (go_at_call 12; refine PM.out.mono ?_; rintro e w5 ⟨u, he, hu, hb⟩; obtain ⟨D5, d5, rfl, _, _, _⟩ := isl_n (zs := []) (N := 0) hu rfl; have he : e = .returned (.tuple #[.slice D5 0 d5, .int .i64 2]) := he; subst he; have B5 := Lib.hid (HB.out.trans (hb.mono HB.out.size)); have V5 := Lib.hid (VR.out.grow hb); clear hu hb))
          have MY := Lib.hid (may_any false (HXO.out _ B5.out).1 (HXO.out _ B5.out).2 HQ.out)
          go_wp2_with (first
        | (with_reducible show wpList _ _ _ (⟨some 21, .load 28 (.tmp 1), _, _, _, _⟩ :: _) _ _; refine wpList_load_mid (op := ⟨some 21, .load 28 (.tmp 1), _, _, _, _⟩) rfl 28 (.tmp 1) rfl (g) (0) rfl (mc x) _ (V5.out.range) Try.underlying28 rfl (m_size _) ?_)
        | (go_at_call 13; refine (MY.out).mono ?_; rintro e w6 ⟨rfl, hb⟩; have B6 := Lib.hid (B5.out.trans (hb.mono B5.out.size)); clear hb))
          go_ret
          exact ⟨rfl, b1.out.trans (B6.out.mono b1.out.size)⟩
        | true =>
          have LS : L ≤ 20100 := by have := FS.out HQ.out; rw [HL.out] at this; exact this
          have HFB := Lib.hid (FB.out HQ.out)
          go_upto_region 8 with (first
        | (with_reducible show wpList _ _ _ (⟨some 17, .load 28 (.tmp 1), _, _, _, _⟩ :: _) _ _; refine wpList_load_mid (op := ⟨some 17, .load 28 (.tmp 1), _, _, _, _⟩) rfl 28 (.tmp 1) rfl (g) (0) rfl (mc x) _ (VR.out.range) Try.underlying28 rfl (m_size _) ?_)
        | (go_at_call 12; refine PM.out.mono ?_; rintro e w5 ⟨u, he, hu, hb⟩; obtain ⟨D5, d5, rfl, ho, _, _⟩ := isl_n (zs := F) (N := L) hu HL.out; have he : e = .returned (.tuple #[.slice D5 L d5, .int .i64 0]) := he; subst he; have B5r := Lib.hid hb; have B5 := Lib.hid (HB.out.trans (hb.mono HB.out.size)); have V5 := Lib.hid (VR.out.grow hb); have O5 := Lib.hid ho; clear hu hb ho))
          have MY := Lib.hid (may_any true (HXO.out _ B5.out).1 (HXO.out _ B5.out).2 HQ.out)
          go_upto_region 12 with (first
        | (with_reducible show wpList _ _ _ (⟨some 21, .load 28 (.tmp 1), _, _, _, _⟩ :: _) _ _; refine wpList_load_mid (op := ⟨some 21, .load 28 (.tmp 1), _, _, _, _⟩) rfl 28 (.tmp 1) rfl (g) (0) rfl (mc x) _ (V5.out.range) Try.underlying28 rfl (m_size _) ?_)
        | (go_at_call 13; refine (MY.out).mono ?_; rintro e w6 ⟨rfl, hb⟩; have B6r := Lib.hid (B5r.out.trans (hb.mono B5r.out.size)); have B6 := Lib.hid (B5.out.trans (hb.mono B5.out.size)); have V6 := Lib.hid (V5.out.grow hb); have O6 := Lib.hid (own_below O5.out hb (Nat.le_refl _)); clear hb))
          have FM := Lib.hid (rform_any (HXO.out _ B6.out).1 (HXO.out _ B6.out).2 HQ.out)
          rw [HF.out] at FM
          have EF : eqB F F = true := eqB_refl _
          go_upto_region 14 with (first
        | (with_reducible show wpList _ _ _ (⟨some 38, .load 28 (.tmp 1), _, _, _, _⟩ :: _) _ _; refine wpList_load_guardL (op := ⟨some 38, .load 28 (.tmp 1), _, _, _, some (2, false)⟩) (by first | rfl | go_simp) 28 (.tmp 1) rfl (g) (0) rfl (mc x) _ (V6.out.range) Try.underlying28 rfl (m_size _) ?_)
        | (go_at_call 15; refine FM.out.mono ?_; intro e w8 hm; obtain ⟨D8, d8, rfl, o8, b8, _, _⟩ := hm.n HL.out; have B8r := Lib.hid (B6r.out.trans (b8.mono B6r.out.size)); have H8 := Lib.hid (Made.bs o8 HFB.out); have O8 := Lib.hid (own_below O6.out b8 (Nat.le_refl _)); have H6 := Lib.hid (bs_of_own O8.out HFB.out); clear hm o8 b8)
        | (go_at_call 14; refine (refsame_any d5 d8 H6.out H8.out (by unfold maxLen; omega) (by unfold maxLen; omega)).mono ?_; rintro e w9 ⟨rfl, m9, rfl⟩))
          obtain ⟨wb, hwb⟩ : ∃ W, W = w8.drewN m9 := ⟨_, rfl⟩
          have BWF := Lib.hid (show Below wr.heap.size wr wb by rw [hwb]; exact below_drewN B8r.out m9)
          have OO : Hid (Own wb wr.heap.size D5 L d5) := Lib.hid (by rw [hwb]; exact Own.of (own_below O8.out (below_drewN (Below.refl _ _) m9) (Nat.le_refl _)) HFB.out)
          rw [← hwb]
          have W6R := Lib.hid (HB.out.trans (BWF.out.mono HB.out.size))
          have sr2 := Lib.hid HB.out.size
          obtain ⟨s0, hs0⟩ : ∃ s, wr.heap.size = s := ⟨_, rfl⟩
          rw [hs0] at OO sr2
          clear hwb PM MY FM EF H8 H6 O8 O6 O5 V6 V5 B6 B5 B6r B5r B8r BWF VR XR BWr hs0
          go_wp2
          go_loopw [7] (fun i wq => ∃ j : Nat, j ≤ L ∧ i = .int .i64 j ∧ Hid (Own wq s0 D5 L d5) ∧ Hid (Below W1.heap.size W1 wq)) (fun i _ => L - (intOf i).toNat)
          case atStart => exact ⟨0, by omega, rfl, OO, W6R⟩
          case round =>
            obtain ⟨j, hj, rfl, OJ, BJ⟩ := hrel
            by_cases hlj : j < L
            · obtain ⟨gb, u, rfl, hg1, hg2, hu0, hu1, hcc, hff, HSS⟩ := OJ.out.at_ hlj
              have hji : (j : Int) < (L : Int) := by omega
              have HZ : Hid (∀ z : Int, 0 ≤ z → z < 256 → Own (wr.setCell ⟨gb, j, none⟩ (.int .u8 z)) s0 (some ⟨gb, 0, none⟩) L d5 ∧ Below W1.heap.size W1 (wr.setCell ⟨gb, j, none⟩ (.int .u8 z))) := Lib.hid (fun z h0 h1 => ⟨HSS.out z h0 h1, BJ.out.setCell (p := ⟨gb, j, none⟩) (Nat.le_trans sr2.out hg1) _⟩)
              clear HSS hg1 hg2
              go_wp2
              go_roundw
              case rel => exact ⟨j + 1, by omega, by go_num, Lib.hid (HZ.out _ (by omega) (by omega)).1, Lib.hid (HZ.out _ (by omega) (by omega)).2⟩
              case measure => simp [intOf]; omega
            · have hji : ¬ (j : Int) < (L : Int) := by omega
              clear hj hlj OO
              go_wp2
              go_roundw
              case rel => exact ⟨k + 1, by omega, by go_num, BJ⟩
              case measure => simp [intOf]; omega
      · have hki : ¬ (k : Int) < 2 := by omega
        go_wp2
        go_ret
        exact ⟨rfl, BWr.out⟩
  · go_ret
    exact ⟨rfl, b1.out.trans (B2.out.mono b1.out.size)⟩
end Go.Proofs.Ytfihiandifnkpaa
