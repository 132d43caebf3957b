/- The statement RequestParse: the walk. -/
import Derived.Test.YtcgclaailhhbpaaRqO
import Derived.Test.YtcgclaailhhbpaaRqJ
import Derived.Test.YtcgclaailhhbpaaRqZ
namespace Go.Proofs.Ytcgclaailhhbpaa
open Go.ChangeShapes Go.WideShapes Go.ChangeAt Go.RowKit
set_option linter.unusedVariables false
set_option maxRecDepth 100000
set_option linter.unusedSimpArgs false
open Plain Sha Au Rp Rq
set_option maxHeartbeats 8000000 in
theorem rqparse_in (A : Option Addr) (n c : Nat) (bs : List Int) (w : World) (h : Bs w w.heap.size A n bs) (hc : n ≤ c) (hn : n ≤ maxLen) :
    Calls Try.prog 4 #[.slice A n c] w (fun e w' => e = .returned (.bool true) ∧ Below w.heap.size w w') := by
  by_cases hbig : 3000 < n
  · have hi : (3000 : Int) < (n : Int) := by omega
    clear h hbig
    go_enter Try.func4, Try.ntmps4
    go_wp2
    go_ret
    exact ⟨rfl, Below.refl _ _⟩
  · have hi : ¬ (3000 : Int) < (n : Int) := by omega
    have hs : n ≤ 3000 := by omega
    have CM := Lib.hid (refcopy_any c h (Nat.le_refl _) (by omega))
    have HZ := Lib.hid h
    have HL := Lib.hid h.len
    have HIB := Lib.hid h.isBytes
    obtain ⟨z, er, hz⟩ : ∃ z er, parseQ bs = (z, er) := ⟨_, _, rfl⟩
    have HZE := Lib.hid hz
    have hee : (er != er) = false := by simp
    have EQ : eqB bs bs = true := eqB_self _
    clear h hbig hz
    go_enter Try.func4, Try.ntmps4
    go_upto_region 4 with (go_at_call 12; refine CM.out.mono ?_; intro e w3 hm; obtain ⟨D, d, rfl, o3, b3, k1, k2⟩ := hm.n HL.out; have B3 := Lib.hid b3; have O3 := Lib.hid o3; clear hm o3 b3)
    have RP := Lib.hid (rparse_any (w := w3) (HZ.out.below B3.out) B3.out.size hc)
    rw [HZE.out] at RP
    go_upto_region 5 with (first
          | (go_at_call 18; refine RP.out.mono ?_; rintro e w4 ⟨xw, rfl, zw, kw, ow, bw⟩; have ZW := Lib.hid zw; have K4 := Lib.hid kw; have B4 := Lib.hid bw; have vn := Lib.hid (vbox_new w4 (qc q0) 26 w4.heap.size 12 rfl (qc_len _) (by omega)); have THW := Lib.hid (vthere vn.out (us := qc xw) rfl); clear zw kw ow bw)
          | (show wpList _ _ _ (⟨none, .store 26 (.tmp 4) (.tmp 18), _, _, _, _⟩ :: _) _ _; refine wpList_store_as (op := ⟨none, .store 26 (.tmp 4) (.tmp 18), _, _, _, _⟩) rfl 26 (.tmp 4) (.tmp 18) rfl (w4.heap.size) 0 (qc xw).toArray rfl rfl (THW.out) (q_sizeA xw) (q_oneA xw) ?_; intro w5 hw5))
    obtain ⟨V5m, b5m⟩ := vstored vn.out (qc_len xw) hw5 (Nat.le_refl _) (below_one w4 _)
    have V5 := Lib.hid V5m
    have B5 := Lib.hid b5m
    obtain ⟨gw, hgw⟩ : ∃ g, w4.heap.size = g := ⟨_, rfl⟩
    rw [hgw] at V5
    rw [hgw]
    have B05 := Lib.hid (B3.out.trans ((B4.out.trans (B5.out.mono B4.out.size)).mono B3.out.size))
    have K5 := Lib.hid (K4.out.grow B5.out (Nat.le_refl _))
    have O5 := Lib.hid (own_below O3.out (B4.out.trans (B5.out.mono B4.out.size)) (Nat.le_refl _))
    clear vn THW hw5 V5m b5m hgw RP CM K4 O3
    have s5 := B05.out.size
    go_wp2
    go_loopw [6] (fun i wr => ∃ k : Nat, k ≤ 2 ∧ i = .int .i64 k ∧ Hid (Below w5.heap.size w5 wr)) (fun i _ => 2 - (intOf i).toNat)
    case atStart => exact ⟨0, by omega, rfl, Lib.hid (Below.refl _ _)⟩
    case round =>
      obtain ⟨k, hk, rfl, HB⟩ := hrel
      have BWr := Lib.hid (B05.out.trans (HB.out.mono s5))
      by_cases hlt : k < 2
      · have hki : (k : Int) < 2 := by omega
        have sr := HB.out.size
        have MR := Lib.hid ((bs_of_own (own_below O5.out HB.out (Nat.le_refl _)) HIB.out))
        have PP := Lib.hid (parse_any (w := wr) (c := d) MR.out (Nat.le_refl _) (by omega))
        rw [HZE.out] at PP
        go_upto_region 9 with (first
              | (go_at_call 19; refine PP.out.mono ?_; rintro e w8 ⟨xr, rfl, zw, kw, ow, bw⟩; have ZR := Lib.hid zw; have K8 := Lib.hid kw; have O8 := Lib.hid ow; have OB8 := Lib.hid (Own.of ow kw.tok.isBytes); have B8 := Lib.hid bw; have vn := Lib.hid (vbox_new w8 (qc q0) 26 w8.heap.size 12 rfl (qc_len _) (by omega)); have THR := Lib.hid (vthere vn.out (us := qc xr) rfl); clear zw kw ow bw)
              | (show wpList _ _ _ (⟨none, .store 26 (.tmp 7) (.tmp 27), _, _, _, _⟩ :: _) _ _; refine wpList_store_as (op := ⟨none, .store 26 (.tmp 7) (.tmp 27), _, _, _, _⟩) rfl 26 (.tmp 7) (.tmp 27) rfl (w8.heap.size) 0 (qc xr).toArray rfl rfl (THR.out) (q_sizeA xr) (q_oneA xr) ?_; intro w9 hw9))
        obtain ⟨V9m, b9m⟩ := vstored vn.out (qc_len xr) hw9 (Nat.le_refl _) (below_one w8 _)
        have V9 := Lib.hid V9m
        have B9 := Lib.hid b9m
        obtain ⟨gr, hgr⟩ : ∃ g, w8.heap.size = g := ⟨_, rfl⟩
        rw [hgr] at V9
        rw [hgr]
        have K9 := Lib.hid (K8.out.grow B9.out (Nat.le_refl _))
        have O9 : Hid (w9.ownsRow wr.heap.size 5 1 (.slice xr.A xr.tl xr.tc) xr.tl (vals xr.tok)) := Lib.hid (own_below O8.out B9.out (Nat.le_refl _))
        have BR9 := Lib.hid (B8.out.trans (B9.out.mono B8.out.size))
        have B59 := Lib.hid (HB.out.trans (BR9.out.mono sr))
        have VW9 := Lib.hid (V5.out.grow B59.out)
        have KW9 := Lib.hid (K5.out.grow B59.out (Nat.le_refl _))
        have SM := Lib.hid (rqsame_any (w := w9) true K9.out KW9.out (Nat.le_refl _) (Nat.le_refl _) (by rw [ZR.out, ZW.out]; exact reqB_refl _))
        have GR8 : Hid (w8.heap.size ≤ gr) := Lib.hid (Nat.le_of_eq hgr)
        have glr : Hid (wr.heap.size ≤ gr ∧ gr < w9.heap.size) := Lib.hid ⟨by rw [← hgr]; exact B8.out.size, V9.out.lt⟩
        clear vn THR hw9 V9m b9m hgr PP MR K8 O8
        go_upto_region 12 with (first
              | (show wpList _ _ _ (⟨some 33, .load 26 (.tmp 7), _, _, _, some (3, false)⟩ :: _) _ _; refine wpList_load_guard (op := ⟨some 33, .load 26 (.tmp 7), _, _, _, some (3, false)⟩) (by rfl) 26 (.tmp 7) rfl (gr) 0 rfl (qc xr) _ (V9.out.range) Try.underlying26 rfl (q_size xr) ?_)
              | (show wpList _ _ _ (⟨some 34, .load 26 (.tmp 4), _, _, _, some (3, false)⟩ :: _) _ _; refine wpList_load_guard (op := ⟨some 34, .load 26 (.tmp 4), _, _, _, some (3, false)⟩) (by rfl) 26 (.tmp 4) rfl (gw) 0 rfl (qc xw) _ (VW9.out.range) Try.underlying26 rfl (q_size xw) ?_)
              | (go_at_call 20; refine SM.out.mono ?_; rintro e w10 ⟨rfl, hb⟩; have B10 := Lib.hid hb; have S1 := Lib.hid (bs_of_own (own_below O5.out (B59.out.trans (hb.mono B59.out.size)) (Nat.le_refl _)) HIB.out); have S2 := Lib.hid (HZ.out.below (B05.out.trans ((B59.out.trans (hb.mono B59.out.size)).mono s5))); clear hb)
              | (go_at_call 16; refine (refsame_any d c S1.out S2.out (by unfold maxLen; omega) (by unfold maxLen; omega)).mono ?_; rintro e w11 ⟨rfl, m11, rfl⟩))
        have BRB := Lib.hid (below_drewN (BR9.out.trans (B10.out.mono BR9.out.size)) m11)
        have OB : Hid (Own (w10.drewN m11) wr.heap.size xr.A xr.tl xr.tc) := Lib.hid (Own.of (own_below O9.out (below_drewN B10.out m11) (Nat.le_refl _)) K9.out.tok.isBytes)
        have cB : Hid ((w10.drewN m11).cell? ⟨gr, 1, none⟩ = some (.slice xr.A xr.tl xr.tc)) := Lib.hid (by
          have := (rng_q ((V9.out.grow B10.out).same (w' := w10.drewN m11) rfl).range).2.1
          simpa only [Nat.zero_add] using this)
        have NE : Hid (∀ a, xr.A = some a → a.block ≠ gr) := Lib.hid (fun a ha => by
          have h1 := (OB8.out.lt a ha).2
          have h2 := GR8.out
          omega)
        obtain ⟨wa, hwa⟩ : ∃ W, W = w10.drewN m11 := ⟨_, rfl⟩
        rw [← hwa] at BRB OB cB
        rw [← hwa]
        have W5R := Lib.hid (HB.out.trans (BRB.out.mono sr))
        obtain ⟨s0, hs0⟩ : ∃ s, wr.heap.size = s := ⟨_, rfl⟩
        rw [hs0] at OB
        have sr2 : Hid (w5.heap.size ≤ s0) := Lib.hid (by rw [← hs0]; exact sr)
        have hb9 : xr.tl ≤ 9223372036854775807 := by have := Nat.le_trans K9.out.tc K9.out.tm; unfold maxLen at this; exact this
        clear hwa hs0 sr SM VW9 KW9 K9 O9 B10 V9 BR9 BRB
        obtain ⟨tA, tl, tc, htk⟩ : ∃ a b c, xr.A = a ∧ xr.tl = b ∧ xr.tc = c := ⟨_, _, _, rfl, rfl, rfl⟩
        obtain ⟨h1, h2, h3⟩ := htk
        rw [h1, h2, h3] at OB cB
        rw [h2] at hb9
        rw [h1] at NE
        clear h1 h2 h3
        go_wp2
        go_loopw [9] (fun i wq => ∃ j : Nat, j ≤ tl ∧ i = .int .i64 j ∧ Hid (Own wq s0 tA tl tc) ∧ Hid (Below w5.heap.size w5 wq) ∧ Hid (wq.cell? ⟨gr, 1, none⟩ = some (.slice tA tl tc))) (fun i _ => tl - (intOf i).toNat)
        case atStart => exact ⟨0, by omega, rfl, OB, W5R, cB⟩
        case round =>
          obtain ⟨j, hj, rfl, OJ, BJ, CJ⟩ := hrel
          have cj := CJ.out
          by_cases hlj : j < tl
          · obtain ⟨gb, u, rfl, hg1, hg2, hu0, hu1, hcc, hff, HSS⟩ := OJ.out.at_ hlj
            have hji : (j : Int) < (tl : Int) := by omega
            have HX : Hid (∀ z : Int, 0 ≤ z → z < 256 → Own (wr.setCell ⟨gb, j, none⟩ (.int .u8 z)) s0 (some ⟨gb, 0, none⟩) tl tc ∧ Below w5.heap.size w5 (wr.setCell ⟨gb, j, none⟩ (.int .u8 z)) ∧ (wr.setCell ⟨gb, j, none⟩ (.int .u8 z)).cell? ⟨gr, 1, none⟩ = some (.slice (some ⟨gb, 0, none⟩) tl tc)) := Lib.hid (fun z h0 h1 => ⟨HSS.out z h0 h1, BJ.out.setCell (p := ⟨gb, j, none⟩) (Nat.le_trans sr2.out hg1) _, (World.cell?_setCell_other _ _ _ _ (fun e => by injection e with e1 _; exact NE.out _ rfl e1)).trans CJ.out⟩)
            clear HSS hg1 hg2
            go_wp2
            go_roundw
            case rel => exact ⟨j + 1, by omega, by go_num, Lib.hid (HX.out _ (by omega) (by omega)).1, Lib.hid (HX.out _ (by omega) (by omega)).2.1, Lib.hid (HX.out _ (by omega) (by omega)).2.2⟩
            case measure => simp [intOf]; omega
          · have hji : ¬ (j : Int) < (tl : Int) := by omega
            clear hj hlj OB
            go_wp2
            go_roundw
            case rel => exact ⟨k + 1, by omega, by go_num, BJ⟩
            case measure => simp [intOf]; omega
      · have hki : ¬ (k : Int) < 2 := by omega
        go_wp2
        go_ret
        exact ⟨rfl, BWr.out⟩
end Go.Proofs.Ytcgclaailhhbpaa
