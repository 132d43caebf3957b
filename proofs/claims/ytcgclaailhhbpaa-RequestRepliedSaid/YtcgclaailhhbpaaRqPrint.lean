/- The statement RequestPrint: the walk. -/
import Derived.Test.YtcgclaailhhbpaaRqF
import Derived.Test.YtcgclaailhhbpaaRqH
import Derived.Test.YtcgclaailhhbpaaRqI
import Derived.Test.YtcgclaailhhbpaaRqJ
import Derived.Test.YtcgclaailhhbpaaRqL
namespace Go.Proofs.Ytcgclaailhhbpaa
open Go.ChangeShapes Go.WideShapes Go.ChangeAt Go.RowKit
set_option linter.unusedVariables false
set_option maxRecDepth 100000
set_option linter.unusedSimpArgs false
open Plain Sha Au Rp Rq
/-- A copy of a request: its token stands elsewhere. -/
def tokAt (x : QX) (D : Option Addr) (d : Nat) : QX := { x with A := D, tc := d }
theorem qc_tokAt (x : QX) (D : Option Addr) (d : Nat) : (qc x).set 1 (.slice D x.tl d) = qc (tokAt x D d) := rfl
/-- The same contract, with the value's letters named. -/
theorem print_yes {w : World} {B : Nat} {x : QX} (h : QOk w B x) (hB : B ≤ w.heap.size) (hM : x.tl ≤ 140737488355328) (hm : mayB x.z = true) {F : List Int} {L : Nat} (hF : reqF x.z = F) (hL : F.length = L) : Calls Try.prog 14 #[.agg (qc x).toArray] w (fun e w' => ∃ D d, e = .returned (.tuple #[.slice D L d, .int .i64 0]) ∧ w'.ownsRow w.heap.size 5 1 (.slice D L d) L (vals F) ∧ L ≤ d ∧ d ≤ maxLen ∧ Below w.heap.size w w') := by
  subst hF hL
  refine (print_any h hB hM).mono ?_
  rw [hm]
  rintro e w' ⟨u, rfl, ⟨D, d, rfl, ho, h1, h2⟩, hb⟩
  exact ⟨D, d, rfl, ho, h1, h2, hb⟩
theorem print_no {w : World} {B : Nat} {x : QX} (h : QOk w B x) (hB : B ≤ w.heap.size) (hM : x.tl ≤ 140737488355328) (hm : mayB x.z = false) : Calls Try.prog 14 #[.agg (qc x).toArray] w (fun e w' => ∃ D d, e = .returned (.tuple #[.slice D 0 d, .int .i64 2]) ∧ Below w.heap.size w w') := by
  refine (print_any h hB hM).mono ?_
  rw [hm]
  rintro e w' ⟨u, rfl, ⟨D, d, rfl, ho, h1, h2⟩, hb⟩
  exact ⟨D, d, rfl, hb⟩
theorem reqF_bytes {w : World} {B : Nat} {x : QX} (h : QOk w B x) : IsBytes (reqF x.z) := by
  unfold reqF
  have ht := bytesF_bytes h.tok.isBytes
  have hi := fun n => n64_bytes' n
  have hs := fun s => bytesF_bytes (strZ_bytes s)
  exact (((((((((((one_byte _ h.op.1 h.op.2).app ht).app (hs _)).app (hs _)).app (hs _)).app (hi _)).app (hi _)).app (hi _)).app (hi _)).app (one_byte _ h.rt.1 h.rt.2)).app (hi _)).app (hi _)
set_option maxHeartbeats 8000000 in
theorem rqprint_in (x : QX) (w : World) (h : QOk w w.heap.size x) (hM : x.tl ≤ 140737488355328) :
    Calls Try.prog 3 #[.agg (qc x).toArray] w (fun e w' => e = .returned (.bool true) ∧ Below w.heap.size w w') := by
  obtain ⟨W1, hW1⟩ : ∃ W, W = w.alloc (.cells (qc x).toArray 26) := ⟨_, rfl⟩
  have b1 := Lib.hid (show Below w.heap.size w W1 by rw [hW1]; exact below_one _ _)
  obtain ⟨g, hg⟩ : ∃ g, w.heap.size = g := ⟨_, rfl⟩
  have HG := Lib.hid hg
  have V1 := Lib.hid (show VBox W1 g 12 (qc x) by rw [hW1]; exact vbox_new _ _ _ _ _ hg (qc_len x) (by omega))
  have z1 := Lib.hid (show W1.heap.size = g + 1 by rw [hW1]; simp [hg])
  have HW1 := Lib.hid hW1
  obtain ⟨gq, hgq⟩ : ∃ q, greatQ x.z = q := ⟨_, rfl⟩
  have GM := Lib.hid (fun w => greatq_any (w := w) gq h.tok.len hgq)
  have HH := Lib.hid h
  clear hW1
  cases gq with
  | true =>
    clear hgq h hg
    go_enter Try.func3, Try.ntmps3
    go_upto_region 1 with fail
    rw [← HW1.out, HG.out]
    go_wp2_with (first
          | (show wpList _ _ _ (⟨some 9, .load 26 (.tmp 1), _, _, _, _⟩ :: _) _ _; refine wpList_load_mid (op := ⟨some 9, .load 26 (.tmp 1), _, _, _, _⟩) rfl 26 (.tmp 1) rfl (g) 0 rfl (qc x) _ (V1.out.range) Try.underlying26 rfl (q_size x) ?_)
          | (go_at_call 11; refine (GM.out _).mono ?_; rintro e w2 ⟨rfl, hb⟩; have B2 := Lib.hid hb; clear hb))
    go_ret
    exact ⟨rfl, b1.out.trans (B2.out.mono b1.out.size)⟩
  | false =>
    obtain ⟨n1, n2, n3, n4⟩ := greatQ_no hgq
    have n1 : x.tl ≤ 2000 := by rw [← h.tok.len]; exact n1
    have n2 : x.key.size ≤ 500 := n2
    have n3 : x.val.size ≤ 500 := n3
    have n4 : x.old.size ≤ 500 := n4
    obtain ⟨q, hq⟩ : ∃ q, mayB x.z = q := ⟨_, rfl⟩
    have HQ := Lib.hid hq
    have HTL := Lib.hid h.tok.len
    clear hgq hq h hg hM
    go_enter Try.func3, Try.ntmps3
    go_upto_region 1 with fail
    rw [← HW1.out, HG.out]
    go_upto_region 3 with (first
          | (show wpList _ _ _ (⟨some 9, .load 26 (.tmp 1), _, _, _, _⟩ :: _) _ _; refine wpList_load_mid (op := ⟨some 9, .load 26 (.tmp 1), _, _, _, _⟩) rfl 26 (.tmp 1) rfl (g) 0 rfl (qc x) _ (V1.out.range) Try.underlying26 rfl (q_size x) ?_)
          | (go_at_call 11; refine (GM.out _).mono ?_; rintro e w2 ⟨rfl, hb⟩; have B2 := Lib.hid hb; clear hb))
    have BA2 := Lib.hid (b1.out.trans (B2.out.mono b1.out.size))
    have V2 := Lib.hid (V1.out.grow B2.out)
    have vn := Lib.hid (vbox_new w2 (qc q0) 26 w2.heap.size 12 rfl (qc_len _) (by omega))
    have TH := Lib.hid (vthere vn.out (us := qc x) rfl)
    go_upto_region 4 with (first
          | (show wpList _ _ _ (⟨some 11, .load 26 (.tmp 1), _, _, _, _⟩ :: _) _ _; refine wpList_load_mid (op := ⟨some 11, .load 26 (.tmp 1), _, _, _, _⟩) rfl 26 (.tmp 1) rfl (g) 0 rfl (qc x) _ (V2.out.range) Try.underlying26 rfl (q_size x) ?_)
          | (show wpList _ _ _ (⟨none, .store 26 (.tmp 3) (.tmp 11), _, _, _, _⟩ :: _) _ _; refine wpList_store_as (op := ⟨none, .store 26 (.tmp 3) (.tmp 11), _, _, _, _⟩) rfl 26 (.tmp 3) (.tmp 11) rfl (w2.heap.size) 0 (qc x).toArray rfl rfl (TH.out) (q_sizeA x) (q_oneA x) ?_; intro w3 hw3))
    obtain ⟨V3m, b3m⟩ := vstored vn.out (qc_len x) hw3 (Nat.le_refl _) (below_one w2 _)
    have V3 := Lib.hid V3m
    have B3 := Lib.hid b3m
    obtain ⟨gm, hgm⟩ : ∃ gm, w2.heap.size = gm := ⟨_, rfl⟩
    rw [hgm] at V3
    rw [hgm]
    have HGM := Lib.hid hgm
    have BA3 := Lib.hid (BA2.out.trans (B3.out.mono BA2.out.size))
    have V3a := Lib.hid (V2.out.grow B3.out)
    have lt3 : Hid (gm < w3.heap.size) := Lib.hid V3.out.lt
    clear vn TH hw3 V3m b3m hgm
    have T3 := Lib.hid (HH.out.tok.belowM BA3.out (Nat.le_refl _))
    have CM := Lib.hid (refcopy_any x.tc T3.out BA3.out.size (by omega))
    obtain ⟨_, c1, _⟩ := rng_q V3a.out.range
    simp only [Nat.zero_add] at c1
    have ltg := Lib.hid V3a.out.lt
    go_upto_region 5 with (go_at_call 12; refine CM.out.mono ?_; intro e w4 hm; obtain ⟨D, d, rfl, o4, b4, k1, k2⟩ := hm.n HTL.out; have B4 := Lib.hid b4; have O4 := Lib.hid o4; obtain ⟨x1, y1⟩ : w4.cell? ⟨gm, 1, none⟩ = some (.slice x.A x.tl x.tc) ∧ w4.frozen? ⟨gm, 1, none⟩ = false := ⟨by have := (rng_q (V3.out.grow b4).range).2.1; simpa only [Nat.zero_add] using this, by have := ((V3.out.grow b4).there 1 (by omega)).2; simpa only [Nat.zero_add] using this⟩; clear hm o4 b4)
    obtain ⟨w5, hw5⟩ : ∃ W, W = w4.setCell ⟨gm, 1, none⟩ (.slice D x.tl d) := ⟨_, rfl⟩
    rw [← hw5]
    obtain ⟨y, hy⟩ : ∃ y, y = tokAt x D d := ⟨_, rfl⟩
    have V5 : Hid (VBox w5 gm 12 (qc y)) := Lib.hid (by rw [hw5, hy, ← qc_tokAt]; exact (V3.out.grow B4.out).set (by omega) _)
    have V5a : Hid (VBox w5 g 12 (qc x)) := Lib.hid ((V3a.out.grow B4.out).same (by rw [hw5]; exact heap_setCell _ _ _ _ _ (by have := V2.out.lt; rw [HGM.out] at this; omega)))
    have B5 : Hid (Below w.heap.size w w5) := Lib.hid (by rw [hw5]; exact (BA3.out.trans (B4.out.mono BA3.out.size)).setCell (p := ⟨gm, 1, none⟩) (by rw [← HGM.out]; exact BA2.out.size) _)
    have O5 : Hid (w5.ownsRow w3.heap.size 5 1 (.slice y.A y.tl y.tc) y.tl (vals x.tok)) := Lib.hid (by rw [hw5, hy]; exact ownsRow_setCell_below O4.out (by show gm < w3.heap.size; exact lt3.out) _)
    have HY : Hid (QOk w5 w5.heap.size y) := Lib.hid (by
      have h0 := HH.out
      have e : y.tok = x.tok := by rw [hy]; rfl
      have ht := bs_of_own O5.out h0.tok.isBytes
      rw [← e] at ht
      rw [hy] at ht ⊢
      exact ⟨h0.op, h0.n, h0.tn, h0.ks, h0.sp, h0.rt, h0.ex, h0.sr, k1, k2, ht⟩)
    have YZ : Hid (y.z = x.z ∧ y.tl = x.tl ∧ y.tok = x.tok) := Lib.hid (by rw [hy]; exact ⟨rfl, rfl, rfl⟩)
    have HX5 : Hid (QOk w5 w.heap.size x) := Lib.hid (HH.out.below B5.out (Nat.le_refl _))
    clear hw5 hy c1 V3 V3a O4 B4 CM T3
    have MM := Lib.hid (rmay_any (w := w5) q HTL.out HH.out.rt HQ.out)
    go_upto_region 6 with (first
          | (show wpList _ _ _ (⟨some 16, .load 26 (.tmp 1), _, _, _, _⟩ :: _) _ _; refine wpList_load_mid (op := ⟨some 16, .load 26 (.tmp 1), _, _, _, _⟩) rfl 26 (.tmp 1) rfl (g) 0 rfl (qc x) _ (V5a.out.range) Try.underlying26 rfl (q_size x) ?_)
          | (go_at_call 13; refine MM.out.mono ?_; rintro e w6 ⟨rfl, hb⟩; have B6 := Lib.hid hb; clear hb))
    have B06 := Lib.hid (B5.out.trans (B6.out.mono B5.out.size))
    have V6 := Lib.hid (V5.out.grow B6.out)
    have V6a := Lib.hid (V5a.out.grow B6.out)
    have HYW : Hid (∀ W, Below w6.heap.size w6 W → QOk W w6.heap.size y) := Lib.hid (fun W hW => (HY.out.grow B6.out (Nat.le_refl _)).below hW (Nat.le_refl _))
    have HXW : Hid (∀ W, Below w6.heap.size w6 W → QOk W w.heap.size x) := Lib.hid (fun W hW => (HX5.out.below (B6.out.trans (hW.mono B6.out.size)) B5.out.size))
    have HCY : Hid (∀ W, Below w6.heap.size w6 W → W.cell? ⟨gm, 1, none⟩ = some (.slice y.A x.tl y.tc)) := Lib.hid (fun W hW => by
      have := (rng_q (V6.out.grow hW).range).2.1
      rw [YZ.out.2.1] at this
      simpa only [Nat.zero_add] using this)
    have HCX : Hid (∀ W, Below w6.heap.size w6 W → W.cell? ⟨g, 1, none⟩ = some (.slice x.A x.tl x.tc)) := Lib.hid (fun W hW => by
      have := (rng_q (V6a.out.grow hW).range).2.1
      simpa only [Nat.zero_add] using this)
    have hy1 : y.tl ≤ 140737488355328 := by rw [YZ.out.2.1]; omega
    obtain ⟨F, hF⟩ : ∃ F, reqF x.z = F := ⟨_, rfl⟩
    obtain ⟨L, hL⟩ : ∃ L, F.length = L := ⟨_, rfl⟩
    have HF := Lib.hid hF
    have HL := Lib.hid hL
    have HFB : Hid (IsBytes F) := Lib.hid (by rw [← hF]; exact reqF_bytes HH.out)
    have hLs : L ≤ 5000 := by rw [← hL, ← hF, reqF_len]; have e1 : x.z.tok.length = x.tl := HTL.out; have e2 : x.z.key.size = x.key.size := rfl; have e3 : x.z.val.size = x.val.size := rfl; have e4 : x.z.old.size = x.old.size := rfl; omega
    clear hF hL V5 V5a HY HX5 O5
    go_wp2
    go_loopw [5] (fun i wr => ∃ k : Nat, k ≤ 2 ∧ i = .int .i64 k ∧ Hid (Below w6.heap.size w6 wr)) (fun i _ => 2 - (intOf i).toNat)
    case atStart => exact ⟨0, by omega, rfl, Lib.hid (Below.refl _ _)⟩
    case round =>
      obtain ⟨k, hk, rfl, HB⟩ := hrel
      have BWr := Lib.hid (B06.out.trans (HB.out.mono B06.out.size))
      by_cases hlt : k < 2
      · have hki : (k : Int) < 2 := by omega
        have YR := Lib.hid (HYW.out _ HB.out)
        have XR := Lib.hid (HXW.out _ HB.out)
        have VYR := Lib.hid (V6.out.grow HB.out)
        have sr := HB.out.size
        cases q with
        | false =>
          have PM := Lib.hid (print_no YR.out sr hy1 (by rw [YZ.out.1]; exact HQ.out))
          go_upto_region 10 with (first
                | (show wpList _ _ _ (⟨some 23, .load 26 (.tmp 3), _, _, _, _⟩ :: _) _ _; refine wpList_load_mid (op := ⟨some 23, .load 26 (.tmp 3), _, _, _, _⟩) rfl 26 (.tmp 3) rfl (gm) 0 rfl (qc y) _ (VYR.out.range) Try.underlying26 rfl (q_size y) ?_)
                | (go_at_call 14; refine PM.out.mono ?_; rintro e w9 ⟨D9, d9, rfl, hb⟩; have B9 := Lib.hid hb; clear hb))
          have V9 := Lib.hid (VYR.out.grow B9.out)
          have cy := HCY.out _ (HB.out.trans (B9.out.mono sr))
          have cx := HCX.out _ (HB.out.trans (B9.out.mono sr))
          have MP := Lib.hid (fun w => may_any (w := w) (x := y) false YR.out.tok.len (by rw [YZ.out.1]; exact HQ.out))
          have SA := Lib.hid (fun W (hW : Below w6.heap.size w6 W) => refsame_any (w := W) y.tc x.tc ((HYW.out W hW).tok) ((HXW.out W hW).tok) (by unfold maxLen; omega) (by unfold maxLen; omega))
          have EQ : eqB y.tok x.tok = true := by rw [YZ.out.2.2]; exact eqB_self _
          have HB9 := Lib.hid (HB.out.trans (B9.out.mono sr))
          have LL := YZ.out.2.1
          rw [LL] at SA
          clear LL
          go_wp2_with (first
                | (show wpList _ _ _ (⟨some 27, .load 26 (.tmp 3), _, _, _, _⟩ :: _) _ _; refine wpList_load_mid (op := ⟨some 27, .load 26 (.tmp 3), _, _, _, _⟩) rfl 26 (.tmp 3) rfl (gm) 0 rfl (qc y) _ (V9.out.range) Try.underlying26 rfl (q_size y) ?_)
                | (go_at_call 15; refine (MP.out _).mono ?_; rintro e w10 ⟨rfl, hb⟩; have B10 := Lib.hid hb; have cy := HCY.out _ (HB9.out.trans (hb.mono HB9.out.size)); have cx := HCX.out _ (HB9.out.trans (hb.mono HB9.out.size)); have SB := Lib.hid (SA.out _ (HB9.out.trans (hb.mono HB9.out.size))); clear hb)
                | (go_at_call 16; refine SB.out.mono ?_; rintro e w11 ⟨rfl, m10, rfl⟩))
          go_ret
          exact ⟨rfl, below_drewN (BWr.out.trans ((B9.out.trans (B10.out.mono B9.out.size)).mono BWr.out.size)) _⟩
        | true =>
          have PM := Lib.hid (print_yes (F := F) (L := L) YR.out sr hy1 (by rw [YZ.out.1]; exact HQ.out) (by rw [YZ.out.1]; exact HF.out) HL.out)
          go_upto_region 10 with (first
                | (show wpList _ _ _ (⟨some 23, .load 26 (.tmp 3), _, _, _, _⟩ :: _) _ _; refine wpList_load_mid (op := ⟨some 23, .load 26 (.tmp 3), _, _, _, _⟩) rfl 26 (.tmp 3) rfl (gm) 0 rfl (qc y) _ (VYR.out.range) Try.underlying26 rfl (q_size y) ?_)
                | (go_at_call 14; refine PM.out.mono ?_; rintro e w9 ⟨D9, d9, rfl, ho, hd1, hd2, hb⟩; have B9 := Lib.hid hb; have O9 := Lib.hid ho; clear hb ho))
          have V9 := Lib.hid (VYR.out.grow B9.out)
          have cy := HCY.out _ (HB.out.trans (B9.out.mono sr))
          have cx := HCX.out _ (HB.out.trans (B9.out.mono sr))
          have MP := Lib.hid (fun w => may_any (w := w) (x := y) true YR.out.tok.len (by rw [YZ.out.1]; exact HQ.out))
          have SA := Lib.hid (fun W (hW : Below w6.heap.size w6 W) => refsame_any (w := W) y.tc x.tc ((HYW.out W hW).tok) ((HXW.out W hW).tok) (by unfold maxLen; omega) (by unfold maxLen; omega))
          have EQ : eqB y.tok x.tok = true := by rw [YZ.out.2.2]; exact eqB_self _
          have HB9 := Lib.hid (HB.out.trans (B9.out.mono sr))
          have LL := YZ.out.2.1
          rw [LL] at SA
          clear LL
          go_upto_region 14 with (first
                | (show wpList _ _ _ (⟨some 27, .load 26 (.tmp 3), _, _, _, _⟩ :: _) _ _; refine wpList_load_mid (op := ⟨some 27, .load 26 (.tmp 3), _, _, _, _⟩) rfl 26 (.tmp 3) rfl (gm) 0 rfl (qc y) _ (V9.out.range) Try.underlying26 rfl (q_size y) ?_)
                | (go_at_call 15; refine (MP.out _).mono ?_; rintro e w10 ⟨rfl, hb⟩; have B10 := Lib.hid hb; have cy := HCY.out _ (HB9.out.trans (hb.mono HB9.out.size)); have cx := HCX.out _ (HB9.out.trans (hb.mono HB9.out.size)); have SB := Lib.hid (SA.out _ (HB9.out.trans (hb.mono HB9.out.size))); clear hb)
                | (go_at_call 16; refine SB.out.mono ?_; rintro e w11 ⟨rfl, m10, rfl⟩))
          have B910 := Lib.hid (below_drewN (B9.out.trans (B10.out.mono B9.out.size)) m10)
          have O10 : Hid ((w10.drewN m10).ownsRow wr.heap.size 5 1 (.slice D9 L d9) L (vals F)) := Lib.hid (own_below O9.out (below_drewN B10.out m10) (Nat.le_refl _))
          have VX10 := Lib.hid (V6a.out.grow (HB.out.trans (B910.out.mono sr)))
          have XR10 := Lib.hid (HXW.out _ (HB.out.trans (B910.out.mono sr)))
          obtain ⟨wa, hwa⟩ : ∃ W, W = w10.drewN m10 := ⟨_, rfl⟩
          rw [← hwa] at B910 O10 VX10 XR10
          rw [← hwa]
          have FM := Lib.hid (rform_any (w := wa) XR10.out (Nat.le_trans BWr.out.size B910.out.size) n1 n2 n3 n4)
          have EF : eqB F F = true := eqB_self _
          clear hwa V9 cy cx MP SA EQ HB9 VYR O9 B9 B10 PM
          go_upto_region 16 with (first
                | (show wpList _ _ _ (⟨some 52, .load 26 (.tmp 1), _, _, _, some (2, false)⟩ :: _) _ _; refine wpList_load_guard (op := ⟨some 52, .load 26 (.tmp 1), _, _, _, some (2, false)⟩) (by rfl) 26 (.tmp 1) rfl (g) 0 rfl (qc x) _ (VX10.out.range) Try.underlying26 rfl (q_size x) ?_)
                | (go_at_call 17; refine FM.out.mono ?_; rw [HF.out]; intro e w14 hm; obtain ⟨D14, d14, rfl, o14, b14, _, _⟩ := hm.n HL.out; have B14 := Lib.hid b14; have H14 := Lib.hid (Made.bs o14 HFB.out); have H10 := Lib.hid (bs_of_own (own_below O10.out b14 (Nat.le_refl _)) HFB.out); clear hm o14 b14)
                | (go_at_call 16; refine (refsame_any d9 d14 H10.out H14.out (by unfold maxLen; omega) (by unfold maxLen; omega)).mono ?_; rintro e w15 ⟨rfl, m15, rfl⟩))
          have BWF := Lib.hid (below_drewN (B910.out.trans (B14.out.mono B910.out.size)) m15)
          have OO : Hid (Own (w14.drewN m15) wr.heap.size D9 L d9) := Lib.hid (Own.of (own_below O10.out (below_drewN B14.out m15) (Nat.le_refl _)) HFB.out)
          obtain ⟨wb, hwb⟩ : ∃ W, W = w14.drewN m15 := ⟨_, rfl⟩
          rw [← hwb] at BWF OO
          rw [← hwb]
          obtain ⟨s0, hs0⟩ : ∃ s, wr.heap.size = s := ⟨_, rfl⟩
          have HS0 := Lib.hid hs0
          rw [hs0] at OO
          clear hwb O10 VX10 XR10 FM EF B14 H14 hs0 YR XR
          have W6R := Lib.hid (HB.out.trans (BWF.out.mono sr))
          have sr2 : Hid (w6.heap.size ≤ s0) := Lib.hid (by rw [← HS0.out]; exact sr)
          clear sr
          go_wp2
          go_loopw [8] (fun i wq => ∃ j : Nat, j ≤ L ∧ i = .int .i64 j ∧ Hid (Own wq s0 D9 L d9) ∧ Hid (Below w6.heap.size w6 wq)) (fun i _ => L - (intOf i).toNat)
          case atStart => exact ⟨0, by omega, rfl, OO, W6R⟩
          case round =>
            obtain ⟨j, hj, rfl, OJ, BJ⟩ := hrel
            by_cases hlj : j < L
            · obtain ⟨gb, u, rfl, hg1, hg2, hu0, hu1, hcc, hff, HSS⟩ := OJ.out.at_ hlj
              have hji : (j : Int) < (L : Int) := by omega
              have HX : Hid (∀ z : Int, 0 ≤ z → z < 256 → Own (wr.setCell ⟨gb, j, none⟩ (.int .u8 z)) s0 (some ⟨gb, 0, none⟩) L d9 ∧ Below w6.heap.size w6 (wr.setCell ⟨gb, j, none⟩ (.int .u8 z))) := Lib.hid (fun z h0 h1 => ⟨HSS.out z h0 h1, BJ.out.setCell (p := ⟨gb, j, none⟩) (Nat.le_trans sr2.out hg1) _⟩)
              clear HSS hg1 hg2
              go_wp2
              go_roundw
              case rel => exact ⟨j + 1, by omega, by go_num, Lib.hid (HX.out _ (by omega) (by omega)).1, Lib.hid (HX.out _ (by omega) (by omega)).2⟩
              case measure => simp [intOf]; omega
            · have hji : ¬ (j : Int) < (L : Int) := by omega
              clear hj hlj OO
              go_wp2
              go_roundw
              case rel => exact ⟨k + 1, by omega, by go_num, BJ⟩
              case measure => simp [intOf]; omega
      · have hki : ¬ (k : Int) < 2 := by omega
        go_wp2
        go_ret
        exact ⟨rfl, BWr.out⟩
end Go.Proofs.Ytcgclaailhhbpaa
