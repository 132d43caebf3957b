/- A link more. -/
import Derived.Test.YtkaojhcmdichfaaDoorAuL
namespace Go.Proofs.YtkaojhcmdichfaaDoor
open Go.ChangeShapes Go.WideShapes Go.ChangeAt Go.RowKit
set_option linter.unusedVariables false
set_option linter.unusedSimpArgs false
open Plain Sha Au
set_option maxRecDepth 100000 in
set_option maxHeartbeats 4000000 in
theorem add_any {w : World} {B n : Nat} {A : Option Addr} (c0 : Nat) {l : List LinkZ} (h : Lks w B A n l) (hB : B ≤ w.heap.size) (hn : n ≤ 10000) (st op tn a b c : Int) (ha : ArgsOk st op tn a b c) (hF : LaidF w) (hK : LaidK w) :
    Calls Tryd.prog 6 #[.slice A n c0, .int .i64 st, .int .u8 op, .int .i64 tn, .int .i64 a, .int .i64 b, .int .i64 c] w (MadeL w (addZ l st op tn a b c) (n + 1)) := by
  have L := h.len
  obtain ⟨X, hX⟩ : ∃ X, bareL l st op tn a b c = X := ⟨_, rfl⟩
  obtain ⟨Y, hY⟩ : ∃ Y, nextL l st op tn a b c = Y := ⟨_, rfl⟩
  have XOK : Hid (LOk X) := Lib.hid (by rw [← hX]; exact bare_ok h.ok (by omega) ha)
  have YOK : Hid (LOk Y) := Lib.hid (by rw [← hY]; exact next_ok h.ok (by omega) ha)
  have HADD : Hid (addZ l st op tn a b c = l ++ [Y]) := Lib.hid (by rw [← hY]; rfl)
  have HB0 : Hid (∀ W, (Instr.build 26 #[(0, .int .i64 ((n : Int) + 1)), (1, .int .i64 st), (2, .int .u8 op), (3, .int .i64 tn), (4, .int .i64 a), (5, .int .i64 b), (6, .int .i64 c), (7, .agg (vals (headZ l)).toArray)]).run Tryd.prog W = .ok (.agg (lc X).toArray) W) := Lib.hid (fun W => by
    rw [← hX]
    unfold bareL
    rw [L]
    exact build_bare _ _ _ _ _ _ _ _ (headZ_len l) W)
  have HST : Hid (∀ (w' : World) (bb : Nat), LBox w' bb X → LBox (w'.setCells bb 39 (vals (hashZ X))) bb Y) := Lib.hid (fun w' bb hb => by
    have := hb.setS (hashZ_len X)
    subst hX hY
    exact this)
  have h1 : IntKind.i64.wrap ((n : Int) + 1) = (n : Int) + 1 := by rw [IntKind.wrap_i64]; omega
  have HLL : Hid (∀ W, Below w.heap.size w W → Lks W W.heap.size A n l) := Lib.hid (fun W hW => ((h.below hW hB).more (Nat.le_trans hB hW.size)))
  have HF := Lib.hid hF
  have HK := Lib.hid hK
  have HH := Lib.hid h
  have LH := Lib.hid (hashZ_len X)
  have zk := zLk
  have zs := zLc_size
  have zn := zLc_ne
  have hnm : n ≤ maxLen := by unfold maxLen; omega
  rw [HADD.out]
  clear hX hY h hF hK ha L
  go_enter Tryd.func6, Tryd.ntmps6
  have G1 := XOK
  have G0 := XOK
  go_upto_region 2 with (first
    | (have g := G0; clear g; refine wpList_exec (op := ⟨some 27, .build 26 #[(0, .tmp 18), (1, .tmp 19), (2, .tmp 20), (3, .tmp 21), (4, .tmp 22), (5, .tmp 23), (6, .tmp 24), (7, .tmp 26)], _, _, _, _⟩) rfl (.agg (lc X).toArray) (by have hb9 := HB0.out w1; simp [execOp, Act.eval, hb9]) ?_; clear G0)
    | (go_at_call 11; refine (head_any c0 HH.out hB hnm).mono ?_; rintro e w1 ⟨rfl, hb⟩; have B1 := Lib.hid hb; have TH : Hid ((w1.alloc (.cells zLc 26)).there w1.heap.size 0 (lc X).toArray.size) := Lib.hid (lthere_new w1 X _ _ rfl); clear hb)
    | (have g := G1; clear g; refine wpList_store_as (op := ⟨none, .store 26 (.tmp 15) (.tmp 27), _, _, _, _⟩) rfl 26 (.tmp 15) (.tmp 27) rfl (w1.heap.size) 0 (lc X).toArray rfl rfl (TH.out) (lk_sizeA X) (lk_one X) ?_; intro w2 hw2; clear G1))
  obtain ⟨x2, b2, s2⟩ := lbox_stored rfl hw2
  have B2 := Lib.hid (B1.out.trans (b2.mono B1.out.size))
  have X2 := Lib.hid x2
  have G1 := XOK
  have G2 := XOK
  have s1 := B1.out.size
  clear hw2 x2 b2 HB0
  go_upto_region 3 with (first
    | (have g := G1; clear g; refine wpList_load_mid (op := ⟨some 28, .load 26 (.tmp 15), _, _, _, _⟩) rfl 26 (.tmp 15) rfl (w1.heap.size) (0) rfl (lc X) _ (X2.out.range) Tryd.underlying26 rfl (lk_size X) ?_; clear G1)
    | (go_at_call 9; refine (ahash_any XOK.out (HF.out.below B2.out HF.out.lt) (HK.out.below B2.out HK.out.lt)).mono ?_; rintro e w3 ⟨rfl, hb⟩; have B3 := Lib.hid (B2.out.trans (hb.mono B2.out.size)); have X3 := Lib.hid (X2.out.grow hb); clear hb)
    | (have g := G2; clear g; refine wpList_store_as (op := ⟨none, .store 24 (.tmp 30) (.tmp 29), _, _, _, _⟩) rfl 24 (.tmp 30) (.tmp 29) rfl (w1.heap.size) 39 (vals (hashZ X)).toArray rfl rfl (X3.out.thereS LH.out) (tag_size (hashZ X) LH.out) (all_oneCell_toArray (vals_one (hashZ X))) ?_; intro w4 hw4; clear G2))
  have X4 : Hid (LBox w4 w1.heap.size Y) := Lib.hid (by rw [hw4.out]; exact HST.out _ _ X3.out)
  have B4 := Lib.hid (below_storeA B3.out (by omega) hw4)
  have G1 := XOK
  have G2 := XOK
  clear hw4 X3 X2
  go_wp2_with (first
    | (have g := G1; clear g; refine wpList_load_mid (op := ⟨some 32, .load 26 (.tmp 15), _, _, _, _⟩) rfl 26 (.tmp 15) rfl (w1.heap.size) (0) rfl (lc Y) _ (X4.out.range) Tryd.underlying26 rfl (lk_size Y) ?_; clear G1)
    | (have g := G2; clear g; refine wpList_slice1 (o := ⟨some 33, .buildSlice 22 1 #[(0, .tmp 32)], _, _, _, _⟩) rfl (.tmp 32) rfl Y rfl ?_; intro w5 hw5; clear G2; have b5 : Below w4.heap.size w4 w5 := (by rw [hw5.out]; exact (Below.refl _ _).alloc (Nat.le_refl _) _); have l5 : Lks w5 w5.heap.size (some ⟨w4.heap.size, 0, none⟩) 1 [Y] := (by rw [hw5.out]; exact (lks_one w4 Y YOK.out _ _ rfl).more (by simp)); have B5 := Lib.hid (B4.out.trans (b5.mono B4.out.size)); have L5 := Lib.hid l5; clear b5 l5 hw5)
    | (go_at_call 17; refine (concat_any (twoP_of (c1 := c0) (c2 := 1) (HLL.out w5 B5.out) L5.out (Nat.le_refl _) (Nat.le_refl _) 22) (by simp) (by simp) (by omega) (by omega)).mono ?_; rintro e w7 ⟨D, d, rfl, ho, hb, hnd, hdm⟩; have B6 : Hid (Below w.heap.size w (w5.alloc (.cells #[.slice A n c0, .slice (some ⟨w4.heap.size, 0, none⟩) 1 1] 22))) := Lib.hid (B5.out.alloc B5.out.size _); have O7 := Lib.hid (own_base ho B6.out.size); have B7 := Lib.hid (B6.out.trans (hb.mono B6.out.size)); clear hb ho))
  go_ret
  exact ⟨D, d, rfl, O7.out, B7.out, hnd, hdm⟩
end Go.Proofs.YtkaojhcmdichfaaDoor
