/- The last link's own tag; the link at a place. -/
import Derived.Test.YtkaojhcmdichfaaDoorAuH
namespace Go.Proofs.YtkaojhcmdichfaaDoor
open Go.ChangeShapes Go.WideShapes Go.ChangeAt Go.RowKit
set_option linter.unusedVariables false
set_option linter.unusedSimpArgs false
open Plain Sha Au
theorem tag_at {w : World} {T : List Int} {b : Nat} (ht : w.there b 0 32) (hT : T.length = 32) : w.there b 0 (vals T).toArray.size := by
  rw [List.size_toArray, vals_len, hT]; exact ht
set_option maxRecDepth 100000 in
set_option maxHeartbeats 1000000 in
theorem head_any {w : World} {B : Nat} {A : Option Addr} {n : Nat} (c : Nat) {l : List LinkZ} (h : Lks w B A n l) (hB : B ≤ w.heap.size) (hn : n ≤ maxLen) :
    Calls Tryd.prog 11 #[.slice A n c] w (TagA w (headZ l)) := by
  obtain ⟨W1, hW1⟩ : ∃ W, W = w.alloc (.cells (vals (List.replicate 32 0)).toArray 24) := ⟨_, rfl⟩
  have b1 : Below w.heap.size w W1 := by rw [hW1]; exact (Below.refl _ _).alloc (Nat.le_refl _) _
  have t1 : W1.there w.heap.size 0 32 := by rw [hW1]; simpa using (Row8.new w (List.replicate 32 0) 24).there
  have H1 := h.below b1 hB
  have L := h.len
  have T1 := Lib.hid t1
  have B1 := Lib.hid b1
  have HW1 := Lib.hid hW1
  clear hW1 b1 t1 h
  have hnm : n ≤ 9223372036854775807 := by unfold maxLen at hn; exact hn
  clear hn
  rcases Nat.eq_zero_or_pos n with h0 | h0
  · subst h0
    obtain rfl : l = [] := List.eq_nil_of_length_eq_zero L
    have TZ := Lib.hid (tag_at T1.out zT_len)
    have G1 := T1
    have G2 := T1
    clear L H1
    go_enter Tryd.func11, Tryd.ntmps11
    go_upto_region 1 with fail
    simp only [z32A]
    rw [← HW1.out]
    go_wp2_with (first
      | (have g := G1; clear g; refine wpList_exec (op := ⟨some 6, .build 24 #[], _, _, _, _⟩) rfl (.agg (vals zT).toArray) (by kernel_rfl) ?_; clear G1)
      | (have g := G2; clear g; refine wpList_store_as (op := ⟨none, .store 24 (.tmp 2) (.tmp 6), _, _, _, _⟩) rfl 24 (.tmp 2) (.tmp 6) rfl w.heap.size 0 (vals zT).toArray rfl rfl TZ.out (tag_size zT zT_len) (all_oneCell_toArray (vals_one zT)) ?_; intro w2 hw2; clear G2))
    have R2 : w2.rangeAt w.heap.size 0 (vals zT) := by rw [hw2.out]; exact World.rangeAt_setCells_same _ _ _ _ TZ.out
    have b2 : Below w.heap.size w w2 := by rw [hw2.out]; exact below_setCells (Nat.le_refl _) _ _ _ B1.out
    exact bodyPost_ret (v := .agg (vals zT).toArray) (results_mid (p := 2) (ty := 24) rfl _ _ w.heap.size 0 (vals zT) _ rfl R2 Tryd.underlying24 rfl (tag_size zT zT_len)) rfl ⟨rfl, b2⟩
  · obtain ⟨k, rfl⟩ : ∃ k, n = k + 1 := ⟨n - 1, by omega⟩
    obtain ⟨b, off, g, rfl, hb, HG, hg, hr⟩ := H1.at_ (k := k) (by omega)
    have HS : Hid (headZ l = g.S) := Lib.hid (headZ_last l g (by rw [L, Nat.add_sub_cancel]; exact HG.out))
    have RS := Lib.hid (range_S hr)
    have LS : Hid (g.S.length = 32) := Lib.hid g.hS
    have TZ := Lib.hid (tag_at T1.out LS.out)
    have G1 := T1
    have G2 := T1
    rw [HS.out]
    clear HG hg hr HS L H1
    generalize g.S = T at *
    have e1 : ((k + 1 : Nat) : Int) - 1 = (k : Int) := by omega
    go_enter Tryd.func11, Tryd.ntmps11
    go_upto_region 1 with fail
    simp only [z32A]
    rw [← HW1.out]
    go_wp2_with (first
      | (have g := G1; clear g; refine wpList_load_mid (op := ⟨some 13, .load 24 (.tmp 12), _, _, _, _⟩) rfl 24 (.tmp 12) rfl b (off + k * 71 + 39) rfl (vals T) _ RS.out Tryd.underlying24 rfl (tag_size T LS.out) ?_; clear G1)
      | (have g := G2; clear g; refine wpList_store_as (op := ⟨none, .store 24 (.tmp 2) (.tmp 13), _, _, _, _⟩) rfl 24 (.tmp 2) (.tmp 13) rfl w.heap.size 0 (vals T).toArray rfl rfl TZ.out (tag_size T LS.out) (all_oneCell_toArray (vals_one T)) ?_; intro w2 hw2; clear G2))
    have R2 : w2.rangeAt w.heap.size 0 (vals T) := by rw [hw2.out]; exact World.rangeAt_setCells_same _ _ _ _ TZ.out
    have b2 : Below w.heap.size w w2 := by rw [hw2.out]; exact below_setCells (Nat.le_refl _) _ _ _ B1.out
    exact bodyPost_ret (v := .agg (vals T).toArray) (results_mid (p := 2) (ty := 24) rfl _ _ w.heap.size 0 (vals T) _ rfl R2 Tryd.underlying24 rfl (tag_size T LS.out)) rfl ⟨rfl, b2⟩
end Go.Proofs.YtkaojhcmdichfaaDoor
