/- A reader's tag. -/
import Derived.Test.YtcihbkdpkhhhcaaTagRW
namespace Go.Proofs.Ytcihbkdpkhhhcaa
open Go.ChangeShapes Go.WideShapes Go.ChangeAt Go.RowKit
set_option linter.unusedVariables false
open Plain
theorem rTag_len (s : Int × List Int) : (rTag s).1.length = 32 := by
  unfold rTag tk
  split
  · next h => simp only [id, List.length_take]; have := h.2.1; omega
  · exact List.length_replicate ..
set_option maxRecDepth 100000 in
set_option maxHeartbeats 1000000 in
theorem tag_rd {w : World} {b : Nat} {B : Span} {why : Int} {zs : List Int} (h : Rd w b B why zs) : Calls Try.prog 27 #[.pointer (some ⟨b, 0, none⟩)] w (Reads w b B (.agg (vals (rTag (why, zs)).1).toArray) (rTag (why, zs)).2) := by
  have HC0 : ∀ w, Rd w b B why zs → Calls Try.prog 61 #[.pointer (some ⟨b, 0, none⟩), .int .i64 32, .func (.func 62) #[] #[]] w (Reads w b B (.agg (vals (rTag (why, zs)).1).toArray) (rTag (why, zs)).2) := (by
    intro w h
    unfold rTag
    by_cases hw : why = 0
    · subst hw
      by_cases hk : 32 ≤ zs.length
      · rw [tk_ok _ _ _ _ _ hk rfl]
        exact take_t_ok h hk
      · rw [tk_short _ _ _ _ _ (by omega)]
        exact take_t_short _ _ h (by omega)
    · rw [tk_bad _ _ _ _ _ _ hw]
      refine (take_t_none _ _ why _ hw w (fun w' g => err_any (h.grown g (fun k hk => by cases hk)))).mono ?_
      rintro e w' ⟨rfl, g⟩
      have := h.bad hw
      subst this
      exact ⟨rfl, h.grown g (fun k hk => by cases hk), grown_more g⟩)
  have hlt := h.lt
  obtain ⟨T, hT⟩ : ∃ T, (rTag (why, zs)).1 = T := ⟨_, rfl⟩
  have hl : Hid (T.length = 32) := Lib.hid (by rw [← hT]; exact rTag_len _)
  generalize (rTag (why, zs)).2 = s at *
  rw [hT] at HC0 ⊢
  obtain ⟨W0, hW0⟩ : ∃ W0, w.alloc (.cells (vals ZT).toArray 28) = W0 := ⟨_, rfl⟩
  have R0 : Row8 W0 w.heap.size 0 ZT := by rw [← hW0]; exact Row8.new w ZT _
  have g0 : w.grownBy W0 none := by rw [← hW0]; exact grown_alloc _ _ _
  have s0 : W0.heap.size = w.heap.size + 1 := by rw [← hW0]; simp
  have HC := Lib.hid (HC0 W0 (h.grown g0 (fun k hk => by cases hk)))
  have HW0 := Lib.hid hW0
  have HR0 := Lib.hid R0
  have HG0 := Lib.hid g0
  clear h HC0 hT hW0 R0 g0
  go_enter Try.func27, Try.ntmps27
  go_wp2_with fail
  refine (show Calls Try.prog _ _ (w.alloc (.cells (vals ZT).toArray 28)) _ from ?_)
  rw [HW0.out]
  refine HC.out.mono ?_
  rintro e w2 ⟨rfl, r2, g2⟩
  have R2 : Row8 w2 w.heap.size 0 ZT := HR0.out.same (g2.block _ (by omega) (by intro e; injection e with e; omega))
  obtain ⟨a3, g3⟩ := tag_stored (T := T) R2 (by rw [hl.out]; rfl) (grown_trans (grown_more HG0.out) g2) (Nat.le_refl _)
  have r3 := r2.below (B' := w.heap.size) (below_setCells (Nat.le_refl _) (vals T) 0 w2 (Below.refl _ _)) hlt
  have e32 : (vals T).toArray.size = 32 := by rw [List.size_toArray, vals_len, hl.out]
  have T3 : Hid (w2.there w.heap.size 0 (vals T).toArray.size) := Lib.hid (by rw [e32]; exact R2.there)
  have HI : Hid ((Try.prog.info? 28).map (·.size) = some (vals T).length) := Lib.hid (tag_size T hl.out)
  have A3 := Lib.hid a3
  have G3 := Lib.hid g3
  have R3 := Lib.hid r3
  clear R2 a3 g3 r3 e32 r2 g2
  have G := HI
  go_wp2_with (have g := G; clear g; refine wpList_store_as (op := ⟨none, .store 28 (.tmp 2) (.tmp 4), _, _, _, _⟩) rfl 28 (.tmp 2) (.tmp 4) rfl w.heap.size 0 (vals T).toArray rfl rfl T3.out HI.out (all_oneCell_toArray (vals_one T)) ?_; intro w5 hw5; clear G)
  have e2 := hw5.out
  have r2 : w5.rangeAt w.heap.size 0 (vals T) := by rw [e2]; exact A3.out
  exact bodyPost_ret (v := .agg (vals T).toArray) (results_mid (p := 2) (ty := 28) rfl _ _ w.heap.size 0 (vals T) _ rfl r2 Try.underlying28 rfl HI.out) rfl ⟨rfl, by rw [e2]; exact R3.out, by rw [e2]; exact G3.out⟩
end Go.Proofs.Ytcihbkdpkhhhcaa
