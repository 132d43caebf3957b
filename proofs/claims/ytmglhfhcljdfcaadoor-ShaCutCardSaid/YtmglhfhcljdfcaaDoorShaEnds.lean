/- Noughts of two lengths have one tag just where the lengths are one. -/
import Derived.Test.YtmglhfhcljdfcaaDoorShaAwake
import Derived.Test.YtmglhfhcljdfcaaDoorTagEq
import Derived.Deep.DrawnRows
namespace Go.Proofs.YtmglhfhcljdfcaaDoor
open Go.ChangeShapes Go.WideShapes Go.ChangeAt Go.RowKit
set_option linter.unusedVariables false
open Plain Sha
theorem bs_cells {W : World} {g n : Nat} {t : TypeId} {zs : List Int} {fr : Nat × Nat} (h : W.heap[g]? = some (.cells (vals zs).toArray t fr)) (hz : IsBytes zs) (hn : zs.length = n) : Bs W W.heap.size (some ⟨g, 0, none⟩) n zs := by
  refine ⟨hn, fun j hj => hz j (by omega), fun _ => ⟨g, 0, rfl, ?_, fun j hj => ?_⟩⟩
  · rw [Array.getElem?_eq_some_iff] at h; exact h.1
  · have hh : W.cell? ⟨g, 0 + j, none⟩ = (vals zs).toArray[0 + j]? := cell_of_row _ _ _ _ _ _ h
    rw [hh, Nat.zero_add]
    simp [vals, List.getElem?_map, List.getD_eq_getElem?_getD, List.getElem?_eq_getElem (show j < zs.length by omega)]
theorem hp0 {W : World} {c} {g : Nat} (h : W.heap.size = g) : (W.alloc c).heap[g]? = some c := by subst h; exact heap_alloc_new W c
theorem hp1 {W : World} {c d} {g : Nat} (h : W.heap.size = g) : ((W.alloc c).alloc d).heap[g]? = some c := by
  rw [Below.heap_alloc _ _ _ (by simp; omega)]; exact hp0 h
/-- The tag of so many noughts, in a world that has them. -/
theorem sumN {w W : World} (q : Below w.heap.size w W) {g n : Nat} {t : TypeId} {fr : Nat × Nat} (h : W.heap[g]? = some (.cells (vals (List.replicate n 0)).toArray t fr)) (hn : n ≤ 200) (hF : LaidF w) (hK : LaidK w) (T : List Int) (hT : shaZ (List.replicate n 0) = T) (c : Nat) :
    Calls Tryd.prog 14 #[.slice (some ⟨g, 0, none⟩) n c] W fun e w' => e = .returned (.agg (vals T).toArray) ∧ Below W.heap.size W w' ∧ Below w.heap.size w w' ∧ g < W.heap.size := by
  refine (sumB_any c (bs_cells h (noughts_bytes n) (List.length_replicate ..)) (Nat.le_refl _) (by omega) (hF.below q hF.lt) (hK.below q hK.lt)).mono ?_
  rintro e w' ⟨rfl, b⟩
  rw [hT]
  refine ⟨rfl, b, q.trans (b.mono q.size), ?_⟩
  rw [Array.getElem?_eq_some_iff] at h; exact h.1
end Go.Proofs.YtmglhfhcljdfcaaDoor
