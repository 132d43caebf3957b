/- Rows of bytes that a call owns, whatever they hold: kept, read, written. -/
import Derived.Test.YtpnjojkjepblaaaDoorWords
namespace Go.Proofs.YtpnjojkjepblaaaDoor
open Go.ChangeShapes Go.WideShapes Go.ChangeAt Go.RowKit
set_option linter.unusedVariables false
open Plain
theorem own_below {w w' : World} {base B n size : Nat} {t : TypeId} {v : Value} {xs : List Value} (h : w.ownsRow base t size v n xs) (hb : Below B w w') (hB : w.heap.size ≤ B) : w'.ownsRow base t size v n xs := by
  have hlt := h.lt
  obtain ⟨h1, h2⟩ := h
  refine ⟨h1, ?_⟩
  rcases h2 with h2 | ⟨g, cap, cur, hv, hg, hh, r⟩
  · exact .inl h2
  · subst hv
    have := (hlt g rfl).2
    exact .inr ⟨g, cap, cur, rfl, hg, (hb.block g (by omega)).trans hh, r⟩
theorem own_base {w : World} {base base' n size : Nat} {t : TypeId} {v : Value} {xs : List Value} (h : w.ownsRow base t size v n xs) (hb : base' ≤ base) : w.ownsRow base' t size v n xs := by
  obtain ⟨h1, h2⟩ := h
  refine ⟨h1, ?_⟩
  rcases h2 with h2 | ⟨g, cap, cur, hv, hg, r⟩
  · exact .inl h2
  · exact .inr ⟨g, cap, cur, hv, by omega, r⟩
/-- The slice (A, n, c) owns a row of bytes, from block base on. -/
def Own (w : World) (base : Nat) (A : Option Addr) (n c : Nat) : Prop := ∃ zs, zs.length = n ∧ IsBytes zs ∧ w.ownsRow base 5 1 (.slice A n c) n (vals zs)
section
variable {w w' : World} {base n c : Nat} {A : Option Addr}
theorem Own.of {zs : List Int} (h : w.ownsRow base 5 1 (.slice A n c) n (vals zs)) (hb : IsBytes zs) : Own w base A n c :=
  ⟨zs, by have := h.1; rw [vals_len] at this; omega, hb, h⟩
theorem Own.below {B : Nat} (h : Own w base A n c) (hb : Below B w w') (hB : w.heap.size ≤ B) : Own w' base A n c := by
  obtain ⟨zs, hl, hz, ho⟩ := h
  exact ⟨zs, hl, hz, own_below ho hb hB⟩
theorem Own.drewN (h : Own w base A n c) (k : Nat) : Own (w.drewN k) base A n c := h
theorem Own.far (h : Own w base A n c) {p : Addr} (hp : p.block < base) (u : Value) : Own (w.setCell p u) base A n c := by
  obtain ⟨zs, hl, hz, ho⟩ := h
  exact ⟨zs, hl, hz, ownsRow_setCell_below ho hp u⟩
theorem Own.lt (h : Own w base A n c) : ∀ a, A = some a → base ≤ a.block ∧ a.block < w.heap.size := by
  obtain ⟨zs, hl, hz, ho⟩ := h
  rintro a rfl
  exact ho.lt a.block rfl
theorem Own.at_ (h : Own w base A n c) {k : Nat} (hk : k < n) :
    ∃ g u, A = some ⟨g, 0, none⟩ ∧ base ≤ g ∧ g < w.heap.size ∧ 0 ≤ u ∧ u < 256 ∧ w.cell? ⟨g, k, none⟩ = some (.int .u8 u) ∧ w.frozen? ⟨g, k, none⟩ = false ∧
      Hid (∀ z : Int, 0 ≤ z → z < 256 → Own (w.setCell ⟨g, k, none⟩ (.int .u8 z)) base A n c) := by
  obtain ⟨zs, hl, hz, ho⟩ := h
  obtain ⟨g, cap, hv, hg, hlt⟩ := ho.form (by omega)
  injection hv with e1 e2 e3
  subst e1
  refine ⟨g, zs.getD k 0, rfl, hg, hlt, (hz k (by omega)).1, (hz k (by omega)).2, ?_, ho.frozenAt k, ?_⟩
  · rw [ho.cellAt k (by omega)]
    simp [vals, List.getElem?_map, List.getD_eq_getElem?_getD, List.getElem?_eq_getElem (show k < zs.length by omega)]
  · intro z h0 h1
    refine ⟨zs.set k z, by simpa using hl, ?_, ?_⟩
    · intro j hj
      rw [List.length_set] at hj
      rw [getD_set _ _ _ _ (by omega)]
      split
      · exact ⟨h0, h1⟩
      · exact hz j hj
    · have := (ho.stored k (.int .u8 z)).1
      simpa [vals, List.map_set] using this
end
end Go.Proofs.YtpnjojkjepblaaaDoor
