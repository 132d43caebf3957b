/- Helpers of stage 10's laws: rows of numbers that are stored into, cut, copied. -/
import Derived.Test.YtmeafjehcckibaaRvAny
namespace Go.Proofs.Ytmeafjehcckibaa
open Go.ChangeShapes Go.WideShapes Go.ChangeAt Go.RowKit
set_option linter.unusedVariables false
set_option linter.unusedSimpArgs false
open Plain
section
variable {w w' : World} {base n c : Nat} {A : Option Addr} {zs : List Int}
theorem ownI_at (h : w.ownsRow base 3 1 (.slice A n c) n (ivs zs)) {k : Nat} (hk : k < n) :
    ∃ g u, A = some ⟨g, 0, none⟩ ∧ base ≤ g ∧ g < w.heap.size ∧ w.cell? ⟨g, k, none⟩ = some (.int .i64 u) ∧ w.frozen? ⟨g, k, none⟩ = false ∧
      Hid (∀ z : Int, (w.setCell ⟨g, k, none⟩ (.int .i64 z)).ownsRow base 3 1 (.slice A n c) n (ivs (zs.set k z))) := by
  have hl : zs.length = n := by have := h.1; rw [ivs_len] at this; omega
  obtain ⟨g, cap, hv, hg, hlt⟩ := h.form (by omega)
  injection hv with e1 e2 e3
  subst e1
  refine ⟨g, zs.getD k 0, rfl, hg, hlt, ?_, h.frozenAt k, fun z => ?_⟩
  · rw [h.cellAt k (by omega), ivs_at _ _ (by omega)]
  · have := (h.stored k (.int .i64 z)).1
    simpa [ivs, List.map_set] using this
/-- A row whose numbers are open. -/
def OwnI (w : World) (base : Nat) (A : Option Addr) (n c : Nat) : Prop := ∃ zs, w.ownsRow base 3 1 (.slice A n c) n (ivs zs)
theorem OwnI.at_ (h : OwnI w base A n c) {k : Nat} (hk : k < n) :
    ∃ g u, A = some ⟨g, 0, none⟩ ∧ base ≤ g ∧ g < w.heap.size ∧ w.cell? ⟨g, k, none⟩ = some (.int .i64 u) ∧ w.frozen? ⟨g, k, none⟩ = false ∧
      Hid (∀ z : Int, OwnI (w.setCell ⟨g, k, none⟩ (.int .i64 z)) base A n c) := by
  obtain ⟨zs, h⟩ := h
  obtain ⟨g, u, h1, h2, h3, h4, h5, h6⟩ := ownI_at h hk
  exact ⟨g, u, h1, h2, h3, h4, h5, Lib.hid fun z => ⟨_, h6.out z⟩⟩
theorem Ir.front {B m : Nat} {ys : List Int} (h : Ir w B A m (zs ++ ys)) (hn : zs.length = n) : Ir w B A n zs := by
  have hl := h.len
  rw [List.length_append] at hl
  refine ⟨hn, fun h0 => ?_⟩
  obtain ⟨b, off, rfl, hb, hc⟩ := h.row (by omega)
  refine ⟨b, off, rfl, hb, fun j hj => ?_⟩
  rw [hc j (by omega)]
  simp [List.getD_eq_getElem?_getD, List.getElem?_append_left (show j < zs.length by omega)]
theorem Ir.back {B m k : Nat} {y : Int} {ys : List Int} (h : Ir w B A m (zs ++ ys)) (hn : zs.length = n) (hk : n + k < m) (hy : ys.getD k 0 = y) : ∃ b off, A = some ⟨b, off, none⟩ ∧ b < B ∧ w.cell? ⟨b, off + (n + k), none⟩ = some (.int .i64 y) := by
  obtain ⟨b, off, rfl, hb, hc⟩ := h.row (by omega)
  refine ⟨b, off, rfl, hb, ?_⟩
  rw [hc _ hk, ← hy]
  simp [List.getD_eq_getElem?_getD, List.getElem?_append_right (show zs.length ≤ n + k by omega), hn]
end
theorem Ir.keepQ {w w' : World} {B n : Nat} {A : Option Addr} {zs : List Int} (h : Ir w B A n zs) (hq : ∃ m, w' = w.drewN m) : Ir w' B A n zs := by
  obtain ⟨m, rfl⟩ := hq
  exact h.drewN m
theorem eqB_self10 (zs : List Int) : eqB zs zs = true := by simp [eqB]
theorem addP_short (zs : List Int) (x : Int) : (addP zs x).1.length ≤ 32 := by rw [← add_un]; exact unP_len _ _
end Go.Proofs.Ytmeafjehcckibaa
