/- Arrays of numbers of 32 bits in blocks of their own: read whole, read and written cell by cell. -/
import Derived.Test.YtcihbkdpkhhhcaaSha
import Derived.Test.YtcihbkdpkhhhcaaBits
import Derived.Deep.MidRow
import Derived.Laws.ShiftsVarLaws
import Derived.Laws.ResultCell
namespace Go.Proofs.Ytcihbkdpkhhhcaa
open Go.ChangeShapes Go.WideShapes Go.ChangeAt Go.RowKit
set_option linter.unusedVariables false
open Plain Sha
/-- Block b holds the numbers l from its head on, and they may be written. -/
structure Row32 (w : World) (b : Nat) (l : List Nat) : Prop where
  cells : ∀ j, j < l.length → w.cell? ⟨b, j, none⟩ = some (.int .u32 ((l.getD j 0 : Nat) : Int))
  free : ∀ j, j < l.length → w.frozen? ⟨b, j, none⟩ = false
section
variable {w w' : World} {b B : Nat} {l : List Nat}
theorem Row32.lt (h : Row32 w b l) (hl : 0 < l.length) : b < w.heap.size := World.block_lt_of_cell? _ _ (h.cells 0 hl)
theorem Row32.alloc (h : Row32 w b l) (hl : 0 < l.length) (o : Obj) : Row32 (w.alloc o) b l :=
  ⟨fun j hj => by rw [World.cell?_alloc_lt _ _ _ (h.lt hl)]; exact h.cells j hj, fun j hj => by rw [World.frozen?_alloc_past _ _ _ (h.lt hl)]; exact h.free j hj⟩
theorem Row32.below (h : Row32 w b l) (hb : Below B w w') (hB : b < B) : Row32 w' b l :=
  ⟨fun j hj => (hb.cell (p := ⟨b, j, none⟩) hB).trans (h.cells j hj), fun j hj => (hb.frozen (p := ⟨b, j, none⟩) hB).trans (h.free j hj)⟩
theorem Row32.drewN (h : Row32 w b l) (n : Nat) : Row32 (w.drewN n) b l := ⟨h.1, h.2⟩
theorem Row32.drew (h : Row32 w b l) : Row32 w.drew b l := ⟨h.1, h.2⟩
theorem Row32.other (h : Row32 w b l) {p : Addr} (hp : p.block ≠ b) (u : Value) : Row32 (w.setCell p u) b l :=
  ⟨fun j hj => by rw [World.cell?_setCell_other w p _ u (fun e => by subst e; exact hp rfl)]; exact h.cells j hj, fun j hj => by rw [World.frozen?_setCell]; exact h.free j hj⟩
theorem Row32.set (h : Row32 w b l) (k x : Nat) (hk : k < l.length) : Row32 (w.setCell ⟨b, k, none⟩ (.int .u32 (x : Int))) b (l.set k x) := by
  refine ⟨fun j hj => ?_, fun j hj => ?_⟩
  · rw [List.length_set] at hj
    rw [getD_setN l k j x hk]
    split
    · next e => subst e; exact World.cell?_setCell_same _ _ _ (h.cells k hk)
    · next e => rw [World.cell?_setCell_other _ _ _ _ (fun e' => by injection e' with _ e2; exact e e2)]; exact h.cells j hj
  · rw [List.length_set] at hj
    rw [World.frozen?_setCell]; exact h.free j hj
theorem Row32.new (w : World) (l : List Nat) (t : TypeId) : Row32 (w.alloc (.cells (u32s l).toArray t)) w.heap.size l := by
  refine ⟨fun j hj => ?_, fun j hj => ?_⟩
  · rw [cell_of_row _ _ _ _ _ _ (heap_alloc_new w _)]
    simpa using u32s_at l j hj
  · exact frozen_of_row _ _ _ _ _ (heap_alloc_new w _)
theorem Row32.range (h : Row32 w b l) : w.rangeAt b 0 (u32s l) := fun j v hv => by
  have hj : j < l.length := by have := (List.getElem?_eq_some_iff.1 hv).1; rwa [u32s_len] at this
  rw [u32s_at l j hj] at hv
  rw [Nat.zero_add, h.cells j hj, hv]
theorem Row32.there (h : Row32 w b l) : w.there b 0 l.length := fun j hj => by
  rw [Nat.zero_add, h.cells j hj]; exact ⟨rfl, h.free j hj⟩
theorem Row32.thereFor (h : Row32 w b l) {r : List Nat} (hr : r.length = l.length) : w.there b 0 (u32s r).toArray.size := by
  have e : (u32s r).toArray.size = l.length := by rw [List.size_toArray, u32s_len, hr]
  rw [e]; exact h.there
theorem Row32.of_range (h : w.rangeAt b 0 (u32s l)) (ht : w.there b 0 l.length) : Row32 w b l :=
  ⟨fun j hj => by have := h j _ (u32s_at l j hj); rwa [Nat.zero_add] at this, fun j hj => by have := (ht j hj).2; rwa [Nat.zero_add] at this⟩
/-- The whole row is stored anew. -/
theorem Row32.store (h : Row32 w b l) {r : List Nat} (hr : r.length = l.length) : Row32 (w.setCells b 0 (u32s r)) b r := by
  have ht : w.there b 0 (u32s r).length := by rw [u32s_len, hr]; exact h.there
  exact .of_range (World.rangeAt_setCells_same w b 0 _ ht) (by rw [u32s_len] at ht; exact World.there_setCells ht _ _ _)
theorem Row32.storeOther (h : Row32 w b l) (b' o : Nat) (vs : List Value) (hb : b' ≠ b) : Row32 (w.setCells b' o vs) b l :=
  .of_range (World.rangeAt_setCells_apart h.range _ _ _ (.inl (fun e => hb e.symm))) (World.there_setCells h.there _ _ _)
theorem Row32.cell (h : Row32 w b l) {j : Nat} (hj : j < l.length) : ∃ x : Nat, Hid (l.getD j 0 = x) ∧ w.cell? ⟨b, j, none⟩ = some (.int .u32 (x : Int)) := ⟨_, rfl, h.cells j hj⟩
end
theorem below_setCells {B : Nat} {a : World} {b : Nat} (hb : B ≤ b) : ∀ (vs : List Value) (o : Nat) (w : World), Below B a w → Below B a (w.setCells b o vs)
  | [], _, _, h => h
  | v :: r, o, w, h => by rw [World.setCells]; exact below_setCells hb r (o + 1) _ (h.setCell (p := ⟨b, o, none⟩) hb v)
/-- A whole array is stored; the world behind it has a name of its own. -/
theorem wpList_store_as {P : Program} {ops : Array Oper} {rest : List Oper} {op : Oper} {a : Act} {w : World} {Q : Exit → Act → World → Prop} (hgd : op.guard = none) (ty : TypeId) (x y : Operand) (ho : op.op = .store ty x y)
    (b o : Nat) (cells : Array Value) (hx : a.eval x = .pointer (some ⟨b, o, none⟩)) (hy : a.eval y = .agg cells)
    (ht : w.there b o cells.size) (hi : (P.info? ty).map (·.size) = some cells.size) (h1 : cells.all (·.oneCell') = true)
    (h : ∀ w', Hid (w' = w.setCells b o cells.toList) → wpList P ops Q rest (a.put op.dst undef) w') : wpList P ops Q (op :: rest) a w :=
  wpList_store_mid hgd ty x y ho b o cells hx hy ht hi h1 (h _ (Lib.hid rfl))
theorem u32s_all (l : List Nat) : (u32s l).toArray.all (·.oneCell') = true := all_oneCell_toArray (u32s_one l)
/-- A result that is an array, in a cell of its own. -/
theorem results_mid {P : Program} {fn : Func} {p : Tmp} {ty : TypeId} (h : fn.results = #[.cell p ty]) (tmps : Array Value) (w : World) (b o : Nat) (cs : List Value) (d : TypeDesc)
    (hp : tmps.getD p undef = .pointer (some ⟨b, o, none⟩)) (hc : w.rangeAt b o cs) (hu : P.underlying ty = some d) (hd : d.isRow = true) (hi : (P.info? ty).map (·.size) = some cs.length) :
    (results fn tmps).run P w = .ok (.agg cs.toArray) w := by
  have hp' : tmps[p]?.getD undef = .pointer (some ⟨b, o, none⟩) := by simpa using hp
  simp [results, h, hp', asAddr, run_loadVar_mid w b o ty cs d hc hu hd hi]
theorem results_mid_tmp {P : Program} {fn : Func} {p u : Tmp} {ty : TypeId} (h : fn.results = #[.cell p ty, .tmp u]) (tmps : Array Value) (w : World) (b o : Nat) (cs : List Value) (d : TypeDesc)
    (hp : tmps.getD p undef = .pointer (some ⟨b, o, none⟩)) (hc : w.rangeAt b o cs) (hu : P.underlying ty = some d) (hd : d.isRow = true) (hi : (P.info? ty).map (·.size) = some cs.length) :
    (results fn tmps).run P w = .ok (.tuple #[.agg cs.toArray, tmps.getD u undef]) w := by
  rw [results_cell_tmp h, hp]
  simp [asAddr, run_loadVar_mid w b o ty cs d hc hu hd hi]
end Go.Proofs.Ytcihbkdpkhhhcaa
