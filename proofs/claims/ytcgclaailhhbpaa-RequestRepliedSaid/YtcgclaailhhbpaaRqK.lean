/- What is read, into a variable: the reader, the variable's cells, the token. -/
import Derived.Test.YtcgclaailhhbpaaRqW
import Derived.Test.YtcgclaailhhbpaaB4
import Derived.Test.YtcgclaailhhbpaaB5
namespace Go.Proofs.Ytcgclaailhhbpaa
open Go.ChangeShapes Go.WideShapes Go.ChangeAt Go.RowKit
set_option linter.unusedVariables false
set_option maxRecDepth 100000
open Plain Sha Au Rp Rq
namespace Rq
/-- What is read of a request, one field behind the other. -/
def reqR (s : Int × List Int) : ReqZ × Int × List Int :=
  let a := rByte s
  let b := rBytes a.2
  let c := rBytes b.2
  let d := rBytes c.2
  let e := rBytes d.2
  let f := rInt e.2
  let g := rInt f.2
  let h := rInt g.2
  let i := rInt h.2
  let j := rByte i.2
  let k := rInt j.2
  let l := rInt k.2
  (⟨a.1, b.1, strOfNums c.1, strOfNums d.1, strOfNums e.1, f.1, g.1, h.1, i.1, j.1, k.1, l.1⟩, l.2)
/-- What is read of bytes. -/
def z0 : ReqZ := ⟨0, [], ByteArray.empty, ByteArray.empty, ByteArray.empty, 0, 0, 0, 0, 0, 0, 0⟩
def parseQ (bs : List Int) : ReqZ × Int :=
  if 1024 < bs.length then (z0, 3) else if endZ (reqR (0, bs)).2.1 (reqR (0, bs)).2.2 = 0 ∧ mayB (reqR (0, bs)).1 = true then ((reqR (0, bs)).1, 0) else (z0, 150)
end Rq
open Rq
/-- A reader R at block b whose bytes stand in the blocks of B; a variable at block r, that holds k cells; a list of bytes. -/
structure PS (R : World → Int × List Int → Prop) (w0 w : World) (r b m k : Nat) (s : Int × List Int) (cs : List Value) (T : Value) (zt : List Int) : Prop where
  rd : R w s
  box : VBox w r k cs
  below : Below w0.heap.size w0 w
  lo : w0.heap.size ≤ r
  rb : r ≠ b
  rm : r < m
  bm : b < m
  ms : m ≤ w.heap.size
  bl : w0.heap.size ≤ b
  keep : ∀ (v v' : World) (s : Int × List Int) (q : Option Nat), R v s → v.grownBy v' q → (∀ j, q = some j → j = r ∨ m ≤ j) → R v' s
  tok : IsList T w m zt
theorem IsList.keep {w w' : World} {T : Value} {base : Nat} {zs : List Int} (h : IsList T w base zs) (hk : ∀ g, base ≤ g → g < w.heap.size → w'.heap[g]? = w.heap[g]?) : IsList T w' base zs := by
  obtain ⟨A, c, e, ho, h1, h2⟩ := h
  exact ⟨A, c, e, own_keepB ho hk, h1, h2⟩
theorem IsList.base {w : World} {T : Value} {base base' : Nat} {zs : List Int} (h : IsList T w base zs) (hb : base' ≤ base) : IsList T w base' zs := by
  obtain ⟨A, c, e, ho, h1, h2⟩ := h
  exact ⟨A, c, e, own_base ho hb, h1, h2⟩
section
variable {R : World → Int × List Int → Prop} {w0 w w' : World} {r b m k : Nat} {s s' : Int × List Int} {cs : List Value} {T : Value} {zt : List Int}
/-- The reader has gone on. -/
theorem PS.read (h : PS R w0 w r b m k s cs T zt) (hr : R w' s') (hg : w.grownBy w' (some b)) : PS R w0 w' r b m k s' cs T zt := by
  have hb := h.bm
  have hm := h.ms
  have hr' := h.rm
  refine ⟨hr, h.box.same (hg.block r (by omega) (fun e => by injection e with e; exact h.rb e)), h.below.trans (below_of_grown hg h.below.size (fun j hj => by injection hj with hj; have := h.bl; omega)), h.lo, h.rb, h.rm, h.bm, Nat.le_trans hm hg.size, h.bl, h.keep, h.tok.keep (fun g h1 h2 => hg.block g h2 (fun e => by injection e with e; omega))⟩
/-- The list that it has read. -/
theorem PS.list (h : PS R w0 w r b m k s cs T zt) {T' : Value} {zt' : List Int} (ht : IsList T' w m zt') : PS R w0 w r b m k s cs T' zt' := ⟨h.rd, h.box, h.below, h.lo, h.rb, h.rm, h.bm, h.ms, h.bl, h.keep, ht⟩
theorem set_mid (cs : List Value) (i : Nat) (v : Value) (hi : i < cs.length) : cs.set i v = cs.take i ++ [v] ++ cs.drop (i + 1) := by
  rw [List.set_eq_take_append_cons_drop, if_pos hi]; simp
theorem VBox.set {cs : List Value} (h : VBox w r k cs) {i : Nat} (hi : i < k) (v : Value) : VBox (w.setCell ⟨r, i, none⟩ v) r k (cs.set i v) := by
  have hl := h.len
  have hc : w.cell? ⟨r, i, none⟩ = some cs[i] := by
    have := h.range i cs[i] (List.getElem?_eq_getElem (by omega))
    rwa [Nat.zero_add] at this
  refine ⟨fun j u hu => ?_, fun j hj => ?_, by rw [List.length_set]; exact hl, h.pos⟩
  · rw [Nat.zero_add]
    by_cases e : j = i
    · subst e
      rw [List.getElem?_set_self (by omega)] at hu
      injection hu with hu; subst hu
      exact World.cell?_setCell_same _ _ _ hc
    · rw [List.getElem?_set_ne (fun h => e h.symm)] at hu
      rw [World.cell?_setCell_other _ _ _ _ (by intro h; injection h with h1 h2; exact e h2.symm)]
      have := h.range j u hu
      rwa [Nat.zero_add] at this
  · obtain ⟨h1, h2⟩ := h.there j hj
    refine ⟨?_, by rw [World.frozen?_setCell]; exact h2⟩
    rw [Nat.zero_add] at h1 ⊢
    by_cases e : j = i
    · subst e; rw [World.cell?_setCell_same _ _ _ hc]; rfl
    · rw [World.cell?_setCell_other _ _ _ _ (by intro h; injection h with h1 h2; exact e h2.symm)]; exact h1
theorem PS.set (h : PS R w0 w r b m k s cs T zt) {i : Nat} (hi : i < k) (v : Value) : PS R w0 (w.setCell ⟨r, i, none⟩ v) r b m k s (cs.set i v) T zt := by
  refine ⟨h.keep w _ s (some r) h.rd (grown_cell w ⟨r, i, none⟩ v) (fun j hj => by injection hj with hj; exact .inl hj.symm), h.box.set hi v, h.below.setCell (p := ⟨r, i, none⟩) h.lo v, h.lo, h.rb, h.rm, h.bm, by simpa [World.setCell] using h.ms, h.bl, h.keep, h.tok.keep (fun g h1 h2 => heap_setCell _ _ _ _ _ (by have := h.rm; omega))⟩
/-- What the walk is told of a cell. -/
theorem PS.cell (h : PS R w0 w r b m k s cs T zt) (i : Nat) {v : Value} (hv : cs[i]? = some v) : w.cell? ⟨r, i, none⟩ = some v ∧ w.frozen? ⟨r, i, none⟩ = false := by
  have h1 := h.box.range i v hv
  have hi : i < k := by rw [← h.box.len]; exact (List.getElem?_eq_some_iff.1 hv).1
  have h2 := (h.box.there i hi).2
  rw [Nat.zero_add] at h1 h2
  exact ⟨h1, h2⟩
theorem PS.drew (h : PS R w0 w r b m k s cs T zt) (n : Nat) : PS R w0 (w.drewN n) r b m k s cs T zt :=
  ⟨h.keep w _ s none h.rd (grown_drewN w n none) (fun j hj => by cases hj), h.box.same rfl, below_drewN h.below n, h.lo, h.rb, h.rm, h.bm, h.ms, h.bl, h.keep, h.tok.keep (fun g h1 h2 => rfl)⟩
end
/-- The program's reader, the document's. -/
def RdP (b : Nat) (B : Span) (w : World) (s : Int × List Int) : Prop := Rd w b B s.1 s.2
def RdD (b B : Nat) (w : World) (s : Int × List Int) : Prop := Rr w b B s
theorem rdP_keep {r b m : Nat} {B : Span} (hlo : r < B.lo) (hb : B.lo ≤ b) (hm : b < m) (v v' : World) (s : Int × List Int) (q : Option Nat) (h : RdP b B v s) (hg : v.grownBy v' q) (hq : ∀ j, q = some j → j = r ∨ m ≤ j) : RdP b B v' s :=
  Rd.grown h hg (fun j hj => by
    rcases hq j hj with e | e
    · exact ⟨by omega, .inr (.inl (by omega))⟩
    · exact ⟨by omega, .inl (by omega)⟩)
theorem rdD_keep {r b m B : Nat} (hlo : B ≤ r) (hb : r ≠ b) (hB : B ≤ b) (hm : b < m) (v v' : World) (s : Int × List Int) (q : Option Nat) (h : RdD b B v s) (hg : v.grownBy v' q) (hq : ∀ j, q = some j → j = r ∨ m ≤ j) : RdD b B v' s :=
  Rr.grown h hg (fun j hj => by
    rcases hq j hj with e | e
    · exact ⟨by omega, by omega⟩
    · exact ⟨by omega, by omega⟩)
end Go.Proofs.Ytcgclaailhhbpaa
