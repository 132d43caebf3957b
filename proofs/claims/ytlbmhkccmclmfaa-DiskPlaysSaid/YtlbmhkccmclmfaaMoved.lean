/- What may move in a call: the blocks of a set, and new ones. Lists of bytes, and rows of lists, that stand in the blocks of a set. -/
import Derived.Test.YtlbmhkccmclmfaaOwn
import Derived.Test.YtlbmhkccmclmfaaCuts
import Derived.Maps.AppendAt
namespace Go.Proofs.Ytlbmhkccmclmfaa
open Go.ChangeShapes Go.WideShapes Go.ChangeAt Go.RowKit
set_option linter.unusedVariables false
/-- But for the blocks of F all stands as it stood. -/
structure Moved (F : Nat → Prop) (w w' : World) : Prop where
  os : w'.os = w.os
  tape : w'.tape = w.tape
  output : w'.output = w.output
  size : w.heap.size ≤ w'.heap.size
  block : ∀ k, k < w.heap.size → ¬ F k → w'.heap[k]? = w.heap[k]?
/-- The blocks of G are of F, or newer than w. -/
def Newer (w : World) (F G : Nat → Prop) : Prop := ∀ k, G k → F k ∨ w.heap.size ≤ k
section
variable {w w1 w2 : World} {F G H : Nat → Prop}
theorem Newer.refl (w : World) (F : Nat → Prop) : Newer w F F := fun k h => .inl h
theorem Newer.trans (h : Newer w F G) (k : Newer w1 G H) (hs : w.heap.size ≤ w1.heap.size) : Newer w F H := fun i hi => by
  rcases k i hi with h1 | h1
  · exact h i h1
  · exact .inr (Nat.le_trans hs h1)
theorem Moved.refl (F : Nat → Prop) (w : World) : Moved F w w := ⟨rfl, rfl, rfl, Nat.le_refl _, fun _ _ _ => rfl⟩
theorem Moved.trans (h : Moved F w w1) (k : Moved G w1 w2) (hn : Newer w F G) : Moved F w w2 :=
  ⟨k.os.trans h.os, k.tape.trans h.tape, k.output.trans h.output, Nat.le_trans h.size k.size, fun i hi hF => (k.block i (Nat.lt_of_lt_of_le hi h.size) (fun hG => by
    rcases hn i hG with h1 | h1
    · exact hF h1
    · omega)).trans (h.block i hi hF)⟩
theorem Moved.then (h : Moved F w w1) (k : Moved F w1 w2) : Moved F w w2 := h.trans k (Newer.refl _ _)
theorem Moved.grown {r : Option Nat} (h : w.grownBy w1 r) (hr : ∀ k, r = some k → F k) : Moved F w w1 :=
  ⟨h.os, h.tape, h.output, h.size, fun k hk hF => h.block k hk (fun e => hF (hr k e.symm))⟩
theorem Moved.of_below (F : Nat → Prop) (h : Below w.heap.size w w1) : Moved F w w1 := ⟨h.os, h.tape, h.output, h.size, fun k hk _ => h.block k hk⟩
theorem Moved.below {B : Nat} (h : Moved F w w1) (hB : B ≤ w.heap.size) (hF : ∀ k, F k → B ≤ k) : Below B w w1 :=
  ⟨h.os, h.tape, h.output, h.size, fun k hk => h.block k (by omega) (fun hf => by have := hF k hf; omega)⟩
theorem Moved.cell (F : Nat → Prop) (w : World) (p : Addr) (v : Value) (hF : F p.block) : Moved F w (w.setCell p v) :=
  ⟨rfl, rfl, rfl, by simp [World.setCell], fun k _ hn => Below.heap_setCell _ _ _ _ (fun e => hn (by rw [e]; exact hF))⟩
theorem Moved.drew (F : Nat → Prop) (w : World) : Moved F w w.drew := ⟨rfl, rfl, rfl, Nat.le_refl _, fun _ _ _ => rfl⟩
theorem Moved.drewN (F : Nat → Prop) (w : World) (n : Nat) : Moved F w (w.drewN n) := ⟨rfl, rfl, rfl, Nat.le_refl _, fun _ _ _ => rfl⟩
theorem Moved.alloc (F : Nat → Prop) (w : World) (o : Obj) : Moved F w (w.alloc o) := ⟨rfl, rfl, rfl, by simp, fun k hk _ => Below.heap_alloc _ _ _ hk⟩
theorem Moved.cell? (h : Moved F w w1) (p : Addr) (hp : p.block < w.heap.size) (hF : ¬ F p.block) : w1.cell? p = w.cell? p := World.cell?_of_block (h.block _ hp hF)
theorem Moved.more (h : Moved F w w1) (hF : ∀ k, F k → k < w.heap.size → G k) : Moved G w w1 := ⟨h.os, h.tape, h.output, h.size, fun k hk hn => h.block k hk (fun hf => hn (hF k hf hk))⟩
/-- A row that somebody owns stays where its block stays. -/
theorem own_same {base n size : Nat} {t : TypeId} {v : Value} {xs : List Value} (h : w.ownsRow base t size v n xs) (hk : ∀ g, v.ownBlock = some g → w1.heap[g]? = w.heap[g]?) : w1.ownsRow base t size v n xs := by
  obtain ⟨h1, h2 | ⟨g, cap, cur, rfl, hg, hh, h3⟩⟩ := h
  · exact ⟨h1, .inl h2⟩
  · exact ⟨h1, .inr ⟨g, cap, cur, rfl, hg, (hk g rfl).trans hh, h3⟩⟩
theorem own_from {base base' n size : Nat} {t : TypeId} {v : Value} {xs : List Value} (h : w.ownsRow base t size v n xs) (hk : ∀ g, v.ownBlock = some g → base' ≤ g) : w.ownsRow base' t size v n xs := by
  obtain ⟨h1, h2 | ⟨g, cap, cur, rfl, hg, hh, h3⟩⟩ := h
  · exact ⟨h1, .inl h2⟩
  · exact ⟨h1, .inr ⟨g, cap, cur, rfl, hk g rfl, hh, h3⟩⟩
end
/-- A list of bytes that stands somewhere. -/
structure PieceZ where
  A : Option Addr
  n : Nat
  c : Nat
  zs : List Int
def pval (p : PieceZ) : Value := .slice p.A p.n p.c
/-- In w it reads as its bytes; they stand in blocks of F. -/
structure Stands (w : World) (F : Nat → Prop) (p : PieceZ) : Prop where
  len : p.zs.length = p.n
  bytes : IsBytes p.zs
  cap : p.n ≤ p.c
  max : p.c ≤ maxLen
  row : 0 < p.n → ∃ g off, p.A = some ⟨g, off, none⟩ ∧ F g ∧ ∀ j, j < p.n → w.cell? ⟨g, off + j, none⟩ = some (.int .u8 (p.zs.getD j 0))
section
variable {w w1 : World} {F G : Nat → Prop} {p : PieceZ}
theorem Stands.keep (h : Stands w F p) (hk : ∀ k, F k → k < w.heap.size → w1.heap[k]? = w.heap[k]?) : Stands w1 F p :=
  ⟨h.len, h.bytes, h.cap, h.max, fun hn => by
    obtain ⟨g, off, e, hg, hc⟩ := h.row hn
    refine ⟨g, off, e, hg, fun j hj => ?_⟩
    have := hc j hj
    rw [World.cell?_of_block (hk g hg (World.block_lt_of_cell? _ _ this))]
    exact this⟩
theorem Stands.more (h : Stands w F p) (hF : ∀ k, F k → k < w.heap.size → G k) : Stands w G p :=
  ⟨h.len, h.bytes, h.cap, h.max, fun hn => by
    obtain ⟨g, off, e, hg, hc⟩ := h.row hn
    exact ⟨g, off, e, hF g hg (World.block_lt_of_cell? _ _ (hc 0 hn)), hc⟩⟩
theorem Stands.bs (h : Stands w F p) : Bs w w.heap.size p.A p.n p.zs :=
  ⟨h.len, fun j hj => h.bytes j (by rw [h.len]; exact hj), fun hn => by
    obtain ⟨g, off, e, hg, hc⟩ := h.row hn
    exact ⟨g, off, e, World.block_lt_of_cell? _ _ (hc 0 hn), hc⟩⟩
theorem stands_nil (w : World) (F : Nat → Prop) : Stands w F ⟨none, 0, 0, []⟩ := ⟨rfl, IsBytes.nil, Nat.le_refl _, by simp [maxLen], fun h => absurd h (by simp)⟩
theorem stands_own {base n c : Nat} {A : Option Addr} {zs : List Int} (h : w.ownsRow base 5 1 (.slice A n c) n (vals zs)) (hb : IsBytes zs) (hF : ∀ k, (Value.slice A n c).ownBlock = some k → F k) : Stands w F ⟨A, n, c, zs⟩ := by
  have hl : zs.length = n := by have := h.1; rw [vals_len] at this; omega
  obtain ⟨A', c', e, h1, h2⟩ := own_shape h
  injection e with e1 e2 e3
  subst e1 e3
  refine ⟨hl, hb, h1, h2, fun hn => ?_⟩
  obtain ⟨b, off, e, hlt, hc⟩ := (bs_of_own h hb).row hn
  change A = _ at e
  subst e
  exact ⟨b, off, rfl, hF b rfl, hc⟩
theorem Stands.cut (h : Stands w F p) {k c' : Nat} (hk : k ≤ p.n) (hc : k ≤ c') (hc2 : c' ≤ maxLen) : Stands w F ⟨p.A, k, c', p.zs.take k⟩ := by
  have hl := h.len
  have hg : ∀ j, j < k → (p.zs.take k).getD j 0 = p.zs.getD j 0 := fun j hj => by simp [List.getD_eq_getElem?_getD, hj]
  refine ⟨by simp; omega, ?_, hc, hc2, fun hn => ?_⟩
  · rw [isBytes_iff]
    exact fun z hz => isBytes_iff.1 h.bytes z (List.mem_of_mem_take hz)
  · obtain ⟨g, off, e, hF, hcell⟩ := h.row (by simp at hn; omega)
    refine ⟨g, off, e, hF, fun j hj => ?_⟩
    simp at hj
    show w.cell? _ = some (.int .u8 ((p.zs.take k).getD j 0))
    rw [hg j (by omega)]
    exact hcell j (by omega)
end
/-- A row of lists, at A. -/
structure Bunch (w : World) (F : Nat → Prop) (A : Option Addr) (ps : List PieceZ) : Prop where
  row : 0 < ps.length → ∃ g off, A = some ⟨g, off, none⟩ ∧ F g ∧ ∀ j p, ps[j]? = some p → w.cell? ⟨g, off + j, none⟩ = some (pval p)
  all : ∀ p ∈ ps, Stands w F p
section
variable {w w1 : World} {F G : Nat → Prop} {A : Option Addr} {ps : List PieceZ}
theorem Bunch.keep (h : Bunch w F A ps) (hk : ∀ k, F k → k < w.heap.size → w1.heap[k]? = w.heap[k]?) : Bunch w1 F A ps :=
  ⟨fun hn => by
    obtain ⟨g, off, e, hg, hc⟩ := h.row hn
    refine ⟨g, off, e, hg, fun j p hj => ?_⟩
    have := hc j p hj
    rw [World.cell?_of_block (hk g hg (World.block_lt_of_cell? _ _ this))]
    exact this, fun p hp => (h.all p hp).keep hk⟩
theorem Bunch.more (h : Bunch w F A ps) (hF : ∀ k, F k → k < w.heap.size → G k) : Bunch w G A ps :=
  ⟨fun hn => by
    obtain ⟨g, off, e, hg, hc⟩ := h.row hn
    obtain ⟨p, hp⟩ : ∃ p, ps[0]? = some p := ⟨ps[0], List.getElem?_eq_getElem hn⟩
    exact ⟨g, off, e, hF g hg (World.block_lt_of_cell? _ _ (hc 0 p hp)), hc⟩, fun p hp => (h.all p hp).more hF⟩
theorem Bunch.at_ (h : Bunch w F A ps) {k : Nat} (hk : k < ps.length) :
    ∃ g off p, A = some ⟨g, off, none⟩ ∧ g < w.heap.size ∧ F g ∧ Hid (ps[k]? = some p) ∧ w.cell? ⟨g, off + k, none⟩ = some (pval p) ∧ Stands w F p := by
  obtain ⟨g, off, e, hg, hc⟩ := h.row (by omega)
  have hp : ps[k]? = some ps[k] := List.getElem?_eq_getElem hk
  have := hc k _ hp
  exact ⟨g, off, ps[k], e, World.block_lt_of_cell? _ _ this, hg, Lib.hid hp, this, h.all _ (List.getElem_mem hk)⟩
theorem bunch_nil (w : World) (F : Nat → Prop) (A : Option Addr) : Bunch w F A [] := ⟨fun h => absurd h (by simp), fun p hp => by cases hp⟩
theorem bunch_own {base c : Nat} (h : w.ownsRow base 27 1 (.slice A ps.length c) ps.length (ps.map pval)) (hF : ∀ k, (Value.slice A ps.length c).ownBlock = some k → F k) (hall : ∀ p ∈ ps, Stands w F p) : Bunch w F A ps := by
  refine ⟨fun hn => ?_, hall⟩
  obtain ⟨g, cap, hv, _, hlt⟩ := h.form hn
  injection hv with e1 e2 e3
  subst e1
  refine ⟨g, 0, rfl, hF g rfl, fun j p hj => ?_⟩
  have := h.cells (g := g) rfl j (pval p) (by simp [List.getElem?_map, hj])
  rwa [Go.WideShapes.add_plain] at this
def flatZ (ps : List PieceZ) : List Int := (ps.map (·.zs)).flatten
theorem flatZ_bytes (h : ∀ p ∈ ps, IsBytes p.zs) : IsBytes (flatZ ps) := by
  rw [isBytes_iff]
  intro z hz
  unfold flatZ at hz
  obtain ⟨l, hl, hz⟩ := List.mem_flatten.1 hz
  obtain ⟨p, hp, rfl⟩ := List.mem_map.1 hl
  exact isBytes_iff.1 (h p hp) z hz
theorem flatZ_snoc (ps : List PieceZ) (p : PieceZ) : flatZ (ps ++ [p]) = flatZ ps ++ p.zs := by simp [flatZ]
theorem flatZ_take {k : Nat} {p : PieceZ} (h : ps[k]? = some p) : flatZ (ps.take (k + 1)) = flatZ (ps.take k) ++ p.zs := by
  rw [List.take_add_one, h]
  exact flatZ_snoc _ _
theorem flatZ_take_le (k : Nat) : (flatZ (ps.take k)).length ≤ (flatZ ps).length := by
  have : flatZ ps = flatZ (ps.take k) ++ flatZ (ps.drop k) := by
    unfold flatZ
    rw [← List.flatten_append, ← List.map_append, List.take_append_drop]
  rw [this, List.length_append]; omega
theorem Bunch.bytes (h : Bunch w F A ps) : IsBytes (flatZ ps) := flatZ_bytes fun p hp => (h.all p hp).bytes
end
end Go.Proofs.Ytlbmhkccmclmfaa
