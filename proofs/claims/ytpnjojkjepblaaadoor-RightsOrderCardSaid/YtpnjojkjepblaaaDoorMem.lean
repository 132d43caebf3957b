/- Slices of bytes as lists of numbers: what is read, what is owned. -/
import Derived.Test.YtpnjojkjepblaaaDoorLib
import Derived.OpenShut
namespace Go.Proofs.YtpnjojkjepblaaaDoor
open Go.ChangeShapes Go.WideShapes Go.ChangeAt Go.RowKit
set_option linter.unusedVariables false

/-- What the frame is told of a slice of integers that came in. -/
def IsRow (k : IntKind) (w : World) (a : Option Addr) (len cap : Nat) (zs : List Int) : Prop :=
  (a = none ∧ len = 0 ∧ cap = 0 ∧ zs = []) ∨
  ∃ x, a = some x ∧ len ≤ cap ∧ cap ≤ maxLen ∧ zs.length = cap ∧ (∀ i, i < zs.length → w.cell? (x.add i) = some (.int k (zs.getD i 0))) ∧ ∀ n ∈ zs, (Lit.int k n).wf = true

/-- In world w the slice of n elements at A reads as the bytes zs; what it reads lies below block B. -/
structure Bs (w : World) (B : Nat) (A : Option Addr) (n : Nat) (zs : List Int) : Prop where
  len : zs.length = n
  rng : ∀ j, j < n → 0 ≤ zs.getD j 0 ∧ zs.getD j 0 < 256
  row : 0 < n → ∃ b off, A = some ⟨b, off, none⟩ ∧ b < B ∧ ∀ j, j < n → w.cell? ⟨b, off + j, none⟩ = some (.int .u8 (zs.getD j 0))

section
variable {w w' : World} {B B' n : Nat} {A : Option Addr} {zs : List Int}
theorem Bs.nil : Bs w B A 0 [] := ⟨rfl, fun j h => absurd h (by omega), fun h => absurd h (by omega)⟩
theorem Bs.at_ (h : Bs w B A n zs) {k : Nat} (hk : k < n) :
    ∃ b off u, A = some ⟨b, off, none⟩ ∧ b < B ∧ Hid (zs.getD k 0 = u) ∧ 0 ≤ u ∧ u < 256 ∧ w.cell? ⟨b, off + k, none⟩ = some (.int .u8 u) := by
  obtain ⟨b, off, rfl, hb, hc⟩ := h.row (by omega)
  exact ⟨b, off, _, rfl, hb, rfl, (h.rng k hk).1, (h.rng k hk).2, hc k hk⟩
theorem Bs.keep (h : Bs w B A n zs) (hk : ∀ p : Addr, p.block < B → w'.cell? p = w.cell? p) : Bs w' B A n zs :=
  ⟨h.len, h.rng, fun hn => by
    obtain ⟨b, off, rfl, hb, hc⟩ := h.row hn
    exact ⟨b, off, rfl, hb, fun j hj => (hk ⟨b, off + j, none⟩ hb).trans (hc j hj)⟩⟩
theorem Bs.more (h : Bs w B A n zs) (hB : B ≤ B') : Bs w B' A n zs :=
  ⟨h.len, h.rng, fun hn => by
    obtain ⟨b, off, rfl, hb, hc⟩ := h.row hn
    exact ⟨b, off, rfl, by omega, hc⟩⟩
theorem Bs.below (h : Bs w B A n zs) (hb : Below B w w') : Bs w' B A n zs := h.keep fun _ hp => hb.cell hp
theorem Bs.belowM (h : Bs w B A n zs) (hb : Below B' w w') (hB : B ≤ B') : Bs w' B A n zs := h.below (hb.mono hB)
theorem Bs.drewN (h : Bs w B A n zs) (k : Nat) : Bs (w.drewN k) B A n zs := h.keep fun _ _ => rfl
theorem Bs.drew (h : Bs w B A n zs) : Bs w.drew B A n zs := h.keep fun _ _ => rfl
theorem Bs.alloc (h : Bs w B A n zs) (hB : B ≤ w.heap.size) (o : Obj) : Bs (w.alloc o) B A n zs := h.keep fun p hp => World.cell?_alloc_lt w o p (by omega)
theorem Bs.setCell (h : Bs w B A n zs) {p : Addr} (hB : B ≤ p.block) (u : Value) : Bs (w.setCell p u) B A n zs :=
  h.keep fun q hq => World.cell?_setCell_other w p q u (fun e => by subst e; omega)
theorem Bs.grown (h : Bs w B A n zs) {row : Option Nat} (hg : w.grownBy w' row) (hB : B ≤ w.heap.size) (hr : ∀ g, row = some g → B ≤ g) : Bs w' B A n zs :=
  h.keep fun p hp => World.cell?_of_block (hg.block p.block (by omega) (fun e => by have := hr _ e.symm; omega))
/-- A piece of it. -/
theorem Bs.cut (h : Bs w B A n zs) {k m : Nat} (hk : k + m ≤ n) (A' : Option Addr) (hA : ∀ b off, A = some ⟨b, off, none⟩ → 0 < m → A' = some ⟨b, off + k, none⟩) : Bs w B A' m ((zs.drop k).take m) := by
  have hl := h.len
  have hg : ∀ j, j < m → ((zs.drop k).take m).getD j 0 = zs.getD (k + j) 0 := fun j hj => by
    simp [List.getD_eq_getElem?_getD, List.getElem?_drop, hj]
  refine ⟨by simp; omega, fun j hj => by rw [hg j hj]; exact h.rng _ (by omega), fun hm => ?_⟩
  obtain ⟨b, off, rfl, hb, hc⟩ := h.row (by omega)
  refine ⟨b, off + k, hA _ _ rfl hm, hb, fun j hj => ?_⟩
  rw [hg j hj, Nat.add_assoc]
  exact hc _ (by omega)

/-- What came in reads as bytes. -/
theorem IsRow.bs {len cap : Nat} (h : IsRow .u8 w A len cap zs) : Bs w w.heap.size A len (zs.take len) ∧ len ≤ maxLen ∧ len ≤ cap := by
  rcases h with ⟨rfl, rfl, rfl, rfl⟩ | ⟨x, rfl, hl, hm, hz, hc, hw⟩
  · exact ⟨Bs.nil, by simp [maxLen], Nat.le_refl _⟩
  · refine ⟨⟨by simp; omega, ?_, ?_⟩, by omega, hl⟩
    · intro j hj
      have e : (zs.take len).getD j 0 = zs[j]'(by omega) := by
        simp [List.getD_eq_getElem?_getD, hj, List.getElem?_eq_getElem (show j < zs.length by omega)]
      have := hw zs[j] (List.getElem_mem ..)
      rw [e]
      simp [Lit.wf, IntKind.min, IntKind.max, IntKind.signed, IntKind.bits] at this
      omega
    · intro hn
      obtain ⟨b, off, rfl, hc'⟩ := ints_at hc (by omega)
      refine ⟨b, off, rfl, World.block_lt_of_cell? _ _ (hc' 0 (by omega)), fun j hj => ?_⟩
      rw [hc' j (by omega)]
      simp [List.getD_eq_getElem?_getD, hj]
end

/-- The bytes as values. -/
def vals (zs : List Int) : List Value := zs.map (Value.int .u8)
theorem vals_len (zs : List Int) : (vals zs).length = zs.length := by simp [vals]
theorem vals_app (a b : List Int) : vals (a ++ b) = vals a ++ vals b := by simp [vals]

def IsBytes (zs : List Int) : Prop := ∀ j, j < zs.length → 0 ≤ zs.getD j 0 ∧ zs.getD j 0 < 256

/-- Every row of its own reads as bytes. -/
theorem bs_of_own {w : World} {base c n : Nat} {t : TypeId} {A : Option Addr} {zs : List Int} (h : w.ownsRow base t 1 (.slice A n c) n (vals zs)) (hb : IsBytes zs) : Bs w w.heap.size A n zs := by
  have hl : zs.length = n := by have := h.1; rw [vals_len] at this; omega
  refine ⟨hl, fun j hj => hb j (by omega), fun hn => ?_⟩
  obtain ⟨g, cap, hv, _, hlt⟩ := h.form hn
  have hA : A = some ⟨g, 0, none⟩ := by injection hv
  subst hA
  refine ⟨g, 0, rfl, hlt, fun j hj => ?_⟩
  have := h.cells (g := g) rfl j (.int .u8 (zs.getD j 0)) (by
    simp [vals, List.getElem?_map, List.getD_eq_getElem?_getD, List.getElem?_eq_getElem (show j < zs.length by omega)])
  rwa [← Go.WideShapes.add_plain] 
theorem own_shape {w : World} {base n : Nat} {t : TypeId} {v : Value} {xs : List Value} (h : w.ownsRow base t 1 v n xs) : ∃ A c, v = .slice A n c ∧ n ≤ c ∧ c ≤ maxLen := by
  rcases h.2 with ⟨rfl, rfl⟩ | ⟨g, cap, cur, rfl, _, _, h1, h2, _⟩
  · exact ⟨none, 0, rfl, Nat.le_refl _, by simp [maxLen]⟩
  · exact ⟨_, _, rfl, h1, h2⟩
end Go.Proofs.YtpnjojkjepblaaaDoor
