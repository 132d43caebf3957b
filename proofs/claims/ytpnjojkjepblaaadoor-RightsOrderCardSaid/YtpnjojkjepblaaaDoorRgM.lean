/- Grants and lines: as plain values, as rows in memory. -/
import Derived.Test.YtpnjojkjepblaaaDoorRgT
namespace Go.Proofs.YtpnjojkjepblaaaDoor
open Go.ChangeShapes Go.WideShapes Go.ChangeAt Go.RowKit
set_option linter.unusedVariables false
structure GrantZ where
  r : Int
  x : Int
  s : Int
def gCells (g : GrantZ) : List Value := [.int .u8 g.r, .int .i64 g.x, .int .i64 g.s]
def gAgg (g : GrantZ) : Value := .agg #[.int .u8 g.r, .int .i64 g.x, .int .i64 g.s]
structure GOk (g : GrantZ) : Prop where
  r : 0 ≤ g.r ∧ g.r < 256
  x : -9223372036854775808 ≤ g.x ∧ g.x ≤ 9223372036854775807
  s : -9223372036854775808 ≤ g.s ∧ g.s ≤ 9223372036854775807
/-- The cells of a row of grants. -/
def gv : List GrantZ → List Value
  | [] => []
  | g :: l => .int .u8 g.r :: .int .i64 g.x :: .int .i64 g.s :: gv l
theorem gv_len : ∀ l, (gv l).length = l.length * 3
  | [] => rfl
  | g :: l => by simp only [gv, List.length_cons, gv_len l]; omega
theorem gv_app : ∀ a b, gv (a ++ b) = gv a ++ gv b
  | [], b => rfl
  | g :: a, b => by simp [gv, gv_app a b]
theorem gv_one : ∀ l, ∀ u ∈ gv l, u.oneCell' = true
  | [], u, h => by simp [gv] at h
  | g :: l, u, h => by
    simp only [gv, List.mem_cons] at h
    rcases h with rfl | rfl | rfl | h
    · rfl
    · rfl
    · rfl
    · exact gv_one l u h
theorem gv_at : ∀ (l : List GrantZ) (j : Nat) (g : GrantZ), l[j]? = some g → ∀ i, i < 3 → (gv l)[j * 3 + i]? = (gCells g)[i]?
  | [], j, g, h, i, hi => by simp at h
  | a :: l, 0, g, h, i, hi => by
    obtain rfl : a = g := by simpa using h
    match i, hi with
    | 0, _ => rfl
    | 1, _ => rfl
    | 2, _ => rfl
  | a :: l, j + 1, g, h, i, hi => by
    have := gv_at l j g (by simpa using h) i hi
    have e : (j + 1) * 3 + i = (j * 3 + i) + 1 + 1 + 1 := by omega
    rw [e]
    simpa [gv] using this
/-- The m grants that the slice at A holds; what it reads lies below block B. -/
structure Grants (w : World) (B : Nat) (A : Option Addr) (m : Nat) (l : List GrantZ) : Prop where
  len : l.length = m
  row : 0 < m → ∃ b off, A = some ⟨b, off, none⟩ ∧ b < B ∧ ∀ i u, (gv l)[i]? = some u → w.cell? ⟨b, off + i, none⟩ = some u
  ok : ∀ g, g ∈ l → GOk g
section
variable {w w' : World} {B B' m : Nat} {A : Option Addr} {l : List GrantZ}
theorem Grants.keep (h : Grants w B A m l) (hk : ∀ p : Addr, p.block < B → w'.cell? p = w.cell? p) : Grants w' B A m l :=
  ⟨h.len, fun hn => by
    obtain ⟨b, off, rfl, hb, hc⟩ := h.row hn
    exact ⟨b, off, rfl, hb, fun i u hu => (hk ⟨b, off + i, none⟩ hb).trans (hc i u hu)⟩, h.ok⟩
theorem Grants.below (h : Grants w B A m l) (hb : Below B w w') : Grants w' B A m l := h.keep fun _ hp => hb.cell hp
theorem Grants.belowM (h : Grants w B A m l) (hb : Below B' w w') (hB : B ≤ B') : Grants w' B A m l := h.below (hb.mono hB)
theorem Grants.more (h : Grants w B A m l) (hB : B ≤ B') : Grants w B' A m l :=
  ⟨h.len, fun hn => by
    obtain ⟨b, off, rfl, hb, hc⟩ := h.row hn
    exact ⟨b, off, rfl, by omega, hc⟩, h.ok⟩
theorem Grants.drewN (h : Grants w B A m l) (k : Nat) : Grants (w.drewN k) B A m l := h.keep fun _ _ => rfl
theorem Grants.nil : Grants w B A 0 [] := ⟨rfl, fun h => absurd h (by omega), fun g h => by simp at h⟩
theorem Grants.at_ (h : Grants w B A m l) {k : Nat} (hk : k < m) :
    ∃ b off g, A = some ⟨b, off, none⟩ ∧ b < B ∧ Hid (l[k]? = some g) ∧ GOk g ∧ w.cell? ⟨b, off + k * 3, none⟩ = some (.int .u8 g.r) ∧ w.cell? ⟨b, off + k * 3 + 1, none⟩ = some (.int .i64 g.x) ∧ w.cell? ⟨b, off + k * 3 + 2, none⟩ = some (.int .i64 g.s) := by
  obtain ⟨b, off, rfl, hb, hc⟩ := h.row (by omega)
  have hl := h.len
  have hg : l[k]? = some l[k] := List.getElem?_eq_getElem (by omega)
  have c0 := gv_at l k _ hg 0 (by omega)
  have c1 := gv_at l k _ hg 1 (by omega)
  have c2 := gv_at l k _ hg 2 (by omega)
  exact ⟨b, off, l[k], rfl, hb, hg, h.ok _ (List.getElem_mem ..), hc (k * 3) _ c0, by rw [Nat.add_assoc]; exact hc _ _ c1, by rw [Nat.add_assoc]; exact hc _ _ c2⟩
theorem Grants.lies (h : Grants w B A m l) : Lies w 3 A m (gv l) ∧ Sourced A m := by
  refine ⟨⟨by rw [gv_len, h.len], fun ad hA j u hu => ?_⟩, fun hA => ?_⟩
  · have hj : j < (gv l).length := (List.getElem?_eq_some_iff.1 hu).1
    rw [gv_len, h.len] at hj
    obtain ⟨b, off, e, _, hc⟩ := h.row (by omega)
    rw [hA] at e; injection e with e; subst e
    rw [Go.WideShapes.add_plain]
    exact hc j u hu
  · rcases Nat.eq_zero_or_pos m with h0 | h0
    · exact h0
    · obtain ⟨b, off, e, _⟩ := h.row h0
      rw [hA] at e; cases e
/-- Every row of its own reads as grants. -/
theorem grants_of_own {base c : Nat} {t : TypeId} (h : w.ownsRow base t 3 (.slice A m c) m (gv l)) (hok : ∀ g, g ∈ l → GOk g) : Grants w w.heap.size A m l := by
  have hl : l.length = m := by have := h.1; rw [gv_len] at this; omega
  refine ⟨hl, fun hn => ?_, hok⟩
  obtain ⟨g, cap, hv, _, hlt⟩ := h.form hn
  have hA : A = some ⟨g, 0, none⟩ := by injection hv
  subst hA
  refine ⟨g, 0, rfl, hlt, fun j u hu => ?_⟩
  have := h.cells (g := g) rfl j u hu
  rwa [← Go.WideShapes.add_plain]
end
/-- Whether a grant may be, whether that is a line; what it leaves. -/
def mayB (g : GrantZ) : Bool := decide (g.r ≤ 15) && decide (0 ≤ g.x) && decide (g.x ≤ 1099511627776) && decide (1 ≤ g.s) && decide (g.s ≤ 1099511627776)
def lineB (l : List GrantZ) : Bool := decide (1 ≤ l.length) && decide (l.length ≤ 4) && l.all mayB
def andZ (a b : Int) : Int := ((a.toNat &&& b.toNat : Nat) : Int)
theorem bits_and {a b : Int} (h0 : 0 ≤ a) (h1 : a < 256) (h2 : 0 ≤ b) (h3 : b < 256) : bits .and .u8 a b = andZ a b := by
  have e : ∀ x : Int, 0 ≤ x → x < 256 → (BitVec.ofInt 8 x).toNat = x.toNat := fun x hx hy => by
    rw [BitVec.toNat_ofInt]
    have : x % ((2 ^ 8 : Nat) : Int) = x := Int.emod_eq_of_lt hx (by simpa using hy)
    rw [this]
  show IntKind.u8.wrap ((BitVec.ofInt 8 a &&& BitVec.ofInt 8 b).toNat : Int) = _
  rw [BitVec.toNat_and, e a h0 h1, e b h2 h3]
  have hlt : a.toNat &&& b.toNat < 256 := Nat.lt_of_le_of_lt Nat.and_le_left (by omega)
  unfold andZ
  generalize a.toNat &&& b.toNat = c at *
  show IntKind.u8.wrap (c : Int) = c
  have := IntKind.wrap_u8 (c : Int)
  rw [this]; omega
theorem andZ_le (a b : Int) (h : 0 ≤ a) : 0 ≤ andZ a b ∧ andZ a b ≤ a := by
  unfold andZ
  have := Nat.and_le_left (n := a.toNat) (m := b.toNat)
  omega
def lvR (l : List GrantZ) : Int := l.foldl (fun a g => andZ a g.r) 15
def lvX (l : List GrantZ) : Int := l.foldl (fun a g => min a g.x) 1099511627776
theorem lvR_snoc (l : List GrantZ) (g : GrantZ) : lvR (l ++ [g]) = andZ (lvR l) g.r := by simp [lvR, List.foldl_append]
theorem lvX_snoc (l : List GrantZ) (g : GrantZ) : lvX (l ++ [g]) = min (lvX l) g.x := by simp [lvX, List.foldl_append]
theorem foldR_bound (l : List GrantZ) : ∀ a : Int, 0 ≤ a → a ≤ 15 → 0 ≤ l.foldl (fun a g => andZ a g.r) a ∧ l.foldl (fun a g => andZ a g.r) a ≤ 15 := by
  induction l with
  | nil => intro a h0 h1; exact ⟨h0, h1⟩
  | cons g l ih =>
    intro a h0 h1
    have := andZ_le a g.r h0
    exact ih (andZ a g.r) (by omega) (by omega)
theorem lvR_bound (l : List GrantZ) : 0 ≤ lvR l ∧ lvR l ≤ 15 := foldR_bound l 15 (by omega) (by omega)
theorem take_snocG (l : List GrantZ) (k : Nat) (g : GrantZ) (h : l[k]? = some g) : l.take (k + 1) = l.take k ++ [g] := by
  rw [List.take_add_one, h]; rfl
end Go.Proofs.YtpnjojkjepblaaaDoor
