/- Numbers of boots as rows in memory. -/
import Derived.Test.YtnnfcbcjepbjiaaWnC
import Derived.Test.YtnnfcbcjepbjiaaB2
import Derived.Test.YtnnfcbcjepbjiaaB1
namespace Go.Proofs.Ytnnfcbcjepbjiaa
open Go.ChangeShapes Go.WideShapes Go.ChangeAt Go.RowKit
set_option linter.unusedVariables false
set_option linter.unusedSimpArgs false
structure NuZ where
  b : Int
  n : Int
structure NOk (g : NuZ) : Prop where
  b : InI g.b
  n : InI g.n
def nuc (g : NuZ) : List Value := [.int .i64 g.b, .int .i64 g.n]
/-- The cells of a row of numbers. -/
def nvs : List NuZ → List Value
  | [] => []
  | g :: l => .int .i64 g.b :: .int .i64 g.n :: nvs l
theorem nvs_len : ∀ l, (nvs l).length = l.length * 2
  | [] => rfl
  | g :: l => by simp only [nvs, List.length_cons, nvs_len l]; omega
theorem nvs_app : ∀ a b, nvs (a ++ b) = nvs a ++ nvs b
  | [], b => rfl
  | g :: a, b => by simp [nvs, nvs_app a b]
theorem nvs_one : ∀ l, ∀ u ∈ nvs l, u.oneCell' = true
  | [], u, h => by simp [nvs] at h
  | g :: l, u, h => by
    simp only [nvs, List.mem_cons] at h
    rcases h with rfl | rfl | h
    · rfl
    · rfl
    · exact nvs_one l u h
theorem nvs_at : ∀ (l : List NuZ) (j : Nat) (g : NuZ), l[j]? = some g → ∀ i, i < 2 → (nvs l)[j * 2 + i]? = (nuc g)[i]?
  | [], j, g, h, i, hi => by simp at h
  | a :: l, 0, g, h, i, hi => by
    obtain rfl : a = g := by simpa using h
    match i, hi with
    | 0, _ => rfl
    | 1, _ => rfl
  | a :: l, j + 1, g, h, i, hi => by
    have := nvs_at l j g (by simpa using h) i hi
    have e : (j + 1) * 2 + i = (j * 2 + i) + 1 + 1 := by omega
    rw [e]
    simpa [nvs] using this
/-- The n numbers that the slice at A holds; what it reads lies below block B. -/
structure Nums (w : World) (B : Nat) (A : Option Addr) (n : Nat) (l : List NuZ) : Prop where
  len : l.length = n
  row : 0 < n → ∃ b off, A = some ⟨b, off, none⟩ ∧ b < B ∧ ∀ i u, (nvs l)[i]? = some u → w.cell? ⟨b, off + i, none⟩ = some u
  ok : ∀ g, g ∈ l → NOk g
section
variable {w w' : World} {B B' n : Nat} {A : Option Addr} {l : List NuZ}
theorem Nums.keep (h : Nums w B A n l) (hk : ∀ p : Addr, p.block < B → w'.cell? p = w.cell? p) : Nums w' B A n l :=
  ⟨h.len, fun hn => by
    obtain ⟨b, off, rfl, hb, hc⟩ := h.row hn
    exact ⟨b, off, rfl, hb, fun i u hu => (hk ⟨b, off + i, none⟩ hb).trans (hc i u hu)⟩, h.ok⟩
theorem Nums.below (h : Nums w B A n l) (hb : Below B' w w') (hB : B ≤ B') : Nums w' B A n l := h.keep fun _ hp => (hb.mono hB).cell hp
theorem Nums.more (h : Nums w B A n l) (hB : B ≤ B') : Nums w B' A n l :=
  ⟨h.len, fun hn => by
    obtain ⟨b, off, rfl, hb, hc⟩ := h.row hn
    exact ⟨b, off, rfl, by omega, hc⟩, h.ok⟩
/-- Kept by what leaves all old blocks alone. -/
theorem Nums.grow (h : Nums w w.heap.size A n l) (hb : Below w.heap.size w w') : Nums w' w'.heap.size A n l := (h.below hb (Nat.le_refl _)).more hb.size
theorem Nums.drewN (h : Nums w B A n l) (k : Nat) : Nums (w.drewN k) B A n l := h.keep fun _ _ => rfl
theorem Nums.drew (h : Nums w B A n l) : Nums w.drew B A n l := h.keep fun _ _ => rfl
theorem Nums.nil : Nums w B A 0 [] := ⟨rfl, fun h => absurd h (by omega), fun g h => by simp at h⟩
theorem Nums.at_ (h : Nums w B A n l) {k : Nat} (hk : k < n) :
    ∃ b off g, A = some ⟨b, off, none⟩ ∧ b < B ∧ Hid (l[k]? = some g) ∧ NOk g ∧ w.cell? ⟨b, off + k * 2, none⟩ = some (.int .i64 g.b) ∧ w.cell? ⟨b, off + k * 2 + 1, none⟩ = some (.int .i64 g.n) := by
  obtain ⟨b, off, rfl, hb, hc⟩ := h.row (by omega)
  have hl := h.len
  have hg : l[k]? = some l[k] := List.getElem?_eq_getElem (by omega)
  have c0 := nvs_at l k _ hg 0 (by omega)
  have c1 := nvs_at l k _ hg 1 (by omega)
  exact ⟨b, off, l[k], rfl, hb, hg, h.ok _ (List.getElem_mem ..), hc (k * 2) _ c0, by rw [Nat.add_assoc]; exact hc _ _ c1⟩
theorem Nums.lies (h : Nums w B A n l) : Lies w 2 A n (nvs l) ∧ Sourced A n := by
  refine ⟨⟨by rw [nvs_len, h.len], fun ad hA j u hu => ?_⟩, fun hA => ?_⟩
  · have hj : j < (nvs l).length := (List.getElem?_eq_some_iff.1 hu).1
    rw [nvs_len, h.len] at hj
    obtain ⟨b, off, e, _, hc⟩ := h.row (by omega)
    rw [hA] at e; injection e with e; subst e
    rw [Go.WideShapes.add_plain]
    exact hc j u hu
  · rcases Nat.eq_zero_or_pos n with h0 | h0
    · exact h0
    · obtain ⟨b, off, e, _⟩ := h.row h0
      rw [hA] at e; cases e
/-- Every row of its own reads as numbers. -/
theorem nums_of_own {base c : Nat} {t : TypeId} (h : w.ownsRow base t 2 (.slice A n c) n (nvs l)) (hok : ∀ g, g ∈ l → NOk g) : Nums w w.heap.size A n l := by
  have hl : l.length = n := by have := h.1; rw [nvs_len] at this; omega
  refine ⟨hl, fun hn => ?_, hok⟩
  obtain ⟨g, cap, hv, _, hlt⟩ := h.form hn
  have hA : A = some ⟨g, 0, none⟩ := by injection hv
  subst hA
  refine ⟨g, 0, rfl, hlt, fun j u hu => ?_⟩
  have := h.cells (g := g) rfl j u hu
  rwa [← Go.WideShapes.add_plain]
end
/-- A row that has just been written out. -/
theorem nums_new (w : World) (l : List NuZ) (n : Nat) (hn : l.length = n) (t : TypeId) (g : Nat) (hg : w.heap.size = g) (hok : ∀ p, p ∈ l → NOk p) : Nums (w.alloc (.cells (nvs l).toArray t)) (g + 1) (some ⟨g, 0, none⟩) n l := by
  subst hg hn
  refine ⟨rfl, fun hn => ⟨w.heap.size, 0, rfl, by omega, fun i u hu => ?_⟩, hok⟩
  rw [cell_of_row _ _ _ _ _ _ (heap_alloc_new w _), Nat.zero_add, List.getElem?_toArray, hu]
theorem num_info : ∃ i z, Try.prog.info? 33 = some i ∧ i.zero = some z ∧ i.size = 2 ∧ i.bytes = 16 ∧ z.cells.size = 2 := by
  obtain ⟨i, hi, hz, hs, hb⟩ := info_parts (show (Try.prog.info? 33).map (fun i => (i.zero, i.size, i.bytes)) = some (some (.agg #[.int .i64 0, .int .i64 0]), 2, 16) by kernel_rfl)
  exact ⟨i, _, hi, hz, hs, hb, rfl⟩
theorem take_snocN (l : List NuZ) (k : Nat) (g : NuZ) (h : l[k]? = some g) : l.take (k + 1) = l.take k ++ [g] := by
  rw [List.take_add_one, h]; rfl
end Go.Proofs.Ytnnfcbcjepbjiaa
