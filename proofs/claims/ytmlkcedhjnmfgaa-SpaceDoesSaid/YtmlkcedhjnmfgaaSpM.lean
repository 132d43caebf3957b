/- Pairs as rows in memory. -/
import Derived.Test.YtmlkcedhjnmfgaaSpZ
import Derived.Test.YtmlkcedhjnmfgaaB2
import Derived.Test.YtmlkcedhjnmfgaaB1
namespace Go.Proofs.Ytmlkcedhjnmfgaa
open Go.ChangeShapes Go.WideShapes Go.ChangeAt Go.RowKit
set_option linter.unusedVariables false
set_option linter.unusedSimpArgs false
open Sp
structure POk (p : PairZ) : Prop where
  k : p.k.size ≤ maxLen
  v : p.v.size ≤ maxLen
theorem pvs_len : ∀ l, (pvs l).length = l.length * 2
  | [] => rfl
  | g :: l => by simp only [pvs, List.length_cons, pvs_len l]; omega
theorem pvs_app : ∀ a b, pvs (a ++ b) = pvs a ++ pvs b
  | [], b => rfl
  | g :: a, b => by simp [pvs, pvs_app a b]
theorem pvs_one : ∀ l, ∀ u ∈ pvs l, u.oneCell' = true
  | [], u, h => by simp [pvs] at h
  | g :: l, u, h => by
    simp only [pvs, List.mem_cons] at h
    rcases h with rfl | rfl | h
    · rfl
    · rfl
    · exact pvs_one l u h
theorem pvs_at : ∀ (l : List PairZ) (j : Nat) (p : PairZ), l[j]? = some p → (pvs l)[j * 2]? = some (.string p.k) ∧ (pvs l)[j * 2 + 1]? = some (.string p.v)
  | [], j, p, h => by simp at h
  | a :: l, 0, p, h => by
    obtain rfl : a = p := by simpa using h
    exact ⟨rfl, rfl⟩
  | a :: l, j + 1, p, h => by
    have := pvs_at l j p (by simpa using h)
    have e : (j + 1) * 2 = (j * 2) + 1 + 1 := by omega
    rw [e]
    simpa [pvs] using this
theorem pvs_take : ∀ (l : List PairZ) (j : Nat), (pvs l).take (j * 2) = pvs (l.take j)
  | [], j => by simp [pvs]
  | a :: l, 0 => by simp [pvs]
  | a :: l, j + 1 => by
    have e : (j + 1) * 2 = (j * 2) + 1 + 1 := by omega
    rw [e]
    simp [pvs, pvs_take l j]
/-- The n pairs that the slice at A holds; what it reads lies below block B. -/
structure Prs (w : World) (B : Nat) (A : Option Addr) (n : Nat) (l : List PairZ) : Prop where
  len : l.length = n
  row : 0 < n → ∃ b off, A = some ⟨b, off, none⟩ ∧ b < B ∧ ∀ i u, (pvs l)[i]? = some u → w.cell? ⟨b, off + i, none⟩ = some u
  ok : ∀ p, p ∈ l → POk p
section
variable {w w' : World} {B B' n : Nat} {A : Option Addr} {l : List PairZ}
theorem Prs.keep (h : Prs w B A n l) (hk : ∀ p : Addr, p.block < B → w'.cell? p = w.cell? p) : Prs w' B A n l :=
  ⟨h.len, fun hn => by
    obtain ⟨b, off, rfl, hb, hc⟩ := h.row hn
    exact ⟨b, off, rfl, hb, fun i u hu => (hk ⟨b, off + i, none⟩ hb).trans (hc i u hu)⟩, h.ok⟩
theorem Prs.below (h : Prs w B A n l) (hb : Below B' w w') (hB : B ≤ B') : Prs w' B A n l := h.keep fun _ hp => (hb.mono hB).cell hp
theorem Prs.more (h : Prs w B A n l) (hB : B ≤ B') : Prs w B' A n l :=
  ⟨h.len, fun hn => by
    obtain ⟨b, off, rfl, hb, hc⟩ := h.row hn
    exact ⟨b, off, rfl, by omega, hc⟩, h.ok⟩
/-- Kept by what leaves all old blocks alone. -/
theorem Prs.grow (h : Prs w w.heap.size A n l) (hb : Below w.heap.size w w') : Prs w' w'.heap.size A n l := (h.below hb (Nat.le_refl _)).more hb.size
theorem Prs.drewN (h : Prs w B A n l) (k : Nat) : Prs (w.drewN k) B A n l := h.keep fun _ _ => rfl
theorem Prs.drew (h : Prs w B A n l) : Prs w.drew B A n l := h.keep fun _ _ => rfl
theorem Prs.nil : Prs w B A 0 [] := ⟨rfl, fun h => absurd h (by omega), fun g h => by simp at h⟩
theorem Prs.at_ (h : Prs w B A n l) {k : Nat} (hk : k < n) :
    ∃ b off p, A = some ⟨b, off, none⟩ ∧ b < B ∧ Hid (l[k]? = some p) ∧ POk p ∧ w.cell? ⟨b, off + k * 2, none⟩ = some (.string p.k) ∧ w.cell? ⟨b, off + k * 2 + 1, none⟩ = some (.string p.v) := by
  obtain ⟨b, off, rfl, hb, hc⟩ := h.row (by omega)
  have hl := h.len
  have hg : l[k]? = some l[k] := List.getElem?_eq_getElem (by omega)
  obtain ⟨c0, c1⟩ := pvs_at l k _ hg
  exact ⟨b, off, l[k], rfl, hb, hg, h.ok _ (List.getElem_mem ..), hc (k * 2) _ c0, by rw [Nat.add_assoc]; exact hc _ _ c1⟩
theorem Prs.lies (h : Prs w B A n l) : Lies w 2 A n (pvs l) ∧ Sourced A n := by
  refine ⟨⟨by rw [pvs_len, h.len], fun ad hA j u hu => ?_⟩, fun hA => ?_⟩
  · have hj : j < (pvs l).length := (List.getElem?_eq_some_iff.1 hu).1
    rw [pvs_len, h.len] at hj
    obtain ⟨b, off, e, _, hc⟩ := h.row (by omega)
    rw [hA] at e; injection e with e; subst e
    rw [Go.WideShapes.add_plain]
    exact hc j u hu
  · rcases Nat.eq_zero_or_pos n with h0 | h0
    · exact h0
    · obtain ⟨b, off, e, _⟩ := h.row h0
      rw [hA] at e; cases e
/-- A piece of it. -/
theorem Prs.cut (h : Prs w B A n l) {k m : Nat} (hk : k + m ≤ n) (A' : Option Addr) (hA : ∀ b off, A = some ⟨b, off, none⟩ → 0 < m → A' = some ⟨b, off + k * 2, none⟩) : Prs w B A' m ((l.drop k).take m) := by
  have hl := h.len
  refine ⟨by simp; omega, fun hm => ?_, fun p hp => h.ok p (List.mem_of_mem_drop (List.mem_of_mem_take hp))⟩
  obtain ⟨b, off, rfl, hb, hc⟩ := h.row (by omega)
  refine ⟨b, off + k * 2, hA _ _ rfl hm, hb, fun i u hu => ?_⟩
  have hi : i < ((l.drop k).take m).length * 2 := by
    have := (List.getElem?_eq_some_iff.1 hu).1
    rwa [pvs_len] at this
  simp only [List.length_take, List.length_drop] at hi
  have hj : i / 2 < m := by omega
  have hg : ((l.drop k).take m)[i / 2]? = some l[k + i / 2] := by
    rw [List.getElem?_take, if_pos hj, List.getElem?_drop, List.getElem?_eq_getElem (by omega)]
  have hg2 : l[k + i / 2]? = some l[k + i / 2] := List.getElem?_eq_getElem (by omega)
  obtain ⟨a0, a1⟩ := pvs_at _ _ _ hg
  obtain ⟨b0, b1⟩ := pvs_at _ _ _ hg2
  rw [Nat.add_assoc]
  apply hc
  rcases Nat.mod_two_eq_zero_or_one i with e | e
  · have e2 : i = i / 2 * 2 := by omega
    rw [e2, a0] at hu
    rw [e2, show k * 2 + i / 2 * 2 = (k + i / 2) * 2 by omega, b0, hu]
  · have e2 : i = i / 2 * 2 + 1 := by omega
    rw [e2, a1] at hu
    rw [e2, show k * 2 + (i / 2 * 2 + 1) = (k + i / 2) * 2 + 1 by omega, b1, hu]
/-- Every row of its own reads as pairs. -/
theorem prs_of_own {base c : Nat} {t : TypeId} (h : w.ownsRow base t 2 (.slice A n c) n (pvs l)) (hok : ∀ p, p ∈ l → POk p) : Prs w w.heap.size A n l := by
  have hl : l.length = n := by have := h.1; rw [pvs_len] at this; omega
  refine ⟨hl, fun hn => ?_, hok⟩
  obtain ⟨g, cap, hv, _, hlt⟩ := h.form hn
  have hA : A = some ⟨g, 0, none⟩ := by injection hv
  subst hA
  refine ⟨g, 0, rfl, hlt, fun j u hu => ?_⟩
  have := h.cells (g := g) rfl j u hu
  rwa [← Go.WideShapes.add_plain]
end
/-- A row that has just been written out. -/
theorem prs_new (w : World) (l : List PairZ) (n : Nat) (hn : l.length = n) (t : TypeId) (g : Nat) (hg : w.heap.size = g) (hok : ∀ p, p ∈ l → POk p) : Prs (w.alloc (.cells (pvs l).toArray t)) (g + 1) (some ⟨g, 0, none⟩) n l := by
  subst hg hn
  refine ⟨rfl, fun hn => ⟨w.heap.size, 0, rfl, by omega, fun i u hu => ?_⟩, hok⟩
  rw [cell_of_row _ _ _ _ _ _ (heap_alloc_new w _), Nat.zero_add, List.getElem?_toArray, hu]
theorem pair_info : ∃ i z, Try.prog.info? 46 = some i ∧ i.zero = some z ∧ i.size = 2 ∧ i.bytes = 32 ∧ z.cells.size = 2 := by
  obtain ⟨i, hi, hz, hs, hb⟩ := info_parts (show (Try.prog.info? 46).map (fun i => (i.zero, i.size, i.bytes)) = some (some (.agg #[.string ⟨#[]⟩, .string ⟨#[]⟩]), 2, 32) by kernel_rfl)
  exact ⟨i, _, hi, hz, hs, hb, rfl⟩
theorem rpair_info : ∃ i z, Try.prog.info? 66 = some i ∧ i.zero = some z ∧ i.size = 2 ∧ i.bytes = 32 ∧ z.cells.size = 2 := by
  obtain ⟨i, hi, hz, hs, hb⟩ := info_parts (show (Try.prog.info? 66).map (fun i => (i.zero, i.size, i.bytes)) = some (some (.agg #[.string ⟨#[]⟩, .string ⟨#[]⟩]), 2, 32) by kernel_rfl)
  exact ⟨i, _, hi, hz, hs, hb, rfl⟩
theorem str_info : ∃ i z, Try.prog.info? 9 = some i ∧ i.zero = some z ∧ i.size = 1 ∧ i.bytes = 16 ∧ z.cells.size = 1 := by
  obtain ⟨i, hi, hz, hs, hb⟩ := info_parts (show (Try.prog.info? 9).map (fun i => (i.zero, i.size, i.bytes)) = some (some (.string ⟨#[]⟩), 1, 16) by kernel_rfl)
  exact ⟨i, _, hi, hz, hs, hb, rfl⟩
theorem own_shapeP {w : World} {base n size : Nat} {t : TypeId} {v : Value} {xs : List Value} (h : w.ownsRow base t size v n xs) : ∃ A c, v = .slice A n c ∧ n ≤ c ∧ c ≤ maxLen := by
  rcases h.2 with ⟨rfl, rfl⟩ | ⟨g, cap, cur, rfl, _, _, h1, h2, _⟩
  · exact ⟨none, 0, rfl, Nat.le_refl _, by simp [maxLen]⟩
  · exact ⟨_, _, rfl, h1, h2⟩
end Go.Proofs.Ytmlkcedhjnmfgaa
