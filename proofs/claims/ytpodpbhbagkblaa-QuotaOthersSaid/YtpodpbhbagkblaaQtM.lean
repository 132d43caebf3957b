/- Shares as rows in memory. -/
import Derived.Test.YtpodpbhbagkblaaQtZ
import Derived.Test.YtpodpbhbagkblaaB2
import Derived.Test.YtpodpbhbagkblaaB1
namespace Go.Proofs.Ytpodpbhbagkblaa
open Go.ChangeShapes Go.WideShapes Go.ChangeAt Go.RowKit
set_option linter.unusedVariables false
set_option linter.unusedSimpArgs false
open Qt
structure SOk (g : ShZ) : Prop where
  t : -9223372036854775808 ≤ g.t ∧ g.t ≤ 9223372036854775807
  k : -9223372036854775808 ≤ g.k ∧ g.k ≤ 9223372036854775807
  s : -9223372036854775808 ≤ g.s ∧ g.s ≤ 9223372036854775807
def shc (g : ShZ) : List Value := [.int .i64 g.t, .int .i64 g.k, .int .i64 g.s]
/-- The cells of a row of shares. -/
def svs : List ShZ → List Value
  | [] => []
  | g :: l => .int .i64 g.t :: .int .i64 g.k :: .int .i64 g.s :: svs l
theorem svs_len : ∀ l, (svs l).length = l.length * 3
  | [] => rfl
  | g :: l => by simp only [svs, List.length_cons, svs_len l]; omega
theorem svs_app : ∀ a b, svs (a ++ b) = svs a ++ svs b
  | [], b => rfl
  | g :: a, b => by simp [svs, svs_app a b]
theorem svs_one : ∀ l, ∀ u ∈ svs l, u.oneCell' = true
  | [], u, h => by simp [svs] at h
  | g :: l, u, h => by
    simp only [svs, List.mem_cons] at h
    rcases h with rfl | rfl | rfl | h
    · rfl
    · rfl
    · rfl
    · exact svs_one l u h
theorem svs_at : ∀ (l : List ShZ) (j : Nat) (g : ShZ), l[j]? = some g → ∀ i, i < 3 → (svs l)[j * 3 + i]? = (shc g)[i]?
  | [], j, g, h, i, hi => by simp at h
  | a :: l, 0, g, h, i, hi => by
    obtain rfl : a = g := by simpa using h
    match i, hi with
    | 0, _ => rfl
    | 1, _ => rfl
    | 2, _ => rfl
  | a :: l, j + 1, g, h, i, hi => by
    have := svs_at l j g (by simpa using h) i hi
    have e : (j + 1) * 3 + i = (j * 3 + i) + 1 + 1 + 1 := by omega
    rw [e]
    simpa [svs] using this
theorem svs_take : ∀ (l : List ShZ) (j : Nat), (svs l).take (j * 3) = svs (l.take j)
  | [], j => by simp [svs]
  | a :: l, 0 => by simp [svs]
  | a :: l, j + 1 => by
    have e : (j + 1) * 3 = (j * 3) + 1 + 1 + 1 := by omega
    rw [e]
    simp [svs, svs_take l j]
theorem svs_drop : ∀ (l : List ShZ) (j : Nat), (svs l).drop (j * 3) = svs (l.drop j)
  | [], j => by simp [svs]
  | a :: l, 0 => by simp [svs]
  | a :: l, j + 1 => by
    have e : (j + 1) * 3 = (j * 3) + 1 + 1 + 1 := by omega
    rw [e]
    simp [svs, svs_drop l j]
theorem svs_set : ∀ (l : List ShZ) (k : Nat) (g : ShZ), k < l.length → (((svs l).set (k * 3) (.int .i64 g.t)).set (k * 3 + 1) (.int .i64 g.k)).set (k * 3 + 2) (.int .i64 g.s) = svs (l.set k g)
  | [], k, g, h => by simp at h
  | a :: l, 0, g, h => by simp [svs]
  | a :: l, k + 1, g, h => by
    have e : (k + 1) * 3 = k * 3 + 1 + 1 + 1 := by omega
    have := svs_set l k g (by simpa using h)
    rw [e]
    simp only [svs, List.set_cons_succ, List.set_cons_succ]
    rw [← this]
/-- The n shares that the slice at A holds; what it reads lies below block B. -/
structure Shs (w : World) (B : Nat) (A : Option Addr) (n : Nat) (l : List ShZ) : Prop where
  len : l.length = n
  row : 0 < n → ∃ b off, A = some ⟨b, off, none⟩ ∧ b < B ∧ ∀ i u, (svs l)[i]? = some u → w.cell? ⟨b, off + i, none⟩ = some u
  ok : ∀ g, g ∈ l → SOk g
section
variable {w w' : World} {B B' n : Nat} {A : Option Addr} {l : List ShZ}
theorem Shs.keep (h : Shs w B A n l) (hk : ∀ p : Addr, p.block < B → w'.cell? p = w.cell? p) : Shs w' B A n l :=
  ⟨h.len, fun hn => by
    obtain ⟨b, off, rfl, hb, hc⟩ := h.row hn
    exact ⟨b, off, rfl, hb, fun i u hu => (hk ⟨b, off + i, none⟩ hb).trans (hc i u hu)⟩, h.ok⟩
theorem Shs.below (h : Shs w B A n l) (hb : Below B' w w') (hB : B ≤ B') : Shs w' B A n l := h.keep fun _ hp => (hb.mono hB).cell hp
theorem Shs.more (h : Shs w B A n l) (hB : B ≤ B') : Shs w B' A n l :=
  ⟨h.len, fun hn => by
    obtain ⟨b, off, rfl, hb, hc⟩ := h.row hn
    exact ⟨b, off, rfl, by omega, hc⟩, h.ok⟩
/-- Kept by what leaves all old blocks alone. -/
theorem Shs.grow (h : Shs w w.heap.size A n l) (hb : Below w.heap.size w w') : Shs w' w'.heap.size A n l := (h.below hb (Nat.le_refl _)).more hb.size
theorem Shs.drewN (h : Shs w B A n l) (k : Nat) : Shs (w.drewN k) B A n l := h.keep fun _ _ => rfl
theorem Shs.drew (h : Shs w B A n l) : Shs w.drew B A n l := h.keep fun _ _ => rfl
theorem Shs.nil : Shs w B A 0 [] := ⟨rfl, fun h => absurd h (by omega), fun g h => by simp at h⟩
theorem Shs.at_ (h : Shs w B A n l) {k : Nat} (hk : k < n) :
    ∃ b off g, A = some ⟨b, off, none⟩ ∧ b < B ∧ Hid (l[k]? = some g) ∧ SOk g ∧ w.cell? ⟨b, off + k * 3, none⟩ = some (.int .i64 g.t) ∧ w.cell? ⟨b, off + k * 3 + 1, none⟩ = some (.int .i64 g.k) ∧ w.cell? ⟨b, off + k * 3 + 2, none⟩ = some (.int .i64 g.s) := by
  obtain ⟨b, off, rfl, hb, hc⟩ := h.row (by omega)
  have hl := h.len
  have hg : l[k]? = some l[k] := List.getElem?_eq_getElem (by omega)
  have c0 := svs_at l k _ hg 0 (by omega)
  have c1 := svs_at l k _ hg 1 (by omega)
  have c2 := svs_at l k _ hg 2 (by omega)
  exact ⟨b, off, l[k], rfl, hb, hg, h.ok _ (List.getElem_mem ..), hc (k * 3) _ c0, by rw [Nat.add_assoc]; exact hc _ _ c1, by rw [Nat.add_assoc]; exact hc _ _ c2⟩
theorem Shs.lies (h : Shs w B A n l) : Lies w 3 A n (svs l) ∧ Sourced A n := by
  refine ⟨⟨by rw [svs_len, h.len], fun ad hA j u hu => ?_⟩, fun hA => ?_⟩
  · have hj : j < (svs l).length := (List.getElem?_eq_some_iff.1 hu).1
    rw [svs_len, h.len] at hj
    obtain ⟨b, off, e, _, hc⟩ := h.row (by omega)
    rw [hA] at e; injection e with e; subst e
    rw [Go.WideShapes.add_plain]
    exact hc j u hu
  · rcases Nat.eq_zero_or_pos n with h0 | h0
    · exact h0
    · obtain ⟨b, off, e, _⟩ := h.row h0
      rw [hA] at e; cases e
/-- Every row of its own reads as shares. -/
theorem shs_of_own {base c : Nat} {t : TypeId} (h : w.ownsRow base t 3 (.slice A n c) n (svs l)) (hok : ∀ g, g ∈ l → SOk g) : Shs w w.heap.size A n l := by
  have hl : l.length = n := by have := h.1; rw [svs_len] at this; omega
  refine ⟨hl, fun hn => ?_, hok⟩
  obtain ⟨g, cap, hv, _, hlt⟩ := h.form hn
  have hA : A = some ⟨g, 0, none⟩ := by injection hv
  subst hA
  refine ⟨g, 0, rfl, hlt, fun j u hu => ?_⟩
  have := h.cells (g := g) rfl j u hu
  rwa [← Go.WideShapes.add_plain]
end
/-- A row that has just been written out. -/
theorem shs_new (w : World) (l : List ShZ) (n : Nat) (hn : l.length = n) (t : TypeId) (g : Nat) (hg : w.heap.size = g) (hok : ∀ p, p ∈ l → SOk p) : Shs (w.alloc (.cells (svs l).toArray t)) (g + 1) (some ⟨g, 0, none⟩) n l := by
  subst hg hn
  refine ⟨rfl, fun hn => ⟨w.heap.size, 0, rfl, by omega, fun i u hu => ?_⟩, hok⟩
  rw [cell_of_row _ _ _ _ _ _ (heap_alloc_new w _), Nat.zero_add, List.getElem?_toArray, hu]
theorem share_info : ∃ i z, Try.prog.info? 27 = some i ∧ i.zero = some z ∧ i.size = 3 ∧ i.bytes = 24 ∧ z.cells.size = 3 := by
  obtain ⟨i, hi, hz, hs, hb⟩ := info_parts (show (Try.prog.info? 27).map (fun i => (i.zero, i.size, i.bytes)) = some (some (.agg #[.int .i64 0, .int .i64 0, .int .i64 0]), 3, 24) by kernel_rfl)
  exact ⟨i, _, hi, hz, hs, hb, rfl⟩
theorem rshare_info : ∃ i z, Try.prog.info? 24 = some i ∧ i.zero = some z ∧ i.size = 3 ∧ i.bytes = 24 ∧ z.cells.size = 3 := by
  obtain ⟨i, hi, hz, hs, hb⟩ := info_parts (show (Try.prog.info? 24).map (fun i => (i.zero, i.size, i.bytes)) = some (some (.agg #[.int .i64 0, .int .i64 0, .int .i64 0]), 3, 24) by kernel_rfl)
  exact ⟨i, _, hi, hz, hs, hb, rfl⟩
theorem own_shapeQ {w : World} {base n size : Nat} {t : TypeId} {v : Value} {xs : List Value} (h : w.ownsRow base t size v n xs) : ∃ A c, v = .slice A n c ∧ n ≤ c ∧ c ≤ maxLen := by
  rcases h.2 with ⟨rfl, rfl⟩ | ⟨g, cap, cur, rfl, _, _, h1, h2, _⟩
  · exact ⟨none, 0, rfl, Nat.le_refl _, by simp [maxLen]⟩
  · exact ⟨_, _, rfl, h1, h2⟩
theorem below_oneQ (w : World) (o : Obj) : Below w.heap.size w (w.alloc o) := (Below.refl _ _).alloc (Nat.le_refl _) _
theorem drop_atQ {l : List ShZ} {k : Nat} {p : ShZ} (h : l[k]? = some p) : l.drop k = p :: l.drop (k + 1) := by
  obtain ⟨hk, rfl⟩ := List.getElem?_eq_some_iff.1 h
  exact List.drop_eq_getElem_cons hk
theorem take_snocQ (l : List ShZ) (k : Nat) (g : ShZ) (h : l[k]? = some g) : l.take (k + 1) = l.take k ++ [g] := by
  rw [List.take_add_one, h]; rfl
theorem sok_in {x : ShZ} (h : ShIn x) : SOk x := by
  obtain ⟨a, b, c, d, e, f⟩ := h
  exact ⟨by omega, by omega, by omega⟩
theorem sok_0 : SOk sh0 := ⟨by decide, by decide, by decide⟩
end Go.Proofs.Ytpodpbhbagkblaa
