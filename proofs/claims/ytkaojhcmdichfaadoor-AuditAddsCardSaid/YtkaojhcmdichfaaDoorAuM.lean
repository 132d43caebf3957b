/- Links as rows in memory, and in variables. -/
import Derived.Test.YtkaojhcmdichfaaDoorAuZ
import Derived.Test.YtkaojhcmdichfaaDoorB5
import Derived.Test.YtkaojhcmdichfaaDoorB1
import Derived.Laws.StructEq
namespace Go.Proofs.YtkaojhcmdichfaaDoor
open Go.ChangeShapes Go.WideShapes Go.ChangeAt Go.RowKit
set_option linter.unusedVariables false
set_option linter.unusedSimpArgs false
open Plain Sha Au
def InA (x : Int) : Prop := -9223372036854775808 ≤ x ∧ x ≤ 9223372036854775807
structure LOk (g : LinkZ) : Prop where
  n : InA g.n
  st : InA g.st
  op : 0 ≤ g.op ∧ g.op < 256
  tn : InA g.tn
  a : InA g.a
  b : InA g.b
  c : InA g.c
  H : IsBytes g.H
  S : IsBytes g.S
/-- The cells of a link. -/
def lhead (g : LinkZ) : List Value := [.int .i64 g.n, .int .i64 g.st, .int .u8 g.op, .int .i64 g.tn, .int .i64 g.a, .int .i64 g.b, .int .i64 g.c]
def lc (g : LinkZ) : List Value := lhead g ++ (vals g.H ++ vals g.S)
theorem lc_len (g : LinkZ) : (lc g).length = 71 := by
  unfold lc lhead
  simp only [List.length_append, vals_len, g.hH, g.hS, List.length_cons, List.length_nil]
theorem lc_one (g : LinkZ) : ∀ u ∈ lc g, u.oneCell' = true := by
  intro u hu
  unfold lc lhead at hu
  rw [List.mem_append, List.mem_append] at hu
  rcases hu with hu | hu | hu
  · simp only [List.mem_cons, List.not_mem_nil, or_false] at hu
    rcases hu with rfl | rfl | rfl | rfl | rfl | rfl | rfl <;> rfl
  · exact vals_one _ u hu
  · exact vals_one _ u hu
theorem lc_num (g : LinkZ) (i : Nat) (hi : i < 7) : (lc g)[i]? = (lhead g)[i]? := by
  unfold lc
  rw [List.getElem?_append_left (by simpa [lhead] using hi)]
theorem lc_H (g : LinkZ) (j : Nat) (hj : j < 32) : (lc g)[7 + j]? = (vals g.H)[j]? := by
  unfold lc
  rw [List.getElem?_append_right (by simp [lhead]), List.getElem?_append_left (by rw [vals_len, g.hH]; simp [lhead]; omega)]
  simp [lhead]
theorem lc_S (g : LinkZ) (j : Nat) : (lc g)[39 + j]? = (vals g.S)[j]? := by
  unfold lc
  rw [List.getElem?_append_right (by simp [lhead]; omega), List.getElem?_append_right (by rw [vals_len, g.hH]; simp [lhead]; omega)]
  rw [vals_len, g.hH]
  simp [lhead]
  congr 1; omega
theorem lk_size (g : LinkZ) : (Tryd.prog.info? 26).map (·.size) = some (lc g).length := by rw [lc_len]; kernel_rfl
theorem lk_sizeA (g : LinkZ) : (Tryd.prog.info? 26).map (·.size) = some (lc g).toArray.size := by rw [List.size_toArray]; exact lk_size g
theorem lk_one (g : LinkZ) : (lc g).toArray.all (·.oneCell') = true := all_oneCell_toArray (lc_one g)
theorem link_info : ∃ i z, Tryd.prog.info? 26 = some i ∧ i.zero = some z ∧ i.size = 71 ∧ i.bytes = 120 ∧ z.cells.size = 71 := by
  obtain ⟨i, hi, hz, hs, hb⟩ := info_parts (show (Tryd.prog.info? 26).map (fun i => (i.zero, i.size, i.bytes)) = some (some (.agg (lc l0).toArray), 71, 120) by kernel_rfl)
  exact ⟨i, _, hi, hz, hs, hb, by show (lc l0).toArray.size = 71; rw [List.size_toArray, lc_len]⟩
/-- The cells of a row of links. -/
def lvs : List LinkZ → List Value
  | [] => []
  | g :: l => lc g ++ lvs l
theorem lvs_len : ∀ l, (lvs l).length = l.length * 71
  | [] => rfl
  | g :: l => by simp only [lvs, List.length_append, lc_len, List.length_cons, lvs_len l]; omega
theorem lvs_app : ∀ a b, lvs (a ++ b) = lvs a ++ lvs b
  | [], b => rfl
  | g :: a, b => by simp [lvs, lvs_app a b]
theorem lvs_sing (g : LinkZ) : lvs [g] = lc g := by simp [lvs]
theorem lvs_one : ∀ l, ∀ u ∈ lvs l, u.oneCell' = true
  | [], u, h => by simp [lvs] at h
  | g :: l, u, h => by
    simp only [lvs, List.mem_append] at h
    rcases h with h | h
    · exact lc_one g u h
    · exact lvs_one l u h
theorem lvs_at : ∀ (l : List LinkZ) (j : Nat) (g : LinkZ), l[j]? = some g → ∀ i, i < 71 → (lvs l)[j * 71 + i]? = (lc g)[i]?
  | [], j, g, h, i, hi => by simp at h
  | a :: l, 0, g, h, i, hi => by
    obtain rfl : a = g := by simpa using h
    simp only [lvs]
    rw [Nat.zero_mul, Nat.zero_add, List.getElem?_append_left (by rw [lc_len]; exact hi)]
  | a :: l, j + 1, g, h, i, hi => by
    have := lvs_at l j g (by simpa using h) i hi
    simp only [lvs]
    rw [List.getElem?_append_right (by rw [lc_len]; omega), lc_len, show (j + 1) * 71 + i - 71 = j * 71 + i by omega]
    exact this
theorem lvs_set : ∀ (l : List LinkZ) (k : Nat) (g g' : LinkZ) (i : Nat) (u : Value), l[k]? = some g → i < 71 → (lc g).set i u = lc g' → (lvs l).set (k * 71 + i) u = lvs (l.set k g')
  | [], k, g, g', i, u, h, hi, hs => by simp at h
  | a :: l, 0, g, g', i, u, h, hi, hs => by
    obtain rfl : a = g := by simpa using h
    simp only [lvs, List.set_cons_zero]
    rw [Nat.zero_mul, Nat.zero_add, List.set_append, if_pos (by rw [lc_len]; exact hi), hs]
  | a :: l, k + 1, g, g', i, u, h, hi, hs => by
    have := lvs_set l k g g' i u (by simpa using h) hi hs
    simp only [lvs, List.set_cons_succ]
    rw [List.set_append, if_neg (by rw [lc_len]; omega), lc_len, show (k + 1) * 71 + i - 71 = k * 71 + i by omega, this]
/-- The n links that the slice at A holds; what it reads lies below block B. -/
structure Lks (w : World) (B : Nat) (A : Option Addr) (n : Nat) (l : List LinkZ) : Prop where
  len : l.length = n
  row : 0 < n → ∃ b off, A = some ⟨b, off, none⟩ ∧ b < B ∧ ∀ i u, (lvs l)[i]? = some u → w.cell? ⟨b, off + i, none⟩ = some u
  ok : ∀ g, g ∈ l → LOk g
section
variable {w w' : World} {B B' n : Nat} {A : Option Addr} {l : List LinkZ}
theorem Lks.keep (h : Lks w B A n l) (hk : ∀ p : Addr, p.block < B → w'.cell? p = w.cell? p) : Lks w' B A n l :=
  ⟨h.len, fun hn => by
    obtain ⟨b, off, rfl, hb, hc⟩ := h.row hn
    exact ⟨b, off, rfl, hb, fun i u hu => (hk ⟨b, off + i, none⟩ hb).trans (hc i u hu)⟩, h.ok⟩
theorem Lks.below (h : Lks w B A n l) (hb : Below B' w w') (hB : B ≤ B') : Lks w' B A n l := h.keep fun _ hp => (hb.mono hB).cell hp
theorem Lks.more (h : Lks w B A n l) (hB : B ≤ B') : Lks w B' A n l :=
  ⟨h.len, fun hn => by
    obtain ⟨b, off, rfl, hb, hc⟩ := h.row hn
    exact ⟨b, off, rfl, by omega, hc⟩, h.ok⟩
theorem Lks.grow (h : Lks w w.heap.size A n l) (hb : Below w.heap.size w w') : Lks w' w'.heap.size A n l := (h.below hb (Nat.le_refl _)).more hb.size
theorem Lks.drewN (h : Lks w B A n l) (k : Nat) : Lks (w.drewN k) B A n l := h.keep fun _ _ => rfl
theorem Lks.drew (h : Lks w B A n l) : Lks w.drew B A n l := h.keep fun _ _ => rfl
theorem Lks.nil : Lks w B A 0 [] := ⟨rfl, fun h => absurd h (by omega), fun g h => by simp at h⟩
theorem Lks.at_ (h : Lks w B A n l) {k : Nat} (hk : k < n) :
    ∃ b off g, A = some ⟨b, off, none⟩ ∧ b < B ∧ Hid (l[k]? = some g) ∧ LOk g ∧ w.rangeAt b (off + k * 71) (lc g) := by
  obtain ⟨b, off, rfl, hb, hc⟩ := h.row (by omega)
  have hl := h.len
  have hg : l[k]? = some l[k] := List.getElem?_eq_getElem (by omega)
  refine ⟨b, off, l[k], rfl, hb, hg, h.ok _ (List.getElem_mem ..), fun j v hv => ?_⟩
  have hj : j < 71 := by have := (List.getElem?_eq_some_iff.1 hv).1; rwa [lc_len] at this
  have := hc (k * 71 + j) v (by rw [lvs_at l k _ hg j hj]; exact hv)
  rwa [← Nat.add_assoc] at this
theorem Lks.lies (h : Lks w B A n l) : Lies w 71 A n (lvs l) ∧ Sourced A n := by
  refine ⟨⟨by rw [lvs_len, h.len], fun ad hA j u hu => ?_⟩, fun hA => ?_⟩
  · have hj : j < (lvs l).length := (List.getElem?_eq_some_iff.1 hu).1
    rw [lvs_len, h.len] at hj
    obtain ⟨b, off, e, _, hc⟩ := h.row (by omega)
    rw [hA] at e; injection e with e; subst e
    rw [Go.WideShapes.add_plain]
    exact hc j u hu
  · rcases Nat.eq_zero_or_pos n with h0 | h0
    · exact h0
    · obtain ⟨b, off, e, _⟩ := h.row h0
      rw [hA] at e; cases e
/-- A beginning of them. -/
theorem Lks.front (h : Lks w B A n l) (k : Nat) (hk : k ≤ n) : Lks w B A k (l.take k) :=
  ⟨by rw [List.length_take, h.len]; omega, fun h0 => by
    obtain ⟨b, off, rfl, hb, hc⟩ := h.row (by omega)
    refine ⟨b, off, rfl, hb, fun i u hu => hc i u ?_⟩
    have e : lvs l = lvs (l.take k) ++ lvs (l.drop k) := by rw [← lvs_app, List.take_append_drop]
    rw [e, List.getElem?_append_left (List.getElem?_eq_some_iff.1 hu).1]
    exact hu, fun g hg => h.ok g (List.mem_of_mem_take hg)⟩
theorem Lks.tail1 {b off : Nat} (h : Lks w B (some ⟨b, off, none⟩) n l) (hn : 0 < n) : Lks w B (some ⟨b, off + 71, none⟩) (n - 1) (l.drop 1) :=
  ⟨by rw [List.length_drop, h.len], fun h0 => by
    obtain ⟨b', off', hA, hb, hc⟩ := h.row (by omega)
    injection hA with hA; injection hA with e1 e2; subst e1 e2
    refine ⟨b, off + 71, rfl, hb, fun i u hu => ?_⟩
    have hl := h.len
    cases l with
    | nil => simp at hl; omega
    | cons g l =>
      have := hc (71 + i) u (by
        simp only [lvs]
        rw [List.getElem?_append_right (by rw [lc_len]; omega), lc_len, Nat.add_sub_cancel_left]
        simpa using hu)
      rwa [← Nat.add_assoc] at this, fun g hg => h.ok g (List.mem_of_mem_drop hg)⟩
/-- Every row of its own reads as links. -/
theorem lks_of_own {base c : Nat} {t : TypeId} (h : w.ownsRow base t 71 (.slice A n c) n (lvs l)) (hok : ∀ g, g ∈ l → LOk g) : Lks w w.heap.size A n l := by
  have hl : l.length = n := by have := h.1; rw [lvs_len] at this; omega
  refine ⟨hl, fun hn => ?_, hok⟩
  obtain ⟨g, cap, hv, _, hlt⟩ := h.form hn
  have hA : A = some ⟨g, 0, none⟩ := by injection hv
  subst hA
  refine ⟨g, 0, rfl, hlt, fun j u hu => ?_⟩
  have := h.cells (g := g) rfl j u hu
  rwa [← Go.WideShapes.add_plain]
end
theorem own_shapeA {w : World} {base n size : Nat} {t : TypeId} {v : Value} {xs : List Value} (h : w.ownsRow base t size v n xs) : ∃ A c, v = .slice A n c ∧ n ≤ c ∧ c ≤ maxLen := by
  rcases h.2 with ⟨rfl, rfl⟩ | ⟨g, cap, cur, rfl, _, _, h1, h2, _⟩
  · exact ⟨none, 0, rfl, Nat.le_refl _, by simp [maxLen]⟩
  · exact ⟨_, _, rfl, h1, h2⟩
theorem own_noneA (w : World) (base : Nat) (hb : base ≤ w.heap.size) : (w.alloc (.cells #[] 26)).ownsRow base 26 71 (.slice (some ⟨w.heap.size, 0, none⟩) 0 0) 0 (lvs []) :=
  World.ownsRow_lit w #[] 0 hb (by simp [maxLen]) rfl
/-- A row of one link that has just been written out. -/
theorem lks_one (w : World) (g : LinkZ) (hg : LOk g) (t : TypeId) (k : Nat) (hk : w.heap.size = k) : Lks (w.alloc (.cells (lc g).toArray t)) (k + 1) (some ⟨k, 0, none⟩) 1 [g] := by
  subst hk
  refine ⟨rfl, fun _ => ⟨w.heap.size, 0, rfl, by omega, fun i u hu => ?_⟩, fun x hx => by rw [List.mem_singleton] at hx; subst hx; exact hg⟩
  rw [lvs_sing] at hu
  rw [cell_of_row _ _ _ _ _ _ (heap_alloc_new w _), Nat.zero_add, List.getElem?_toArray, hu]
/-- Block b holds the link g from its head on, and may be written. -/
structure LBox (w : World) (b : Nat) (g : LinkZ) : Prop where
  range : w.rangeAt b 0 (lc g)
  there : w.there b 0 71
section
variable {w w' : World} {B b : Nat} {g : LinkZ}
theorem LBox.same (h : LBox w b g) (e : w'.heap[b]? = w.heap[b]?) : LBox w' b g := ⟨rangeAt_same h.range e, there_same h.there e⟩
theorem LBox.lt (h : LBox w b g) : b < w.heap.size := by
  have := h.range 0 (.int .i64 g.n) rfl
  exact World.block_lt_of_cell? _ _ this
theorem LBox.below (h : LBox w b g) (hb : Below B w w') (hB : b < B) : LBox w' b g := h.same (hb.block b hB)
theorem LBox.grow (h : LBox w b g) (hb : Below w.heap.size w w') : LBox w' b g := h.below hb h.lt
theorem LBox.thereA (h : LBox w b g) (u : LinkZ) : w.there b 0 (lc u).toArray.size := by rw [List.size_toArray, lc_len]; exact h.there
end
/-- What the numbers of a link read as, wherever it stands. -/
theorem range_nums {w : World} {b o : Nat} {g : LinkZ} (h : w.rangeAt b o (lc g)) :
    w.cell? ⟨b, o, none⟩ = some (.int .i64 g.n) ∧ w.cell? ⟨b, o + 1, none⟩ = some (.int .i64 g.st) ∧ w.cell? ⟨b, o + 2, none⟩ = some (.int .u8 g.op) ∧ w.cell? ⟨b, o + 3, none⟩ = some (.int .i64 g.tn) ∧ w.cell? ⟨b, o + 4, none⟩ = some (.int .i64 g.a) ∧ w.cell? ⟨b, o + 5, none⟩ = some (.int .i64 g.b) ∧ w.cell? ⟨b, o + 6, none⟩ = some (.int .i64 g.c) :=
  ⟨h 0 _ rfl, h 1 _ rfl, h 2 _ rfl, h 3 _ rfl, h 4 _ rfl, h 5 _ rfl, h 6 _ rfl⟩
theorem range_H {w : World} {b o : Nat} {g : LinkZ} (h : w.rangeAt b o (lc g)) : w.rangeAt b (o + 7) (vals g.H) := fun j v hv => by
  have hj : j < 32 := by have := (List.getElem?_eq_some_iff.1 hv).1; rwa [vals_len, g.hH] at this
  have := h (7 + j) v (by rw [lc_H g j hj]; exact hv)
  rwa [← Nat.add_assoc] at this
theorem range_S {w : World} {b o : Nat} {g : LinkZ} (h : w.rangeAt b o (lc g)) : w.rangeAt b (o + 39) (vals g.S) := fun j v hv => by
  have := h (39 + j) v (by rw [lc_S g j]; exact hv)
  rwa [← Nat.add_assoc] at this
theorem bs_H {w : World} {B b o : Nat} {g : LinkZ} (h : w.rangeAt b o (lc g)) (hg : LOk g) (hB : b < B) : Bs w B (some ⟨b, o + 7, none⟩) 32 g.H :=
  ⟨g.hH, fun j hj => hg.H j (by rw [g.hH]; exact hj), fun _ => ⟨b, o + 7, rfl, hB, fun j hj => range_H h j _ (vals_at _ j (by rw [g.hH]; exact hj))⟩⟩
/-- A new variable of a link. -/
theorem lbox_new (w : World) (g : LinkZ) (y : TypeId) (k : Nat) (hk : w.heap.size = k) : LBox (w.alloc (.cells (lc g).toArray y)) k g := by
  subst hk
  have e := heap_alloc_new w (.cells (lc g).toArray y)
  refine ⟨fun j v hv => ?_, fun j hj => ⟨?_, frozen_of_row _ _ _ _ _ e⟩⟩
  · rw [cell_of_row _ _ _ _ _ _ e, Nat.zero_add, List.getElem?_toArray, hv]
  · rw [cell_of_row _ _ _ _ _ _ e, Nat.zero_add, List.getElem?_toArray, List.getElem?_eq_getElem (by rw [lc_len]; exact hj)]; rfl
/-- Another link is stored into the variable; another own tag; another tag ahead. -/
theorem LBox.store {w : World} {b : Nat} {g : LinkZ} (h : LBox w b g) (u : LinkZ) : LBox (w.setCells b 0 (lc u)) b u :=
  ⟨World.rangeAt_setCells_same _ _ _ _ (by rw [lc_len]; exact h.there), World.there_setCells h.there _ _ _⟩
theorem LBox.setS {w : World} {b : Nat} {g : LinkZ} (h : LBox w b g) {T : List Int} (hT : T.length = 32) : LBox (w.setCells b 39 (vals T)) b { g with S := T, hS := hT } := by
  have hl : (vals T).length = 32 := by rw [vals_len, hT]
  refine ⟨fun j v hv => ?_, World.there_setCells h.there _ _ _⟩
  have hj : j < 71 := by have := (List.getElem?_eq_some_iff.1 hv).1; rwa [lc_len] at this
  by_cases hc : j < 39
  · rw [World.cell?_setCells_out b (vals T) 39 w ⟨b, 0 + j, none⟩ (fun _ _ => .inl (by show 0 + j < 39; omega))]
    refine h.range j v ?_
    rw [← hv]
    by_cases h7 : j < 7
    · rw [lc_num _ _ h7, lc_num _ _ h7]; rfl
    · obtain ⟨i, rfl⟩ : ∃ i, j = 7 + i := ⟨j - 7, by omega⟩
      rw [lc_H _ _ (by omega), lc_H _ _ (by omega)]
  · obtain ⟨i, rfl⟩ : ∃ i, j = 39 + i := ⟨j - 39, by omega⟩
    rw [lc_S] at hv
    have := World.rangeAt_setCells_same w b 39 (vals T) (by rw [hl]; exact there_sub h.there (by omega) (by omega)) i v hv
    rwa [show 0 + (39 + i) = 39 + i from by omega]
theorem LBox.setH {w : World} {b : Nat} {g : LinkZ} (h : LBox w b g) {T : List Int} (hT : T.length = 32) : LBox (w.setCells b 7 (vals T)) b { g with H := T, hH := hT } := by
  have hl : (vals T).length = 32 := by rw [vals_len, hT]
  refine ⟨fun j v hv => ?_, World.there_setCells h.there _ _ _⟩
  have hj : j < 71 := by have := (List.getElem?_eq_some_iff.1 hv).1; rwa [lc_len] at this
  by_cases h7 : j < 7
  · rw [World.cell?_setCells_out b (vals T) 7 w ⟨b, 0 + j, none⟩ (fun _ _ => .inl (by show 0 + j < 7; omega))]
    refine h.range j v ?_
    rw [← hv, lc_num _ _ h7, lc_num _ _ h7]; rfl
  · by_cases hc : j < 39
    · obtain ⟨i, rfl⟩ : ∃ i, j = 7 + i := ⟨j - 7, by omega⟩
      rw [lc_H _ _ (by omega)] at hv
      have := World.rangeAt_setCells_same w b 7 (vals T) (by rw [hl]; exact there_sub h.there (by omega) (by omega)) i v hv
      rwa [show 0 + (7 + i) = 7 + i from by omega]
    · rw [World.cell?_setCells_out b (vals T) 7 w ⟨b, 0 + j, none⟩ (fun _ _ => .inr (by show 7 + (vals T).length ≤ 0 + j; rw [hl]; omega))]
      refine h.range j v ?_
      rw [← hv]
      obtain ⟨i, rfl⟩ : ∃ i, j = 39 + i := ⟨j - 39, by omega⟩
      rw [lc_S, lc_S]
/-- Two links that are the same are held against each other. -/
theorem extract_H (g : LinkZ) : (lc g).toArray.extract 7 (7 + 32) = (vals g.H).toArray := by
  have e : ((lc g).drop 7).take 32 = vals g.H := by
    unfold lc
    rw [List.drop_append_of_le_length (by simp [lhead]), show (lhead g).drop 7 = [] from rfl, List.nil_append, List.take_append_of_le_length (by rw [vals_len, g.hH]; omega), List.take_of_length_le (by rw [vals_len, g.hH]; omega)]
  rw [List.extract_toArray, List.extract_eq_take_drop, show 7 + 32 - 7 = 32 from rfl, e]
theorem extract_S (g : LinkZ) : (lc g).toArray.extract 39 (39 + 32) = (vals g.S).toArray := by
  have e : ((lc g).drop 39).take 32 = vals g.S := by
    unfold lc
    rw [List.drop_append, show (lhead g).drop 39 = [] from rfl, List.nil_append, show 39 - (lhead g).length = 32 from rfl, List.drop_append_of_le_length (by rw [vals_len, g.hH]; omega), List.drop_of_length_le (by rw [vals_len, g.hH]; omega), List.nil_append, List.take_of_length_le (by rw [vals_len, g.hS]; omega)]
  rw [List.extract_toArray, List.extract_eq_take_drop, show 39 + 32 - 39 = 32 from rfl, e]
theorem eqFields_all {P : Program} (d : Nat) (xs ys : Array Value) (w : World) : ∀ fs : List Field, (∀ f ∈ fs, ∃ a b, (part f.type xs f.offset).run P w = .ok a w ∧ (part f.type ys f.offset).run P w = .ok b w ∧ (Op.equalIn d f.type a b).run P w = .ok true w) →
    (Op.eqFields d xs ys fs).run P w = .ok true w
  | [], h => by simp [Op.eqFields]
  | f :: fs, h => by
    obtain ⟨a, b, h1, h2, h3⟩ := h f (by simp)
    have ih := eqFields_all d xs ys w fs (fun f hf => h f (by simp [hf]))
    by_cases hn : f.name ≠ "_"
    · simp only [Op.eqFields, if_pos hn, Sem.run_bind, h1, h2, h3, Result.andThen_ok, Bool.not_true, Bool.false_eq_true, if_false]
      exact ih
    · simp only [Op.eqFields, if_neg hn]
      exact ih
theorem link_fields : (Tryd.prog.fieldsOf 26).toList.map (fun f => (f.type, f.offset)) = [(3, 0), (3, 1), (5, 2), (3, 3), (3, 4), (3, 5), (3, 6), (24, 7), (24, 39)] := by kernel_rfl
theorem link_under : Tryd.prog.underlying 26 = some (.struct (Tryd.prog.fieldsOf 26)) := by kernel_rfl
theorem link_stood : Tryd.prog.stoodInHeld 26 = false := by kernel_rfl
theorem part_int {w : World} {cs : Array Value} {o : Nat} {v : Value} (h : cs[o]? = some v) : (part 3 cs o).run Tryd.prog w = .ok v w := by
  simp [part, isAgg, run_underlying Tryd.underlying3, h, go_sem]
theorem part_u8 {w : World} {cs : Array Value} {o : Nat} {v : Value} (h : cs[o]? = some v) : (part 5 cs o).run Tryd.prog w = .ok v w := by
  simp [part, isAgg, run_underlying Tryd.underlying5, h, go_sem]
theorem part_tag {w : World} {cs : Array Value} {o : Nat} : (part 24 cs o).run Tryd.prog w = .ok (.agg (cs.extract o (o + 32))) w := by
  obtain ⟨i, hi, hs⟩ : ∃ i, Tryd.prog.info? 24 = some i ∧ i.size = 32 := by
    obtain ⟨i, hi, _, hs, _⟩ := info_parts (show (Tryd.prog.info? 24).map (fun i => (i.zero, i.size, i.bytes)) = some (some (.agg (vals (List.replicate 32 0)).toArray), 32, 32) by kernel_rfl)
    exact ⟨i, hi, hs⟩
  simp [part, isAgg, run_underlying Tryd.underlying24, run_sizeOf w hi, hs, go_sem]
theorem run_linkIn (g : LinkZ) (w : World) : (Op.equalIn 10000 26 (.agg (lc g).toArray) (.agg (lc g).toArray)).run Tryd.prog w = .ok true w := by
  rw [run_equalIn_struct w 9999 26 _ _ link_under link_stood]
  refine eqFields_all 9999 _ _ w _ (fun f hf => ?_)
  have hm : (f.type, f.offset) ∈ (Tryd.prog.fieldsOf 26).toList.map (fun f => (f.type, f.offset)) := List.mem_map.2 ⟨f, hf, rfl⟩
  rw [link_fields] at hm
  have hat : ∀ i, (lc g).toArray[i]? = (lc g)[i]? := fun i => List.getElem?_toArray ..
  have hI : ∀ (i : Nat) (x : Int), (lc g)[i]? = some (.int .i64 x) → ∃ a b, (part 3 (lc g).toArray i).run Tryd.prog w = .ok a w ∧ (part 3 (lc g).toArray i).run Tryd.prog w = .ok b w ∧ (Op.equalIn 9999 3 a b).run Tryd.prog w = .ok true w := fun i x h =>
    ⟨_, _, part_int ((hat i).trans h), part_int ((hat i).trans h), by rw [run_equalIn_int w 9998 3 .i64 .i64 _ _ Tryd.underlying3]; simp⟩
  have hB : ∀ (T : List Int) (hT : T.length = 32), (Op.equalIn 9999 24 (.agg (vals T).toArray) (.agg (vals T).toArray)).run Tryd.prog w = .ok true w := fun T hT => by
    obtain ⟨i, z, hi, _⟩ := u8_info
    rw [run_equalIn_array w 9998 (vals T).toArray (vals T).toArray Tryd.underlying24 hi, u8_cells]
    have := run_eqItems8 9997 T T rfl w (List.range 32) (fun i hi => by rw [List.mem_range] at hi; omega)
    rw [this]
    simp
  simp only [List.mem_cons, Prod.mk.injEq, List.not_mem_nil, or_false] at hm
  rcases hm with ⟨e1, e2⟩ | ⟨e1, e2⟩ | ⟨e1, e2⟩ | ⟨e1, e2⟩ | ⟨e1, e2⟩ | ⟨e1, e2⟩ | ⟨e1, e2⟩ | ⟨e1, e2⟩ | ⟨e1, e2⟩ <;> rw [e1, e2]
  · exact hI 0 _ rfl
  · exact hI 1 _ rfl
  · exact ⟨_, _, part_u8 ((hat 2).trans rfl), part_u8 ((hat 2).trans rfl), by rw [run_equalIn_int w 9998 5 .u8 .u8 _ _ Tryd.underlying5]; simp⟩
  · exact hI 3 _ rfl
  · exact hI 4 _ rfl
  · exact hI 5 _ rfl
  · exact hI 6 _ rfl
  · exact ⟨_, _, part_tag, part_tag, by rw [extract_H]; exact hB _ g.hH⟩
  · exact ⟨_, _, part_tag, part_tag, by rw [extract_S]; exact hB _ g.hS⟩
theorem run_lkEq (g : LinkZ) (w : World) : (binOp .eql 26 (.agg (lc g).toArray) (.agg (lc g).toArray)).run Tryd.prog w = .ok (.bool true) w := by
  rw [run_eql_struct, run_linkIn g]; rfl
theorem run_lkNe (g : LinkZ) (w : World) : (binOp .neq 26 (.agg (lc g).toArray) (.agg (lc g).toArray)).run Tryd.prog w = .ok (.bool false) w := by
  rw [run_neq_struct, run_linkIn g]; rfl
end Go.Proofs.YtkaojhcmdichfaaDoor
