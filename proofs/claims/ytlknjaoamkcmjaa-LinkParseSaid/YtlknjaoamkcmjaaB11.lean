/- Texts of the proof, one behind the other: WnZ WnM IvM WnA WnB WnC WnD WnE WnF. -/
import Derived.Test.YtlknjaoamkcmjaaB1
import Derived.Test.YtlknjaoamkcmjaaB5
import Derived.Test.YtlknjaoamkcmjaaB2
import Derived.Test.YtlknjaoamkcmjaaB3
import Derived.Laws.StructEq
import Derived.Deep.DeepCutAuto
import Derived.Deep.CutRange
import Derived.Lib.MinMax
/- Numbers that came already, plainly: the window as it stands, and what the chapter says of it. -/
namespace Go.Proofs.Ytlknjaoamkcmjaa
set_option linter.unusedVariables false
set_option linter.unusedSimpArgs false
namespace Wn
def topZ (S : List Int) : Int := S.foldl max 0
theorem topZ_nil : topZ [] = 0 := rfl
theorem topZ_snoc (S : List Int) (n : Int) : topZ (S ++ [n]) = max (topZ S) n := by simp [topZ]
theorem foldl_max : ∀ (S : List Int) (a : Int), a ≤ S.foldl max a ∧ (∀ n ∈ S, n ≤ S.foldl max a) ∧ (S.foldl max a = a ∨ S.foldl max a ∈ S)
  | [], a => ⟨Int.le_refl _, by simp, .inl rfl⟩
  | x :: S, a => by
    obtain ⟨h1, h2, h3⟩ := foldl_max S (max a x)
    simp only [List.foldl_cons]
    refine ⟨by omega, fun n hn => ?_, ?_⟩
    · rcases List.mem_cons.1 hn with rfl | hn
      · omega
      · exact h2 n hn
    · rcases h3 with h3 | h3
      · by_cases hx : a ≤ x
        · right; rw [h3, show max a x = x by omega]; simp
        · left; rw [h3]; omega
      · right; exact List.mem_cons_of_mem _ h3
theorem top_pos (S : List Int) : 0 ≤ topZ S := (foldl_max S 0).1
theorem top_le {S : List Int} {n : Int} (h : n ∈ S) : n ≤ topZ S := (foldl_max S 0).2.1 n h
theorem top_in (S : List Int) : topZ S = 0 ∨ topZ S ∈ S := (foldl_max S 0).2.2
theorem top_take (S : List Int) (i : Nat) (n : Int) (h : S[i]? = some n) : topZ (S.take (i + 1)) = max (topZ (S.take i)) n := by
  rw [List.take_add_one, h]; exact topZ_snoc _ _
/-- The window as it stands in memory. -/
structure WZ where
  made : Bool
  boot : Int
  top : Int
  F : List Bool
  hF : F.length = 64
theorem WZ.ext' {x y : WZ} (h1 : x.made = y.made) (h2 : x.boot = y.boot) (h3 : x.top = y.top) (h4 : x.F = y.F) : x = y := by
  cases x; cases y; simp only at h1 h2 h3 h4; subst h1 h2 h3 h4; rfl
/-- The flags of the i numbers behind the greatest are cleared. -/
def clr (F : List Bool) (t : Int) : Nat → List Bool
  | 0 => F
  | i + 1 => (clr F t i).set ((t + 1 + (i : Int)) % 64).toNat false
theorem clr_len (F : List Bool) (t : Int) : ∀ i, (clr F t i).length = F.length
  | 0 => rfl
  | i + 1 => by rw [clr, List.length_set, clr_len F t i]
theorem clr_at (F : List Bool) (t : Int) (ht : 0 ≤ t) (hF : F.length = 64) (j : Nat) (hj : j < 64) : ∀ i, (clr F t i).getD j false = if ∃ q : Nat, q < i ∧ (t + 1 + (q : Int)) % 64 = (j : Int) then false else F.getD j false
  | 0 => by simp [clr]
  | i + 1 => by
    have ih := clr_at F t ht hF j hj i
    have hl := clr_len F t i
    rw [clr]
    by_cases he : (t + 1 + (i : Int)) % 64 = (j : Int)
    · rw [if_pos ⟨i, by omega, he⟩]
      rw [he, Int.toNat_natCast, List.getD_eq_getElem?_getD, List.getElem?_set_self (by omega)]; rfl
    · have hne : ((t + 1 + (i : Int)) % 64).toNat ≠ j := by omega
      rw [List.getD_eq_getElem?_getD, List.getElem?_set_ne hne, ← List.getD_eq_getElem?_getD, ih]
      by_cases hq : ∃ q : Nat, q < i ∧ (t + 1 + (q : Int)) % 64 = (j : Int)
      · rw [if_pos hq]
        obtain ⟨q, h1, h2⟩ := hq
        rw [if_pos ⟨q, by omega, h2⟩]
      · rw [if_neg hq, if_neg]
        rintro ⟨q, h1, h2⟩
        rcases Nat.lt_succ_iff_lt_or_eq.1 h1 with h | rfl
        · exact hq ⟨q, h, h2⟩
        · exact he h2
def noF : List Bool := List.replicate 64 false
def anewZ (k : Int) : WZ := ⟨true, k, 0, noF, by simp [noF]⟩
/-- A number is taken. -/
def addZ (y : WZ) (n : Int) : WZ := ⟨y.made, y.boot, max y.top n, (clr y.F y.top (min (n - y.top) 64).toNat).set (n % 64).toNat true, by rw [List.length_set, clr_len, y.hF]⟩
def flag (S : List Int) (i : Nat) : Bool := S.any fun n => n % 64 == (i : Int) && decide (topZ S < n + 64)
def flags (S : List Int) : List Bool := (List.range 64).map (flag S)
theorem flags_len (S : List Int) : (flags S).length = 64 := by simp [flags]
theorem flags_at (S : List Int) (j : Nat) (hj : j < 64) : (flags S).getD j false = flag S j := by
  simp [flags, List.getD_eq_getElem?_getD, List.getElem?_map, List.getElem?_range hj]
/-- The window in which the numbers S of boot b came. -/
def win (b : Int) (S : List Int) : WZ := ⟨true, b, topZ S, flags S, flags_len S⟩
theorem win_none (k : Int) : win k [] = anewZ k := WZ.ext' rfl rfl rfl (by
  show flags [] = noF
  unfold flags noF
  rw [List.eq_replicate_iff]
  refine ⟨by simp, fun b hb => ?_⟩
  obtain ⟨i, _, rfl⟩ := List.mem_map.1 hb
  rfl)
theorem flag_iff (S : List Int) (j : Nat) : flag S j = true ↔ ∃ n ∈ S, n % 64 = (j : Int) ∧ topZ S < n + 64 := by
  simp [flag, List.any_eq_true]
theorem listB_ext {a b : List Bool} (hl : a.length = b.length) (h : ∀ j, j < a.length → a.getD j false = b.getD j false) : a = b := by
  refine List.ext_getElem hl fun j h1 h2 => ?_
  have := h j h1
  rwa [List.getD_eq_getElem?_getD, List.getD_eq_getElem?_getD, List.getElem?_eq_getElem h1, List.getElem?_eq_getElem h2] at this
theorem win_add (b : Int) (S : List Int) (n : Int) (hn : 1 ≤ n) (ht : topZ S < n + 64) (hS : ∀ x ∈ S, 1 ≤ x) : addZ (win b S) n = win b (S ++ [n]) := by
  refine WZ.ext' rfl rfl (topZ_snoc S n).symm ?_
  have h0 := top_pos S
  show (clr (flags S) (topZ S) (min (n - topZ S) 64).toNat).set (n % 64).toNat true = flags (S ++ [n])
  refine listB_ext (by rw [List.length_set, clr_len, flags_len, flags_len]) fun j hj => ?_
  rw [List.length_set, clr_len, flags_len] at hj
  rw [flags_at _ j hj]
  by_cases he : n % 64 = (j : Int)
  · rw [he, Int.toNat_natCast, List.getD_eq_getElem?_getD, List.getElem?_set_self (by rw [clr_len, flags_len]; exact hj)]
    symm
    show flag (S ++ [n]) j = true
    rw [flag_iff]
    exact ⟨n, by simp, he, by rw [topZ_snoc]; omega⟩
  · have hne : (n % 64).toNat ≠ j := by omega
    rw [List.getD_eq_getElem?_getD, List.getElem?_set_ne hne, ← List.getD_eq_getElem?_getD, clr_at _ _ h0 (flags_len S) j hj, flags_at _ j hj]
    rw [Bool.eq_iff_iff, flag_iff, topZ_snoc]
    by_cases hq : ∃ q : Nat, q < (min (n - topZ S) 64).toNat ∧ (topZ S + 1 + (q : Int)) % 64 = (j : Int)
    · rw [if_pos hq]
      obtain ⟨q, hq1, hq2⟩ := hq
      refine ⟨fun h => by simp at h, ?_⟩
      rintro ⟨x, hx, hx1, hx2⟩
      exfalso
      rcases List.mem_append.1 hx with hx | hx
      · have := top_le hx
        have := hS x hx
        omega
      · rw [List.mem_singleton] at hx
        subst hx
        exact he hx1
    · rw [if_neg hq, flag_iff]
      constructor
      · rintro ⟨x, hx, hx1, hx2⟩
        refine ⟨x, List.mem_append_left _ hx, hx1, ?_⟩
        have := top_le hx
        rcases Int.le_total (topZ S) n with hl | hl
        · rw [show max (topZ S) n = n by omega]
          rcases Int.lt_or_le n (x + 64) with h | h
          · exact h
          · exfalso
            refine hq ⟨(x + 64 - topZ S - 1).toNat, ?_, ?_⟩
            · omega
            · rw [Int.toNat_of_nonneg (by omega)]; omega
        · omega
      · rintro ⟨x, hx, hx1, hx2⟩
        rcases List.mem_append.1 hx with hx | hx
        · exact ⟨x, hx, hx1, by omega⟩
        · rw [List.mem_singleton] at hx
          subst hx
          exact absurd hx1 he
theorem win_snoc_in (b : Int) (S : List Int) (n : Int) (h : n ∈ S) : win b (S ++ [n]) = win b S := by
  have ht : topZ (S ++ [n]) = topZ S := by rw [topZ_snoc]; have := top_le h; omega
  refine WZ.ext' rfl rfl ht ?_
  show flags (S ++ [n]) = flags S
  refine listB_ext (by rw [flags_len, flags_len]) fun j hj => ?_
  rw [flags_len] at hj
  rw [flags_at _ j hj, flags_at _ j hj, Bool.eq_iff_iff, flag_iff, flag_iff, ht]
  constructor
  · rintro ⟨x, hx, hx1⟩
    rcases List.mem_append.1 hx with hx | hx
    · exact ⟨x, hx, hx1⟩
    · rw [List.mem_singleton] at hx
      subst hx
      exact ⟨x, h, hx1⟩
  · rintro ⟨x, hx, hx1⟩
    exact ⟨x, List.mem_append_left _ hx, hx1⟩
theorem win_snoc_ne (b : Int) (S : List Int) (n : Int) (ht : topZ S < n + 64) (hS : ∀ x ∈ S, 1 ≤ x) (hn : 1 ≤ n) (h : win b (S ++ [n]) = win b S) : n ∈ S := by
  have h1 : topZ (S ++ [n]) = topZ S := congrArg WZ.top h
  have h2 : flags (S ++ [n]) = flags S := congrArg WZ.F h
  rw [topZ_snoc] at h1
  have hle : n ≤ topZ S := by omega
  have hj : (n % 64).toNat < 64 := by omega
  have h3 : flag (S ++ [n]) (n % 64).toNat = flag S (n % 64).toNat := by rw [← flags_at _ _ hj, h2, flags_at _ _ hj]
  have h4 : flag (S ++ [n]) (n % 64).toNat = true := by
    rw [flag_iff]
    exact ⟨n, by simp, by omega, by rw [topZ_snoc]; omega⟩
  rw [h3, flag_iff] at h4
  obtain ⟨x, hx, hx1, hx2⟩ := h4
  have := top_le hx
  have : x = n := by omega
  exact this ▸ hx
/-- What Take answers, and the boot and the numbers behind it. -/
def takeZ (b : Int) (S : List Int) (k n : Int) : Int × Int × List Int :=
  if k < 0 ∨ n < 1 then (2, b, S)
  else if k < b then (180, b, S)
  else if b < k then (0, k, [n])
  else if n ≤ topZ S - 64 ∨ n ∈ S then (180, b, S)
  else (0, b, S ++ [n])
structure WIn (b : Int) (S : List Int) : Prop where
  lo : -1 ≤ b
  hi : b ≤ 9223372036854775807
  each : ∀ n ∈ S, 1 ≤ n ∧ n ≤ 9223372036854775807
theorem WIn.top {b : Int} {S : List Int} (h : WIn b S) : topZ S ≤ 9223372036854775807 := by
  rcases top_in S with h1 | h1
  · omega
  · exact (h.each _ h1).2
theorem wIn_none : WIn (-1) [] := ⟨by omega, by omega, by simp⟩
theorem wIn_take {b : Int} {S : List Int} (h : WIn b S) {k n : Int} (hk : k ≤ 9223372036854775807) (hn : n ≤ 9223372036854775807) : WIn (takeZ b S k n).2.1 (takeZ b S k n).2.2 := by
  unfold takeZ
  by_cases h1 : k < 0 ∨ n < 1
  · rw [if_pos h1]; exact h
  rw [if_neg h1]
  by_cases h2 : k < b
  · rw [if_pos h2]; exact h
  rw [if_neg h2]
  by_cases h3 : b < k
  · rw [if_pos h3]; exact ⟨by show -1 ≤ k; omega, hk, fun x hx => by rw [List.mem_singleton] at hx; subst hx; omega⟩
  rw [if_neg h3]
  by_cases h4 : n ≤ topZ S - 64 ∨ n ∈ S
  · rw [if_pos h4]; exact h
  rw [if_neg h4]
  refine ⟨h.lo, h.hi, fun x hx => ?_⟩
  rcases List.mem_append.1 hx with hx | hx
  · exact h.each x hx
  · rw [List.mem_singleton] at hx; subst hx; omega
/-- The window that with tells. -/
def withZ (b : Int) (S : List Int) (k n : Int) : WZ :=
  if k < b then win b S
  else if b < k then addZ (anewZ k) n
  else if n ≤ topZ S - 64 then win b S
  else addZ (win b S) n
theorem with_take {b : Int} {S : List Int} (h : WIn b S) {k n : Int} (hk : ¬ k < 0) (hn : ¬ n < 1) :
    withZ b S k n = win (takeZ b S k n).2.1 (takeZ b S k n).2.2 ∧ (withZ b S k n = win b S ↔ (takeZ b S k n).1 = 180) ∧ ((takeZ b S k n).1 = 180 ∨ (takeZ b S k n).1 = 0) := by
  unfold withZ takeZ
  rw [if_neg (show ¬ (k < 0 ∨ n < 1) by omega)]
  by_cases h2 : k < b
  · rw [if_pos h2, if_pos h2]; exact ⟨rfl, by simp, .inl rfl⟩
  rw [if_neg h2, if_neg h2]
  by_cases h3 : b < k
  · rw [if_pos h3, if_pos h3]
    have e : addZ (anewZ k) n = win k [n] := by rw [← win_none, win_add k [] n (by omega) (by rw [topZ_nil]; omega) (by simp)]; rfl
    refine ⟨e, ⟨fun h => ?_, fun h => by simp at h⟩, .inr rfl⟩
    rw [e] at h
    have : k = b := congrArg WZ.boot h
    omega
  rw [if_neg h3, if_neg h3]
  by_cases h4 : n ≤ topZ S - 64
  · rw [if_pos h4, if_pos (Or.inl h4)]; exact ⟨rfl, by simp, .inl rfl⟩
  rw [if_neg h4, win_add b S n (by omega) (by omega) (fun x hx => (h.each x hx).1)]
  by_cases h5 : n ∈ S
  · rw [if_pos (Or.inr h5)]; exact ⟨win_snoc_in b S n h5, ⟨fun _ => rfl, fun _ => win_snoc_in b S n h5⟩, .inl rfl⟩
  · rw [if_neg (by rintro (h | h); exact h4 h; exact h5 h)]
    refine ⟨rfl, ⟨fun h' => ?_, fun h' => by simp at h'⟩, .inr rfl⟩
    exact absurd (win_snoc_ne b S n (by omega) (fun x hx => (h.each x hx).1) (by omega) h') h5
end Wn
end Go.Proofs.Ytlknjaoamkcmjaa
/- A window in memory. -/
namespace Go.Proofs.Ytlknjaoamkcmjaa
open Go.ChangeShapes Go.WideShapes Go.ChangeAt Go.RowKit
set_option linter.unusedVariables false
set_option linter.unusedSimpArgs false
open Plain Sha Wn
def bls (F : List Bool) : List Value := F.map fun q => .bool q
theorem bls_len (F : List Bool) : (bls F).length = F.length := by simp [bls]
theorem bls_at (F : List Bool) (j : Nat) (h : j < F.length) : (bls F)[j]? = some (.bool (F.getD j false)) := by
  simp [bls, List.getElem?_map, List.getElem?_eq_getElem h, List.getD_eq_getElem?_getD]
theorem bls_one (F : List Bool) : ∀ u ∈ bls F, u.oneCell' = true := by
  intro u hu
  obtain ⟨q, _, rfl⟩ := List.mem_map.1 hu
  rfl
theorem bls_set (F : List Bool) (k : Nat) (q : Bool) : (bls F).set k (.bool q) = bls (F.set k q) := by
  simp [bls, List.map_set]
/-- The cells of a window. -/
def whead (x : WZ) : List Value := [.bool x.made, .int .i64 x.boot, .int .i64 x.top]
def wc (x : WZ) : List Value := whead x ++ bls x.F
theorem wc_len (x : WZ) : (wc x).length = 67 := by
  unfold wc whead
  simp only [List.length_append, bls_len, x.hF, List.length_cons, List.length_nil]
theorem wc_one (x : WZ) : ∀ u ∈ wc x, u.oneCell' = true := by
  intro u hu
  unfold wc whead at hu
  rw [List.mem_append] at hu
  rcases hu with hu | hu
  · simp only [List.mem_cons, List.not_mem_nil, or_false] at hu
    rcases hu with rfl | rfl | rfl <;> rfl
  · exact bls_one _ u hu
theorem wc_F (x : WZ) (j : Nat) : (wc x)[3 + j]? = (bls x.F)[j]? := by
  unfold wc
  rw [List.getElem?_append_right (by simp [whead])]
  simp [whead]
def w0 : WZ := ⟨false, 0, 0, noF, by simp [noF]⟩
theorem wn_one (x : WZ) : (wc x).toArray.all (·.oneCell') = true := all_oneCell_toArray (wc_one x)
/-- A new window's cells. -/
def zWc : Array Value := (wc w0).toArray
theorem zWc_size : zWc.size = 67 := by unfold zWc; rw [List.size_toArray, wc_len]
theorem zWc_ne : ¬ zWc = #[] := fun h => by have := zWc_size; rw [h] at this; simp at this
/-- Block b holds the window x from its head on, and may be written. -/
structure WBox (w : World) (b : Nat) (x : WZ) : Prop where
  range : w.rangeAt b 0 (wc x)
  there : w.there b 0 67
section
variable {w w' : World} {B b : Nat} {x : WZ}
theorem WBox.same (h : WBox w b x) (e : w'.heap[b]? = w.heap[b]?) : WBox w' b x := ⟨rangeAt_same h.range e, there_same h.there e⟩
theorem WBox.lt (h : WBox w b x) : b < w.heap.size := by
  have := h.range 0 (.bool x.made) rfl
  exact World.block_lt_of_cell? _ _ this
theorem WBox.below (h : WBox w b x) (hb : Below B w w') (hB : b < B) : WBox w' b x := h.same (hb.block b hB)
theorem WBox.grow (h : WBox w b x) (hb : Below w.heap.size w w') : WBox w' b x := h.below hb h.lt
theorem WBox.drew (h : WBox w b x) : WBox w.drew b x := h.same rfl
theorem WBox.thereA (h : WBox w b x) (u : WZ) : w.there b 0 (wc u).toArray.size := by rw [List.size_toArray, wc_len]; exact h.there
/-- What the numbers read as, and the flags. -/
theorem WBox.c0 (h : WBox w b x) : w.cell? ⟨b, 0, none⟩ = some (.bool x.made) := h.range 0 _ rfl
theorem WBox.c1 (h : WBox w b x) : w.cell? ⟨b, 1, none⟩ = some (.int .i64 x.boot) := by have := h.range 1 (.int .i64 x.boot) rfl; rwa [Nat.zero_add] at this
theorem WBox.c2 (h : WBox w b x) : w.cell? ⟨b, 2, none⟩ = some (.int .i64 x.top) := by have := h.range 2 (.int .i64 x.top) rfl; rwa [Nat.zero_add] at this
theorem WBox.flag (h : WBox w b x) (j : Nat) (hj : j < 64) : w.cell? ⟨b, 3 + j, none⟩ = some (.bool (x.F.getD j false)) := by
  have := h.range (3 + j) _ (by rw [wc_F]; exact bls_at _ j (by rw [x.hF]; exact hj)); rwa [Nat.zero_add] at this
theorem WBox.free (h : WBox w b x) (j : Nat) (hj : j < 67) : w.frozen? ⟨b, j, none⟩ = false := by
  have := (h.there j hj).2; rwa [Nat.zero_add] at this
/-- A new variable of a window. -/
theorem wbox_new (w : World) (x : WZ) (y : TypeId) (k : Nat) (hk : w.heap.size = k) : WBox (w.alloc (.cells (wc x).toArray y)) k x := by
  subst hk
  have e := heap_alloc_new w (.cells (wc x).toArray y)
  refine ⟨fun j v hv => ?_, fun j hj => ⟨?_, frozen_of_row _ _ _ _ _ e⟩⟩
  · rw [cell_of_row _ _ _ _ _ _ e, Nat.zero_add, List.getElem?_toArray, hv]
  · rw [cell_of_row _ _ _ _ _ _ e, Nat.zero_add, List.getElem?_toArray, List.getElem?_eq_getElem (by rw [wc_len]; exact hj)]; rfl
/-- Another window is stored into the variable. -/
theorem WBox.store (h : WBox w b x) (u : WZ) : WBox (w.setCells b 0 (wc u)) b u :=
  ⟨World.rangeAt_setCells_same _ _ _ _ (by rw [wc_len]; exact h.there), World.there_setCells h.there _ _ _⟩
theorem WBox.set1 (h : WBox w b x) {k : Nat} {v : Value} {y : WZ} (hk : k < 67) (e : (wc x).set k v = wc y) : WBox (w.setCell ⟨b, k, none⟩ v) b y := by
  have ht : ∀ j, j < 67 → (w.setCell ⟨b, k, none⟩ v).frozen? ⟨b, j, none⟩ = false := fun j hj => by rw [World.frozen?_setCell]; exact h.free j hj
  have hc : ∀ j u, (wc y)[j]? = some u → (w.setCell ⟨b, k, none⟩ v).cell? ⟨b, j, none⟩ = some u := fun j u hu => by
    rw [← e] at hu
    by_cases hj : k = j
    · subst hj
      rw [List.getElem?_set_self (by rw [wc_len]; exact hk)] at hu
      injection hu with hu
      subst hu
      have := h.range k _ (List.getElem?_eq_getElem (by rw [wc_len]; exact hk))
      rw [Nat.zero_add] at this
      exact World.cell?_setCell_same _ _ _ this
    · rw [List.getElem?_set_ne hj] at hu
      rw [World.cell?_setCell_other _ _ _ _ (fun e' => by injection e' with _ e2; exact hj e2)]
      have := h.range j u hu
      rwa [Nat.zero_add] at this
  refine ⟨fun j u hu => by rw [Nat.zero_add]; exact hc j u hu, fun j hj => ?_⟩
  rw [Nat.zero_add]
  refine ⟨?_, ht j hj⟩
  rw [hc j _ (List.getElem?_eq_getElem (by rw [wc_len]; exact hj))]; rfl
theorem WBox.setTop (h : WBox w b x) (t : Int) : WBox (w.setCell ⟨b, 2, none⟩ (.int .i64 t)) b { x with top := t } := h.set1 (by omega) rfl
theorem WBox.setF (h : WBox w b x) (j : Nat) (q : Bool) (hj : j < 64) (F : List Bool) (hF : F.length = 64) (e : F = x.F.set j q) : WBox (w.setCell ⟨b, 3 + j, none⟩ (.bool q)) b { x with F := F, hF := hF } := h.set1 (by omega) (by
  subst e
  unfold wc
  rw [List.set_append, if_neg (by simp [whead])]
  show whead x ++ (bls x.F).set (3 + j - 3) (.bool q) = _
  rw [show 3 + j - 3 = j by omega, bls_set]; rfl)
/-- What the parts read as, in one fact. -/
theorem wbox_stored {y : TypeId} {g : Nat} (hg : w.heap.size = g) (h : Hid (w' = (w.alloc (.cells zWc y)).setCells g 0 (wc x).toArray.toList)) :
    WBox w' g x ∧ Below w.heap.size w w' ∧ g < w'.heap.size := by
  subst hg
  have b := wbox_new w w0 y _ rfl
  have hb : Below w.heap.size w w' := by rw [h.out]; exact below_setCells (Nat.le_refl _) _ _ _ ((Below.refl _ _).alloc (Nat.le_refl _) _)
  have hx : WBox w' w.heap.size x := by rw [h.out]; exact b.store x
  exact ⟨hx, hb, hx.lt⟩
end
theorem wthere_new (w : World) (x : WZ) (y : TypeId) (k : Nat) (hk : w.heap.size = k) : (w.alloc (.cells zWc y)).there k 0 (wc x).toArray.size := (wbox_new w w0 y k hk).thereA x
/-- Two windows are held against each other. -/
theorem run_partB (F : List Bool) (i : Nat) (hi : i < F.length) (w : World) : (part 4 (bls F).toArray (i * 1)).run Try.prog w = .ok (.bool (F.getD i false)) w := by
  have hx := bls_at F i hi
  simp [part, isAgg, run_underlying Try.underlying4, hx, go_sem]
theorem run_boolIn (d : Nat) (p q : Bool) (w : World) : (Op.equalIn (d + 1) 4 (.bool p) (.bool q)).run Try.prog w = .ok (p == q) w := by
  simp [Op.equalIn, run_underlying Try.underlying4, go_sem]
theorem run_eqItemsB (d : Nat) (a b : List Bool) (hl : a.length = b.length) (w : World) : ∀ (is : List Nat), (∀ i ∈ is, i < a.length) →
    (Op.eqItems (d + 1) 4 1 (bls a).toArray (bls b).toArray is).run Try.prog w = .ok (is.all fun i => a.getD i false == b.getD i false) w
  | [], _ => by simp [Op.eqItems]
  | i :: is, h => by
    have hi := h i (by simp)
    simp only [Op.eqItems, Sem.run_bind, run_partB a i hi w, run_partB b i (by omega) w, Result.andThen_ok, run_boolIn d, List.all_cons]
    have ih := run_eqItemsB d a b hl w is (fun j hj => h j (by simp [hj]))
    cases hc : (a.getD i false == b.getD i false)
    · simp
    · simp only [Bool.not_true, Bool.false_eq_true, if_false, Bool.true_and]
      exact ih
theorem eqB_rangeB (a b : List Bool) (hl : a.length = b.length) : ((List.range a.length).all fun i => a.getD i false == b.getD i false) = decide (a = b) := by
  rw [Bool.eq_iff_iff]
  simp only [List.all_eq_true, List.mem_range, beq_iff_eq, decide_eq_true_eq]
  exact ⟨fun h => listB_ext hl h, fun h _ _ => by rw [h]⟩
theorem bool_cells : Try.prog.cellsOf 4 = 1 := by kernel_rfl
theorem bool_info : ∃ i, Try.prog.info? 4 = some i := by
  obtain ⟨i, hi, _⟩ := info_parts (show (Try.prog.info? 4).map (fun i => (i.zero, i.size, i.bytes)) = some (some (.bool false), 1, 1) by kernel_rfl)
  exact ⟨i, hi⟩
def wnF (x y : WZ) (o : Nat) : Bool := match o with
  | 0 => x.made == y.made
  | 1 => x.boot == y.boot
  | 2 => x.top == y.top
  | _ => decide (x.F = y.F)
def wnB (x y : WZ) : Bool := [0, 1, 2, 3].all (wnF x y)
theorem wnB_iff (x y : WZ) : wnB x y = true ↔ x = y := by
  constructor
  · intro h
    simp [wnB, wnF] at h
    exact WZ.ext' h.1 h.2.1 h.2.2.1 h.2.2.2
  · rintro rfl
    simp [wnB, wnF]
theorem part_int {w : World} {cs : Array Value} {o : Nat} {v : Value} (h : cs[o]? = some v) : (part 3 cs o).run Try.prog w = .ok v w := by
  simp [part, isAgg, run_underlying Try.underlying3, h, go_sem]
theorem part_bool {w : World} {cs : Array Value} {o : Nat} {v : Value} (h : cs[o]? = some v) : (part 4 cs o).run Try.prog w = .ok v w := by
  simp [part, isAgg, run_underlying Try.underlying4, h, go_sem]
theorem extract_F (x : WZ) : (wc x).toArray.extract 3 (3 + 64) = (bls x.F).toArray := by
  have e : ((wc x).drop 3).take 64 = bls x.F := by
    unfold wc
    rw [List.drop_append_of_le_length (by simp [whead]), show (whead x).drop 3 = [] from rfl, List.nil_append, List.take_of_length_le (by rw [bls_len, x.hF]; omega)]
  rw [List.extract_toArray, List.extract_eq_take_drop, show 3 + 64 - 3 = 64 from rfl, e]
theorem eqFields_list {P : Program} (d : Nat) (xs ys : Array Value) (w : World) (q : Field → Bool) : ∀ fs : List Field, (∀ f ∈ fs, f.name ≠ "_" ∧ ∃ a b, (part f.type xs f.offset).run P w = .ok a w ∧ (part f.type ys f.offset).run P w = .ok b w ∧ (Op.equalIn d f.type a b).run P w = .ok (q f) w) →
    (Op.eqFields d xs ys fs).run P w = .ok (fs.all q) w
  | [], h => by simp [Op.eqFields]
  | f :: fs, h => by
    obtain ⟨hn, a, b, h1, h2, h3⟩ := h f (by simp)
    have ih := eqFields_list d xs ys w q fs (fun f hf => h f (by simp [hf]))
    simp only [Op.eqFields, if_pos hn, Sem.run_bind, h1, h2, h3, Result.andThen_ok, List.all_cons]
    cases q f
    · simp
    · simpa using ih
end Go.Proofs.Ytlknjaoamkcmjaa
/- Rows of numbers in memory, of whatever size (out of RgV and RvM, for seats that have no grants). -/
namespace Go.Proofs.Ytlknjaoamkcmjaa
open Go.ChangeShapes Go.WideShapes Go.ChangeAt Go.RowKit
set_option linter.unusedVariables false
/-- Numbers as values; the n numbers that the slice at A holds. -/
def ivs (zs : List Int) : List Value := zs.map (Value.int .i64)
theorem ivs_len (zs : List Int) : (ivs zs).length = zs.length := by simp [ivs]
structure Ir (w : World) (B : Nat) (A : Option Addr) (n : Nat) (zs : List Int) : Prop where
  len : zs.length = n
  row : 0 < n → ∃ b off, A = some ⟨b, off, none⟩ ∧ b < B ∧ ∀ j, j < n → w.cell? ⟨b, off + j, none⟩ = some (.int .i64 (zs.getD j 0))
theorem Ir.below {w w' : World} {B B' n : Nat} {A : Option Addr} {zs : List Int} (h : Ir w B A n zs) (hb : Below B' w w') (hB : B ≤ B') : Ir w' B A n zs :=
  ⟨h.len, fun hn => by
    obtain ⟨b, off, rfl, hlt, hc⟩ := h.row hn
    exact ⟨b, off, rfl, hlt, fun j hj => (hb.cell (p := ⟨b, off + j, none⟩) (by show b < B'; omega)).trans (hc j hj)⟩⟩
theorem Ir.at_ {w : World} {B n : Nat} {A : Option Addr} {zs : List Int} (h : Ir w B A n zs) {k : Nat} (hk : k < n) : ∃ b off, A = some ⟨b, off, none⟩ ∧ b < B ∧ w.cell? ⟨b, off + k, none⟩ = some (.int .i64 (zs.getD k 0)) := by
  obtain ⟨b, off, rfl, hb, hc⟩ := h.row (by omega)
  exact ⟨b, off, rfl, hb, hc k hk⟩
theorem ivs_at (l : List Int) (k : Nat) (h : k < l.length) : (ivs l)[k]? = some (.int .i64 (l.getD k 0)) := by
  simp [ivs, List.getElem?_map, List.getD_eq_getElem?_getD, List.getElem?_eq_getElem h]
section
variable {w w' : World} {B B' n : Nat} {A : Option Addr} {zs : List Int}
theorem Ir.keep (h : Ir w B A n zs) (hk : ∀ p : Addr, p.block < B → w'.cell? p = w.cell? p) : Ir w' B A n zs :=
  ⟨h.len, fun hn => by
    obtain ⟨b, off, rfl, hb, hc⟩ := h.row hn
    exact ⟨b, off, rfl, hb, fun j hj => (hk ⟨b, off + j, none⟩ hb).trans (hc j hj)⟩⟩
theorem Ir.more (h : Ir w B A n zs) (hB : B ≤ B') : Ir w B' A n zs :=
  ⟨h.len, fun hn => by
    obtain ⟨b, off, rfl, hb, hc⟩ := h.row hn
    exact ⟨b, off, rfl, by omega, hc⟩⟩
theorem Ir.drewN (h : Ir w B A n zs) (k : Nat) : Ir (w.drewN k) B A n zs := h.keep fun _ _ => rfl
theorem Ir.drew (h : Ir w B A n zs) : Ir w.drew B A n zs := h.keep fun _ _ => rfl
theorem Ir.nil : Ir w B A 0 [] := ⟨rfl, fun h => absurd h (by omega)⟩
theorem Ir.lies (h : Ir w B A n zs) : Lies w 1 A n (ivs zs) ∧ Sourced A n := by
  refine ⟨⟨by rw [ivs_len, h.len]; omega, fun ad hA j u hu => ?_⟩, fun hA => ?_⟩
  · have hj : j < n := by
      have := (List.getElem?_eq_some_iff.1 hu).1
      rw [ivs_len, h.len] at this; exact this
    obtain ⟨b, off, e, _, hc⟩ := h.row (by omega)
    rw [hA] at e; injection e with e; subst e
    rw [ivs_at _ _ (by rw [h.len]; exact hj)] at hu
    injection hu with hu
    rw [Go.WideShapes.add_plain, hc j hj, hu]
  · rcases Nat.eq_zero_or_pos n with h0 | h0
    · exact h0
    · obtain ⟨b, off, e, _⟩ := h.row h0
      rw [hA] at e; cases e
/-- A piece of it. -/
theorem Ir.cut (h : Ir w B A n zs) {k m : Nat} (hk : k + m ≤ n) (A' : Option Addr) (hA : ∀ b off, A = some ⟨b, off, none⟩ → 0 < m → A' = some ⟨b, off + k, none⟩) : Ir w B A' m ((zs.drop k).take m) := by
  have hl := h.len
  refine ⟨by simp; omega, fun hm => ?_⟩
  obtain ⟨b, off, rfl, hb, hc⟩ := h.row (by omega)
  refine ⟨b, off + k, hA _ _ rfl hm, hb, fun j hj => ?_⟩
  have hg : ((zs.drop k).take m).getD j 0 = zs.getD (k + j) 0 := by
    simp [List.getD_eq_getElem?_getD, List.getElem?_drop, hj]
  rw [hg, Nat.add_assoc]
  exact hc _ (by omega)
/-- Every row of its own reads as numbers. -/
theorem ir_of_own {base c : Nat} {t : TypeId} (h : w.ownsRow base t 1 (.slice A n c) n (ivs zs)) : Ir w w.heap.size A n zs := by
  have hl : zs.length = n := by have := h.1; rw [ivs_len] at this; omega
  refine ⟨hl, fun hn => ?_⟩
  obtain ⟨g, cap, hv, _, hlt⟩ := h.form hn
  have hA : A = some ⟨g, 0, none⟩ := by injection hv
  subst hA
  refine ⟨g, 0, rfl, hlt, fun j hj => ?_⟩
  have := h.cells (g := g) rfl j _ (ivs_at zs j (by omega))
  rwa [← Go.WideShapes.add_plain]
end
end Go.Proofs.Ytlknjaoamkcmjaa
/- A window in which a number has come, too: the program's with. -/
namespace Go.Proofs.Ytlknjaoamkcmjaa
open Go.ChangeShapes Go.WideShapes Go.ChangeAt Go.RowKit
set_option linter.unusedVariables false
set_option linter.unusedSimpArgs false
open Plain Sha Wn
end Go.Proofs.Ytlknjaoamkcmjaa
/- A number is taken: the program's with, its loop. Printed by gen_wna.py. -/
namespace Go.Proofs.Ytlknjaoamkcmjaa
open Go.ChangeShapes Go.WideShapes Go.ChangeAt Go.RowKit
set_option linter.unusedVariables false
set_option linter.unusedSimpArgs false
open Plain Sha Wn
theorem wrap_in {z : Int} (h : -9223372036854775808 ≤ z ∧ z ≤ 9223372036854775807) : wrap64 z = z := by unfold wrap64; omega
/-- What stands behind the loop's first rounds. -/
structure Cleared (w : World) (g : Nat) (y : WZ) (j : Nat) (wr : World) : Prop where
  b : Below g w wr
  x : ∃ F hF, F = clr y.F y.top j ∧ WBox wr g { y with F := F, hF := hF }
  t : wr.there (g + 1) 0 67
end Go.Proofs.Ytlknjaoamkcmjaa
/- The window's calls: New, Take, May, Boot, Top. Printed by gen_wnc.py. -/
namespace Go.Proofs.Ytlknjaoamkcmjaa
open Go.ChangeShapes Go.WideShapes Go.ChangeAt Go.RowKit
set_option linter.unusedVariables false
set_option linter.unusedSimpArgs false
open Plain Sha Wn
def InI (x : Int) : Prop := -9223372036854775808 ≤ x ∧ x ≤ 9223372036854775807
theorem gw_refl (w : World) (r : Option Nat) : w.grownBy w r := ⟨rfl, rfl, rfl, Nat.le_refl _, fun _ _ _ => rfl⟩
theorem gw_of {w w' : World} (h : Below w.heap.size w w') (r : Option Nat) : w.grownBy w' r := ⟨h.os, h.tape, h.output, h.size, fun k hk _ => h.block k hk⟩
theorem gw_drew {w v : World} {r : Option Nat} (h : w.grownBy v r) : w.grownBy v.drew r := ⟨h.os, h.tape, h.output, h.size, h.block⟩
theorem gw_more {w v u : World} {r : Option Nat} (h : w.grownBy v r) (hb : Below v.heap.size v u) : w.grownBy u r :=
  ⟨hb.os.trans h.os, hb.tape.trans h.tape, hb.output.trans h.output, Nat.le_trans h.size hb.size, fun k hk hne => (hb.block k (Nat.lt_of_lt_of_le hk h.size)).trans (h.block k hk hne)⟩
theorem gw_below {w w' : World} {B p : Nat} (h : w.grownBy w' (some p)) (hB : B ≤ p) (hp : B ≤ w.heap.size) : Below B w w' :=
  Below.grown (Below.refl B w) h hp (fun k hk => by injection hk with e; omega)
theorem wbox_apart {w w' : World} {p q : Nat} {x : WZ} (h : WBox w q x) (hg : w.grownBy w' (some p)) (hne : q ≠ p) : WBox w' q x := h.same (hg.block q h.lt (fun e => hne (by injection e)))
theorem win_new : win (-1) [] = anewZ (-1) := win_none (-1)
/-- What Take does to the window at p. -/
def Took (p : Nat) (b : Int) (S : List Int) (k n : Int) (w : World) (e : Ending) (w' : World) : Prop :=
  e = .returned (.int .i64 (takeZ b S k n).1) ∧ WBox w' p (win (takeZ b S k n).2.1 (takeZ b S k n).2.2) ∧ w.grownBy w' (some p)
end Go.Proofs.Ytlknjaoamkcmjaa
/- May, Boot, Top; the document's own window: New, Top. -/
namespace Go.Proofs.Ytlknjaoamkcmjaa
open Go.ChangeShapes Go.WideShapes Go.ChangeAt Go.RowKit
set_option linter.unusedVariables false
set_option linter.unusedSimpArgs false
open Plain Sha Wn
/-- The document's own window, which stands in block q. -/
structure RBox (w : World) (q : Nat) (b : Int) (S : List Int) : Prop where
  c0 : w.cell? ⟨q, 0, none⟩ = some (.int .i64 b)
  f0 : w.frozen? ⟨q, 0, none⟩ = false
  f1 : w.frozen? ⟨q, 1, none⟩ = false
  row : ∃ A c, w.cell? ⟨q, 1, none⟩ = some (.slice A S.length c) ∧ w.ownsRow (q + 1) 3 1 (.slice A S.length c) S.length (ivs S) ∧ S.length ≤ c ∧ c ≤ maxLen
theorem RBox.lt {w : World} {q : Nat} {b : Int} {S : List Int} (h : RBox w q b S) : q < w.heap.size := World.block_lt_of_cell? _ _ h.c0
theorem own_keepR {w w' : World} {base n size : Nat} {t : TypeId} {v : Value} {xs : List Value} (h : w.ownsRow base t size v n xs) (hk : ∀ g, base ≤ g → g < w.heap.size → w'.heap[g]? = w.heap[g]?) : w'.ownsRow base t size v n xs := by
  have hlt := h.lt
  obtain ⟨h1, h2 | ⟨g, cap, cur, rfl, hg, hh, h3⟩⟩ := h
  · exact ⟨h1, .inl h2⟩
  · have := hlt g rfl
    exact ⟨h1, .inr ⟨g, cap, cur, rfl, hg, (hk g this.1 this.2).trans hh, h3⟩⟩
section
variable {w w' : World} {q : Nat} {b : Int} {S : List Int}
theorem RBox.same (h : RBox w q b S) (hk : ∀ g, q ≤ g → g < w.heap.size → w'.heap[g]? = w.heap[g]?) : RBox w' q b S := by
  have e := hk q (Nat.le_refl _) h.lt
  obtain ⟨A, c, h1, h2, h3⟩ := h.row
  exact ⟨(World.cell?_of_block (a := ⟨q, 0, none⟩) e).trans h.c0, (World.frozen?_of_block (a := ⟨q, 0, none⟩) e).trans h.f0, (World.frozen?_of_block (a := ⟨q, 1, none⟩) e).trans h.f1,
    A, c, (World.cell?_of_block (a := ⟨q, 1, none⟩) e).trans h1, own_keepR h2 (fun g h4 h5 => hk g (by omega) h5), h3⟩
theorem RBox.far {p : Nat} (h : RBox w q b S) (hg : w.grownBy w' (some p)) (hp : p < q) : RBox w' q b S := h.same (fun g h1 h2 => hg.block g h2 (fun e => by injection e with e; omega))
theorem RBox.grow (h : RBox w q b S) (hb : Below w.heap.size w w') : RBox w' q b S := h.same (fun g h1 h2 => hb.block g h2)
theorem RBox.drew (h : RBox w q b S) : RBox w.drew q b S := h.same (fun g h1 h2 => rfl)
end
end Go.Proofs.Ytlknjaoamkcmjaa
/- The document's own Take. -/
namespace Go.Proofs.Ytlknjaoamkcmjaa
open Go.ChangeShapes Go.WideShapes Go.ChangeAt Go.RowKit
set_option linter.unusedVariables false
set_option linter.unusedSimpArgs false
open Plain Sha Wn
end Go.Proofs.Ytlknjaoamkcmjaa
/- A window told; the chapter's examples. Printed by gen_wnf.py. -/
namespace Go.Proofs.Ytlknjaoamkcmjaa
open Go.ChangeShapes Go.WideShapes Go.ChangeAt Go.RowKit
set_option linter.unusedVariables false
set_option linter.unusedSimpArgs false
open Plain Sha Wn
/-- Block p holds the window in which the numbers S of boot b came. -/
structure Win (w : World) (p : Nat) (b : Int) (S : List Int) : Prop where
  x : WBox w p (win b S)
  i : WIn b S
theorem Win.apart {w w' : World} {p q : Nat} {b : Int} {S : List Int} (h : Win w q b S) (hg : w.grownBy w' (some p)) (hne : q ≠ p) : Win w' q b S := ⟨wbox_apart h.x hg hne, h.i⟩
theorem Win.below {w w' : World} {B p : Nat} {b : Int} {S : List Int} (h : Win w p b S) (hb : Below B w w') (hB : p < B) : Win w' p b S := ⟨h.x.below hb hB, h.i⟩
theorem Win.drew {w : World} {p : Nat} {b : Int} {S : List Int} (h : Win w p b S) : Win w.drew p b S := ⟨h.x.drew, h.i⟩
end Go.Proofs.Ytlknjaoamkcmjaa
