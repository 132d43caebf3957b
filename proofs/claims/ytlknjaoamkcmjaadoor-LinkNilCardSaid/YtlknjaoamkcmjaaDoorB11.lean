/- Texts of the proof, one behind the other: WnZ WnM IvM WnA WnB WnC WnD WnE WnF. -/
import Derived.Test.YtlknjaoamkcmjaaDoorB1
import Derived.Test.YtlknjaoamkcmjaaDoorB5
import Derived.Test.YtlknjaoamkcmjaaDoorB2
import Derived.Test.YtlknjaoamkcmjaaDoorB3
import Derived.Laws.StructEq
import Derived.Deep.DeepCutAuto
import Derived.Deep.CutRange
import Derived.Lib.MinMax
/- Numbers that came already, plainly: the window as it stands, and what the chapter says of it. -/
namespace Go.Proofs.YtlknjaoamkcmjaaDoor
set_option linter.unusedVariables false
set_option linter.unusedSimpArgs false
namespace Wn
def topZ (S : List Int) : Int := S.foldl max 0
theorem topZ_nil : topZ [] = 0 := rfl
theorem topZ_snoc (S : List Int) (n : Int) : topZ (S ++ [n]) = max (topZ S) n := by simp [topZ]
theorem foldl_max : ∀ (S : List Int) (a : Int), a ≤ S.foldl max a ∧ (∀ n ∈ S, n ≤ S.foldl max a) ∧ (S.foldl max a = a ∨ S.foldl max a ∈ S)
  | [], a => ⟨Int.le_refl _, by simp, .inl rfl⟩
  | x :: S, a => by
    obtain ⟨h1, h2, h3⟩ := foldl_max S (max a x)
    simp only [List.foldl_cons]
    refine ⟨by omega, fun n hn => ?_, ?_⟩
    · rcases List.mem_cons.1 hn with rfl | hn
      · omega
      · exact h2 n hn
    · rcases h3 with h3 | h3
      · by_cases hx : a ≤ x
        · right; rw [h3, show max a x = x by omega]; simp
        · left; rw [h3]; omega
      · right; exact List.mem_cons_of_mem _ h3
theorem top_pos (S : List Int) : 0 ≤ topZ S := (foldl_max S 0).1
theorem top_le {S : List Int} {n : Int} (h : n ∈ S) : n ≤ topZ S := (foldl_max S 0).2.1 n h
theorem top_in (S : List Int) : topZ S = 0 ∨ topZ S ∈ S := (foldl_max S 0).2.2
theorem top_take (S : List Int) (i : Nat) (n : Int) (h : S[i]? = some n) : topZ (S.take (i + 1)) = max (topZ (S.take i)) n := by
  rw [List.take_add_one, h]; exact topZ_snoc _ _
/-- The window as it stands in memory. -/
structure WZ where
  made : Bool
  boot : Int
  top : Int
  F : List Bool
  hF : F.length = 64
theorem WZ.ext' {x y : WZ} (h1 : x.made = y.made) (h2 : x.boot = y.boot) (h3 : x.top = y.top) (h4 : x.F = y.F) : x = y := by
  cases x; cases y; simp only at h1 h2 h3 h4; subst h1 h2 h3 h4; rfl
/-- The flags of the i numbers behind the greatest are cleared. -/
def clr (F : List Bool) (t : Int) : Nat → List Bool
  | 0 => F
  | i + 1 => (clr F t i).set ((t + 1 + (i : Int)) % 64).toNat false
theorem clr_len (F : List Bool) (t : Int) : ∀ i, (clr F t i).length = F.length
  | 0 => rfl
  | i + 1 => by rw [clr, List.length_set, clr_len F t i]
theorem clr_at (F : List Bool) (t : Int) (ht : 0 ≤ t) (hF : F.length = 64) (j : Nat) (hj : j < 64) : ∀ i, (clr F t i).getD j false = if ∃ q : Nat, q < i ∧ (t + 1 + (q : Int)) % 64 = (j : Int) then false else F.getD j false
  | 0 => by simp [clr]
  | i + 1 => by
    have ih := clr_at F t ht hF j hj i
    have hl := clr_len F t i
    rw [clr]
    by_cases he : (t + 1 + (i : Int)) % 64 = (j : Int)
    · rw [if_pos ⟨i, by omega, he⟩]
      rw [he, Int.toNat_natCast, List.getD_eq_getElem?_getD, List.getElem?_set_self (by omega)]; rfl
    · have hne : ((t + 1 + (i : Int)) % 64).toNat ≠ j := by omega
      rw [List.getD_eq_getElem?_getD, List.getElem?_set_ne hne, ← List.getD_eq_getElem?_getD, ih]
      by_cases hq : ∃ q : Nat, q < i ∧ (t + 1 + (q : Int)) % 64 = (j : Int)
      · rw [if_pos hq]
        obtain ⟨q, h1, h2⟩ := hq
        rw [if_pos ⟨q, by omega, h2⟩]
      · rw [if_neg hq, if_neg]
        rintro ⟨q, h1, h2⟩
        rcases Nat.lt_succ_iff_lt_or_eq.1 h1 with h | rfl
        · exact hq ⟨q, h, h2⟩
        · exact he h2
def noF : List Bool := List.replicate 64 false
def anewZ (k : Int) : WZ := ⟨true, k, 0, noF, by simp [noF]⟩
/-- A number is taken. -/
def addZ (y : WZ) (n : Int) : WZ := ⟨y.made, y.boot, max y.top n, (clr y.F y.top (min (n - y.top) 64).toNat).set (n % 64).toNat true, by rw [List.length_set, clr_len, y.hF]⟩
def flag (S : List Int) (i : Nat) : Bool := S.any fun n => n % 64 == (i : Int) && decide (topZ S < n + 64)
def flags (S : List Int) : List Bool := (List.range 64).map (flag S)
theorem flags_len (S : List Int) : (flags S).length = 64 := by simp [flags]
theorem flags_at (S : List Int) (j : Nat) (hj : j < 64) : (flags S).getD j false = flag S j := by
  simp [flags, List.getD_eq_getElem?_getD, List.getElem?_map, List.getElem?_range hj]
/-- The window in which the numbers S of boot b came. -/
def win (b : Int) (S : List Int) : WZ := ⟨true, b, topZ S, flags S, flags_len S⟩
theorem win_none (k : Int) : win k [] = anewZ k := WZ.ext' rfl rfl rfl (by
  show flags [] = noF
  unfold flags noF
  rw [List.eq_replicate_iff]
  refine ⟨by simp, fun b hb => ?_⟩
  obtain ⟨i, _, rfl⟩ := List.mem_map.1 hb
  rfl)
theorem flag_iff (S : List Int) (j : Nat) : flag S j = true ↔ ∃ n ∈ S, n % 64 = (j : Int) ∧ topZ S < n + 64 := by
  simp [flag, List.any_eq_true]
theorem listB_ext {a b : List Bool} (hl : a.length = b.length) (h : ∀ j, j < a.length → a.getD j false = b.getD j false) : a = b := by
  refine List.ext_getElem hl fun j h1 h2 => ?_
  have := h j h1
  rwa [List.getD_eq_getElem?_getD, List.getD_eq_getElem?_getD, List.getElem?_eq_getElem h1, List.getElem?_eq_getElem h2] at this
theorem win_add (b : Int) (S : List Int) (n : Int) (hn : 1 ≤ n) (ht : topZ S < n + 64) (hS : ∀ x ∈ S, 1 ≤ x) : addZ (win b S) n = win b (S ++ [n]) := by
  refine WZ.ext' rfl rfl (topZ_snoc S n).symm ?_
  have h0 := top_pos S
  show (clr (flags S) (topZ S) (min (n - topZ S) 64).toNat).set (n % 64).toNat true = flags (S ++ [n])
  refine listB_ext (by rw [List.length_set, clr_len, flags_len, flags_len]) fun j hj => ?_
  rw [List.length_set, clr_len, flags_len] at hj
  rw [flags_at _ j hj]
  by_cases he : n % 64 = (j : Int)
  · rw [he, Int.toNat_natCast, List.getD_eq_getElem?_getD, List.getElem?_set_self (by rw [clr_len, flags_len]; exact hj)]
    symm
    show flag (S ++ [n]) j = true
    rw [flag_iff]
    exact ⟨n, by simp, he, by rw [topZ_snoc]; omega⟩
  · have hne : (n % 64).toNat ≠ j := by omega
    rw [List.getD_eq_getElem?_getD, List.getElem?_set_ne hne, ← List.getD_eq_getElem?_getD, clr_at _ _ h0 (flags_len S) j hj, flags_at _ j hj]
    rw [Bool.eq_iff_iff, flag_iff, topZ_snoc]
    by_cases hq : ∃ q : Nat, q < (min (n - topZ S) 64).toNat ∧ (topZ S + 1 + (q : Int)) % 64 = (j : Int)
    · rw [if_pos hq]
      obtain ⟨q, hq1, hq2⟩ := hq
      refine ⟨fun h => by simp at h, ?_⟩
      rintro ⟨x, hx, hx1, hx2⟩
      exfalso
      rcases List.mem_append.1 hx with hx | hx
      · have := top_le hx
        have := hS x hx
        omega
      · rw [List.mem_singleton] at hx
        subst hx
        exact he hx1
    · rw [if_neg hq, flag_iff]
      constructor
      · rintro ⟨x, hx, hx1, hx2⟩
        refine ⟨x, List.mem_append_left _ hx, hx1, ?_⟩
        have := top_le hx
        rcases Int.le_total (topZ S) n with hl | hl
        · rw [show max (topZ S) n = n by omega]
          rcases Int.lt_or_le n (x + 64) with h | h
          · exact h
          · exfalso
            refine hq ⟨(x + 64 - topZ S - 1).toNat, ?_, ?_⟩
            · omega
            · rw [Int.toNat_of_nonneg (by omega)]; omega
        · omega
      · rintro ⟨x, hx, hx1, hx2⟩
        rcases List.mem_append.1 hx with hx | hx
        · exact ⟨x, hx, hx1, by omega⟩
        · rw [List.mem_singleton] at hx
          subst hx
          exact absurd hx1 he
theorem win_snoc_in (b : Int) (S : List Int) (n : Int) (h : n ∈ S) : win b (S ++ [n]) = win b S := by
  have ht : topZ (S ++ [n]) = topZ S := by rw [topZ_snoc]; have := top_le h; omega
  refine WZ.ext' rfl rfl ht ?_
  show flags (S ++ [n]) = flags S
  refine listB_ext (by rw [flags_len, flags_len]) fun j hj => ?_
  rw [flags_len] at hj
  rw [flags_at _ j hj, flags_at _ j hj, Bool.eq_iff_iff, flag_iff, flag_iff, ht]
  constructor
  · rintro ⟨x, hx, hx1⟩
    rcases List.mem_append.1 hx with hx | hx
    · exact ⟨x, hx, hx1⟩
    · rw [List.mem_singleton] at hx
      subst hx
      exact ⟨x, h, hx1⟩
  · rintro ⟨x, hx, hx1⟩
    exact ⟨x, List.mem_append_left _ hx, hx1⟩
theorem win_snoc_ne (b : Int) (S : List Int) (n : Int) (ht : topZ S < n + 64) (hS : ∀ x ∈ S, 1 ≤ x) (hn : 1 ≤ n) (h : win b (S ++ [n]) = win b S) : n ∈ S := by
  have h1 : topZ (S ++ [n]) = topZ S := congrArg WZ.top h
  have h2 : flags (S ++ [n]) = flags S := congrArg WZ.F h
  rw [topZ_snoc] at h1
  have hle : n ≤ topZ S := by omega
  have hj : (n % 64).toNat < 64 := by omega
  have h3 : flag (S ++ [n]) (n % 64).toNat = flag S (n % 64).toNat := by rw [← flags_at _ _ hj, h2, flags_at _ _ hj]
  have h4 : flag (S ++ [n]) (n % 64).toNat = true := by
    rw [flag_iff]
    exact ⟨n, by simp, by omega, by rw [topZ_snoc]; omega⟩
  rw [h3, flag_iff] at h4
  obtain ⟨x, hx, hx1, hx2⟩ := h4
  have := top_le hx
  have : x = n := by omega
  exact this ▸ hx
/-- What Take answers, and the boot and the numbers behind it. -/
def takeZ (b : Int) (S : List Int) (k n : Int) : Int × Int × List Int :=
  if k < 0 ∨ n < 1 then (2, b, S)
  else if k < b then (180, b, S)
  else if b < k then (0, k, [n])
  else if n ≤ topZ S - 64 ∨ n ∈ S then (180, b, S)
  else (0, b, S ++ [n])
structure WIn (b : Int) (S : List Int) : Prop where
  lo : -1 ≤ b
  hi : b ≤ 9223372036854775807
  each : ∀ n ∈ S, 1 ≤ n ∧ n ≤ 9223372036854775807
theorem WIn.top {b : Int} {S : List Int} (h : WIn b S) : topZ S ≤ 9223372036854775807 := by
  rcases top_in S with h1 | h1
  · omega
  · exact (h.each _ h1).2
theorem wIn_none : WIn (-1) [] := ⟨by omega, by omega, by simp⟩
theorem wIn_take {b : Int} {S : List Int} (h : WIn b S) {k n : Int} (hk : k ≤ 9223372036854775807) (hn : n ≤ 9223372036854775807) : WIn (takeZ b S k n).2.1 (takeZ b S k n).2.2 := by
  unfold takeZ
  by_cases h1 : k < 0 ∨ n < 1
  · rw [if_pos h1]; exact h
  rw [if_neg h1]
  by_cases h2 : k < b
  · rw [if_pos h2]; exact h
  rw [if_neg h2]
  by_cases h3 : b < k
  · rw [if_pos h3]; exact ⟨by show -1 ≤ k; omega, hk, fun x hx => by rw [List.mem_singleton] at hx; subst hx; omega⟩
  rw [if_neg h3]
  by_cases h4 : n ≤ topZ S - 64 ∨ n ∈ S
  · rw [if_pos h4]; exact h
  rw [if_neg h4]
  refine ⟨h.lo, h.hi, fun x hx => ?_⟩
  rcases List.mem_append.1 hx with hx | hx
  · exact h.each x hx
  · rw [List.mem_singleton] at hx; subst hx; omega
/-- The window that with tells. -/
def withZ (b : Int) (S : List Int) (k n : Int) : WZ :=
  if k < b then win b S
  else if b < k then addZ (anewZ k) n
  else if n ≤ topZ S - 64 then win b S
  else addZ (win b S) n
theorem with_take {b : Int} {S : List Int} (h : WIn b S) {k n : Int} (hk : ¬ k < 0) (hn : ¬ n < 1) :
    withZ b S k n = win (takeZ b S k n).2.1 (takeZ b S k n).2.2 ∧ (withZ b S k n = win b S ↔ (takeZ b S k n).1 = 180) ∧ ((takeZ b S k n).1 = 180 ∨ (takeZ b S k n).1 = 0) := by
  unfold withZ takeZ
  rw [if_neg (show ¬ (k < 0 ∨ n < 1) by omega)]
  by_cases h2 : k < b
  · rw [if_pos h2, if_pos h2]; exact ⟨rfl, by simp, .inl rfl⟩
  rw [if_neg h2, if_neg h2]
  by_cases h3 : b < k
  · rw [if_pos h3, if_pos h3]
    have e : addZ (anewZ k) n = win k [n] := by rw [← win_none, win_add k [] n (by omega) (by rw [topZ_nil]; omega) (by simp)]; rfl
    refine ⟨e, ⟨fun h => ?_, fun h => by simp at h⟩, .inr rfl⟩
    rw [e] at h
    have : k = b := congrArg WZ.boot h
    omega
  rw [if_neg h3, if_neg h3]
  by_cases h4 : n ≤ topZ S - 64
  · rw [if_pos h4, if_pos (Or.inl h4)]; exact ⟨rfl, by simp, .inl rfl⟩
  rw [if_neg h4, win_add b S n (by omega) (by omega) (fun x hx => (h.each x hx).1)]
  by_cases h5 : n ∈ S
  · rw [if_pos (Or.inr h5)]; exact ⟨win_snoc_in b S n h5, ⟨fun _ => rfl, fun _ => win_snoc_in b S n h5⟩, .inl rfl⟩
  · rw [if_neg (by rintro (h | h); exact h4 h; exact h5 h)]
    refine ⟨rfl, ⟨fun h' => ?_, fun h' => by simp at h'⟩, .inr rfl⟩
    exact absurd (win_snoc_ne b S n (by omega) (fun x hx => (h.each x hx).1) (by omega) h') h5
end Wn
end Go.Proofs.YtlknjaoamkcmjaaDoor
/- A window in memory. -/
namespace Go.Proofs.YtlknjaoamkcmjaaDoor
open Go.ChangeShapes Go.WideShapes Go.ChangeAt Go.RowKit
set_option linter.unusedVariables false
set_option linter.unusedSimpArgs false
open Plain Sha Wn
def bls (F : List Bool) : List Value := F.map fun q => .bool q
theorem bls_len (F : List Bool) : (bls F).length = F.length := by simp [bls]
theorem bls_at (F : List Bool) (j : Nat) (h : j < F.length) : (bls F)[j]? = some (.bool (F.getD j false)) := by
  simp [bls, List.getElem?_map, List.getElem?_eq_getElem h, List.getD_eq_getElem?_getD]
theorem bls_one (F : List Bool) : ∀ u ∈ bls F, u.oneCell' = true := by
  intro u hu
  obtain ⟨q, _, rfl⟩ := List.mem_map.1 hu
  rfl
theorem bls_set (F : List Bool) (k : Nat) (q : Bool) : (bls F).set k (.bool q) = bls (F.set k q) := by
  simp [bls, List.map_set]
/-- The cells of a window. -/
def whead (x : WZ) : List Value := [.bool x.made, .int .i64 x.boot, .int .i64 x.top]
def wc (x : WZ) : List Value := whead x ++ bls x.F
theorem wc_len (x : WZ) : (wc x).length = 67 := by
  unfold wc whead
  simp only [List.length_append, bls_len, x.hF, List.length_cons, List.length_nil]
theorem wc_one (x : WZ) : ∀ u ∈ wc x, u.oneCell' = true := by
  intro u hu
  unfold wc whead at hu
  rw [List.mem_append] at hu
  rcases hu with hu | hu
  · simp only [List.mem_cons, List.not_mem_nil, or_false] at hu
    rcases hu with rfl | rfl | rfl <;> rfl
  · exact bls_one _ u hu
theorem wc_F (x : WZ) (j : Nat) : (wc x)[3 + j]? = (bls x.F)[j]? := by
  unfold wc
  rw [List.getElem?_append_right (by simp [whead])]
  simp [whead]
def w0 : WZ := ⟨false, 0, 0, noF, by simp [noF]⟩
theorem wn_size (x : WZ) : (Tryd.prog.info? 115).map (·.size) = some (wc x).length := by rw [wc_len]; kernel_rfl
theorem wn_sizeA (x : WZ) : (Tryd.prog.info? 115).map (·.size) = some (wc x).toArray.size := by rw [List.size_toArray]; exact wn_size x
theorem wn_one (x : WZ) : (wc x).toArray.all (·.oneCell') = true := all_oneCell_toArray (wc_one x)
/-- A new window's cells. -/
def zWc : Array Value := (wc w0).toArray
theorem zWc_size : zWc.size = 67 := by unfold zWc; rw [List.size_toArray, wc_len]
theorem zWc_ne : ¬ zWc = #[] := fun h => by have := zWc_size; rw [h] at this; simp at this
theorem zWk (w : World) : (zeroValue 115).run Tryd.prog w = .ok (.agg zWc) w := by
  obtain ⟨i, hi, hz, hs, hb⟩ := info_parts (show (Tryd.prog.info? 115).map (fun i => (i.zero, i.size, i.bytes)) = some (some (.agg (wc w0).toArray), 67, 88) by kernel_rfl)
  simp [zeroValue, run_typeInfo w hi, hz, zWc]
/-- Block b holds the window x from its head on, and may be written. -/
structure WBox (w : World) (b : Nat) (x : WZ) : Prop where
  range : w.rangeAt b 0 (wc x)
  there : w.there b 0 67
section
variable {w w' : World} {B b : Nat} {x : WZ}
theorem WBox.same (h : WBox w b x) (e : w'.heap[b]? = w.heap[b]?) : WBox w' b x := ⟨rangeAt_same h.range e, there_same h.there e⟩
theorem WBox.lt (h : WBox w b x) : b < w.heap.size := by
  have := h.range 0 (.bool x.made) rfl
  exact World.block_lt_of_cell? _ _ this
theorem WBox.below (h : WBox w b x) (hb : Below B w w') (hB : b < B) : WBox w' b x := h.same (hb.block b hB)
theorem WBox.grow (h : WBox w b x) (hb : Below w.heap.size w w') : WBox w' b x := h.below hb h.lt
theorem WBox.drew (h : WBox w b x) : WBox w.drew b x := h.same rfl
theorem WBox.thereA (h : WBox w b x) (u : WZ) : w.there b 0 (wc u).toArray.size := by rw [List.size_toArray, wc_len]; exact h.there
/-- What the numbers read as, and the flags. -/
theorem WBox.c0 (h : WBox w b x) : w.cell? ⟨b, 0, none⟩ = some (.bool x.made) := h.range 0 _ rfl
theorem WBox.c1 (h : WBox w b x) : w.cell? ⟨b, 1, none⟩ = some (.int .i64 x.boot) := by have := h.range 1 (.int .i64 x.boot) rfl; rwa [Nat.zero_add] at this
theorem WBox.c2 (h : WBox w b x) : w.cell? ⟨b, 2, none⟩ = some (.int .i64 x.top) := by have := h.range 2 (.int .i64 x.top) rfl; rwa [Nat.zero_add] at this
theorem WBox.flag (h : WBox w b x) (j : Nat) (hj : j < 64) : w.cell? ⟨b, 3 + j, none⟩ = some (.bool (x.F.getD j false)) := by
  have := h.range (3 + j) _ (by rw [wc_F]; exact bls_at _ j (by rw [x.hF]; exact hj)); rwa [Nat.zero_add] at this
theorem WBox.free (h : WBox w b x) (j : Nat) (hj : j < 67) : w.frozen? ⟨b, j, none⟩ = false := by
  have := (h.there j hj).2; rwa [Nat.zero_add] at this
/-- A new variable of a window. -/
theorem wbox_new (w : World) (x : WZ) (y : TypeId) (k : Nat) (hk : w.heap.size = k) : WBox (w.alloc (.cells (wc x).toArray y)) k x := by
  subst hk
  have e := heap_alloc_new w (.cells (wc x).toArray y)
  refine ⟨fun j v hv => ?_, fun j hj => ⟨?_, frozen_of_row _ _ _ _ _ e⟩⟩
  · rw [cell_of_row _ _ _ _ _ _ e, Nat.zero_add, List.getElem?_toArray, hv]
  · rw [cell_of_row _ _ _ _ _ _ e, Nat.zero_add, List.getElem?_toArray, List.getElem?_eq_getElem (by rw [wc_len]; exact hj)]; rfl
/-- Another window is stored into the variable. -/
theorem WBox.store (h : WBox w b x) (u : WZ) : WBox (w.setCells b 0 (wc u)) b u :=
  ⟨World.rangeAt_setCells_same _ _ _ _ (by rw [wc_len]; exact h.there), World.there_setCells h.there _ _ _⟩
theorem WBox.set1 (h : WBox w b x) {k : Nat} {v : Value} {y : WZ} (hk : k < 67) (e : (wc x).set k v = wc y) : WBox (w.setCell ⟨b, k, none⟩ v) b y := by
  have ht : ∀ j, j < 67 → (w.setCell ⟨b, k, none⟩ v).frozen? ⟨b, j, none⟩ = false := fun j hj => by rw [World.frozen?_setCell]; exact h.free j hj
  have hc : ∀ j u, (wc y)[j]? = some u → (w.setCell ⟨b, k, none⟩ v).cell? ⟨b, j, none⟩ = some u := fun j u hu => by
    rw [← e] at hu
    by_cases hj : k = j
    · subst hj
      rw [List.getElem?_set_self (by rw [wc_len]; exact hk)] at hu
      injection hu with hu
      subst hu
      have := h.range k _ (List.getElem?_eq_getElem (by rw [wc_len]; exact hk))
      rw [Nat.zero_add] at this
      exact World.cell?_setCell_same _ _ _ this
    · rw [List.getElem?_set_ne hj] at hu
      rw [World.cell?_setCell_other _ _ _ _ (fun e' => by injection e' with _ e2; exact hj e2)]
      have := h.range j u hu
      rwa [Nat.zero_add] at this
  refine ⟨fun j u hu => by rw [Nat.zero_add]; exact hc j u hu, fun j hj => ?_⟩
  rw [Nat.zero_add]
  refine ⟨?_, ht j hj⟩
  rw [hc j _ (List.getElem?_eq_getElem (by rw [wc_len]; exact hj))]; rfl
theorem WBox.setTop (h : WBox w b x) (t : Int) : WBox (w.setCell ⟨b, 2, none⟩ (.int .i64 t)) b { x with top := t } := h.set1 (by omega) rfl
theorem WBox.setF (h : WBox w b x) (j : Nat) (q : Bool) (hj : j < 64) (F : List Bool) (hF : F.length = 64) (e : F = x.F.set j q) : WBox (w.setCell ⟨b, 3 + j, none⟩ (.bool q)) b { x with F := F, hF := hF } := h.set1 (by omega) (by
  subst e
  unfold wc
  rw [List.set_append, if_neg (by simp [whead])]
  show whead x ++ (bls x.F).set (3 + j - 3) (.bool q) = _
  rw [show 3 + j - 3 = j by omega, bls_set]; rfl)
/-- What the parts read as, in one fact. -/
theorem wbox_stored {y : TypeId} {g : Nat} (hg : w.heap.size = g) (h : Hid (w' = (w.alloc (.cells zWc y)).setCells g 0 (wc x).toArray.toList)) :
    WBox w' g x ∧ Below w.heap.size w w' ∧ g < w'.heap.size := by
  subst hg
  have b := wbox_new w w0 y _ rfl
  have hb : Below w.heap.size w w' := by rw [h.out]; exact below_setCells (Nat.le_refl _) _ _ _ ((Below.refl _ _).alloc (Nat.le_refl _) _)
  have hx : WBox w' w.heap.size x := by rw [h.out]; exact b.store x
  exact ⟨hx, hb, hx.lt⟩
end
theorem wthere_new (w : World) (x : WZ) (y : TypeId) (k : Nat) (hk : w.heap.size = k) : (w.alloc (.cells zWc y)).there k 0 (wc x).toArray.size := (wbox_new w w0 y k hk).thereA x
/-- Two windows are held against each other. -/
theorem run_partB (F : List Bool) (i : Nat) (hi : i < F.length) (w : World) : (part 4 (bls F).toArray (i * 1)).run Tryd.prog w = .ok (.bool (F.getD i false)) w := by
  have hx := bls_at F i hi
  simp [part, isAgg, run_underlying Tryd.underlying4, hx, go_sem]
theorem run_boolIn (d : Nat) (p q : Bool) (w : World) : (Op.equalIn (d + 1) 4 (.bool p) (.bool q)).run Tryd.prog w = .ok (p == q) w := by
  simp [Op.equalIn, run_underlying Tryd.underlying4, go_sem]
theorem run_eqItemsB (d : Nat) (a b : List Bool) (hl : a.length = b.length) (w : World) : ∀ (is : List Nat), (∀ i ∈ is, i < a.length) →
    (Op.eqItems (d + 1) 4 1 (bls a).toArray (bls b).toArray is).run Tryd.prog w = .ok (is.all fun i => a.getD i false == b.getD i false) w
  | [], _ => by simp [Op.eqItems]
  | i :: is, h => by
    have hi := h i (by simp)
    simp only [Op.eqItems, Sem.run_bind, run_partB a i hi w, run_partB b i (by omega) w, Result.andThen_ok, run_boolIn d, List.all_cons]
    have ih := run_eqItemsB d a b hl w is (fun j hj => h j (by simp [hj]))
    cases hc : (a.getD i false == b.getD i false)
    · simp
    · simp only [Bool.not_true, Bool.false_eq_true, if_false, Bool.true_and]
      exact ih
theorem eqB_rangeB (a b : List Bool) (hl : a.length = b.length) : ((List.range a.length).all fun i => a.getD i false == b.getD i false) = decide (a = b) := by
  rw [Bool.eq_iff_iff]
  simp only [List.all_eq_true, List.mem_range, beq_iff_eq, decide_eq_true_eq]
  exact ⟨fun h => listB_ext hl h, fun h _ _ => by rw [h]⟩
theorem bool_cells : Tryd.prog.cellsOf 4 = 1 := by kernel_rfl
theorem bool_info : ∃ i, Tryd.prog.info? 4 = some i := by
  obtain ⟨i, hi, _⟩ := info_parts (show (Tryd.prog.info? 4).map (fun i => (i.zero, i.size, i.bytes)) = some (some (.bool false), 1, 1) by kernel_rfl)
  exact ⟨i, hi⟩
theorem run_arrIn (d : Nat) (a b : List Bool) (ha : a.length = 64) (hb : b.length = 64) (w : World) : (Op.equalIn (d + 2) 113 (.agg (bls a).toArray) (.agg (bls b).toArray)).run Tryd.prog w = .ok (decide (a = b)) w := by
  obtain ⟨i, hi⟩ := bool_info
  rw [run_equalIn_array w (d + 1) (bls a).toArray (bls b).toArray Tryd.underlying113 hi, bool_cells]
  have := run_eqItemsB d a b (by omega) w (List.range 64) (fun i hi => by rw [List.mem_range] at hi; omega)
  rw [this, ← eqB_rangeB a b (by omega), ha]
def wnF (x y : WZ) (o : Nat) : Bool := match o with
  | 0 => x.made == y.made
  | 1 => x.boot == y.boot
  | 2 => x.top == y.top
  | _ => decide (x.F = y.F)
def wnB (x y : WZ) : Bool := [0, 1, 2, 3].all (wnF x y)
theorem wnB_iff (x y : WZ) : wnB x y = true ↔ x = y := by
  constructor
  · intro h
    simp [wnB, wnF] at h
    exact WZ.ext' h.1 h.2.1 h.2.2.1 h.2.2.2
  · rintro rfl
    simp [wnB, wnF]
theorem wn_fields : (Tryd.prog.fieldsOf 115).toList.map (fun f => (f.type, f.offset)) = [(4, 0), (3, 1), (3, 2), (113, 3)] := by kernel_rfl
theorem wn_under : Tryd.prog.underlying 115 = some (.struct (Tryd.prog.fieldsOf 115)) := by kernel_rfl
theorem wn_stood : Tryd.prog.stoodInHeld 115 = false := by kernel_rfl
theorem wn_names : (Tryd.prog.fieldsOf 115).toList.all (fun f => !(f.name == "_")) = true := by kernel_rfl
theorem part_int {w : World} {cs : Array Value} {o : Nat} {v : Value} (h : cs[o]? = some v) : (part 3 cs o).run Tryd.prog w = .ok v w := by
  simp [part, isAgg, run_underlying Tryd.underlying3, h, go_sem]
theorem part_bool {w : World} {cs : Array Value} {o : Nat} {v : Value} (h : cs[o]? = some v) : (part 4 cs o).run Tryd.prog w = .ok v w := by
  simp [part, isAgg, run_underlying Tryd.underlying4, h, go_sem]
theorem part_arr {w : World} {cs : Array Value} {o : Nat} : (part 113 cs o).run Tryd.prog w = .ok (.agg (cs.extract o (o + 64))) w := by
  obtain ⟨i, hi, hs⟩ : ∃ i, Tryd.prog.info? 113 = some i ∧ i.size = 64 := by
    obtain ⟨i, hi, _, hs, _⟩ := info_parts (show (Tryd.prog.info? 113).map (fun i => (i.zero, i.size, i.bytes)) = some (some (.agg (bls (List.replicate 64 false)).toArray), 64, 64) by kernel_rfl)
    exact ⟨i, hi, hs⟩
  simp [part, isAgg, run_underlying Tryd.underlying113, run_sizeOf w hi, hs, go_sem]
theorem extract_F (x : WZ) : (wc x).toArray.extract 3 (3 + 64) = (bls x.F).toArray := by
  have e : ((wc x).drop 3).take 64 = bls x.F := by
    unfold wc
    rw [List.drop_append_of_le_length (by simp [whead]), show (whead x).drop 3 = [] from rfl, List.nil_append, List.take_of_length_le (by rw [bls_len, x.hF]; omega)]
  rw [List.extract_toArray, List.extract_eq_take_drop, show 3 + 64 - 3 = 64 from rfl, e]
theorem eqFields_list {P : Program} (d : Nat) (xs ys : Array Value) (w : World) (q : Field → Bool) : ∀ fs : List Field, (∀ f ∈ fs, f.name ≠ "_" ∧ ∃ a b, (part f.type xs f.offset).run P w = .ok a w ∧ (part f.type ys f.offset).run P w = .ok b w ∧ (Op.equalIn d f.type a b).run P w = .ok (q f) w) →
    (Op.eqFields d xs ys fs).run P w = .ok (fs.all q) w
  | [], h => by simp [Op.eqFields]
  | f :: fs, h => by
    obtain ⟨hn, a, b, h1, h2, h3⟩ := h f (by simp)
    have ih := eqFields_list d xs ys w q fs (fun f hf => h f (by simp [hf]))
    simp only [Op.eqFields, if_pos hn, Sem.run_bind, h1, h2, h3, Result.andThen_ok, List.all_cons]
    cases q f
    · simp
    · simpa using ih
set_option maxRecDepth 100000 in
theorem run_wnIn (g h : WZ) (w : World) : (Op.equalIn 10000 115 (.agg (wc g).toArray) (.agg (wc h).toArray)).run Tryd.prog w = .ok (wnB g h) w := by
  rw [run_equalIn_struct w 9999 115 _ _ wn_under wn_stood]
  have hat : ∀ (x : WZ) (i : Nat), (wc x).toArray[i]? = (wc x)[i]? := fun x i => List.getElem?_toArray ..
  have hI : ∀ (i : Nat) (x y : Int), (wc g)[i]? = some (.int .i64 x) → (wc h)[i]? = some (.int .i64 y) → ∃ a b, (part 3 (wc g).toArray i).run Tryd.prog w = .ok a w ∧ (part 3 (wc h).toArray i).run Tryd.prog w = .ok b w ∧ (Op.equalIn 9999 3 a b).run Tryd.prog w = .ok (x == y) w := fun i x y h1 h2 =>
    ⟨_, _, part_int ((hat g i).trans h1), part_int ((hat h i).trans h2), by rw [run_equalIn_int w 9998 3 .i64 .i64 _ _ Tryd.underlying3]⟩
  have hF := eqFields_list 9999 (wc g).toArray (wc h).toArray w (fun f => wnF g h f.offset) (Tryd.prog.fieldsOf 115).toList (fun f hf => by
    refine ⟨?_, ?_⟩
    · have := wn_names
      rw [List.all_eq_true] at this
      have := this f hf
      simpa using this
    · have hm : (f.type, f.offset) ∈ (Tryd.prog.fieldsOf 115).toList.map (fun f => (f.type, f.offset)) := List.mem_map.2 ⟨f, hf, rfl⟩
      rw [wn_fields] at hm
      simp only [List.mem_cons, Prod.mk.injEq, List.not_mem_nil, or_false] at hm
      rcases hm with ⟨e1, e2⟩ | ⟨e1, e2⟩ | ⟨e1, e2⟩ | ⟨e1, e2⟩ <;> rw [e1, e2]
      · exact ⟨_, _, part_bool ((hat g 0).trans rfl), part_bool ((hat h 0).trans rfl), run_boolIn 9998 _ _ w⟩
      · exact hI 1 _ _ rfl rfl
      · exact hI 2 _ _ rfl rfl
      · exact ⟨_, _, part_arr, part_arr, by rw [extract_F, extract_F]; exact run_arrIn 9997 _ _ g.hF h.hF w⟩)
  rw [hF]
  congr 1
theorem run_wnEq (g h : WZ) (w : World) : (binOp .eql 115 (.agg (wc g).toArray) (.agg (wc h).toArray)).run Tryd.prog w = .ok (.bool (wnB g h)) w := by
  rw [run_eql_struct, run_wnIn g h]; rfl
end Go.Proofs.YtlknjaoamkcmjaaDoor
/- Rows of numbers in memory, of whatever size (out of RgV and RvM, for seats that have no grants). -/
namespace Go.Proofs.YtlknjaoamkcmjaaDoor
open Go.ChangeShapes Go.WideShapes Go.ChangeAt Go.RowKit
set_option linter.unusedVariables false
/-- Numbers as values; the n numbers that the slice at A holds. -/
def ivs (zs : List Int) : List Value := zs.map (Value.int .i64)
theorem ivs_len (zs : List Int) : (ivs zs).length = zs.length := by simp [ivs]
structure Ir (w : World) (B : Nat) (A : Option Addr) (n : Nat) (zs : List Int) : Prop where
  len : zs.length = n
  row : 0 < n → ∃ b off, A = some ⟨b, off, none⟩ ∧ b < B ∧ ∀ j, j < n → w.cell? ⟨b, off + j, none⟩ = some (.int .i64 (zs.getD j 0))
theorem Ir.below {w w' : World} {B B' n : Nat} {A : Option Addr} {zs : List Int} (h : Ir w B A n zs) (hb : Below B' w w') (hB : B ≤ B') : Ir w' B A n zs :=
  ⟨h.len, fun hn => by
    obtain ⟨b, off, rfl, hlt, hc⟩ := h.row hn
    exact ⟨b, off, rfl, hlt, fun j hj => (hb.cell (p := ⟨b, off + j, none⟩) (by show b < B'; omega)).trans (hc j hj)⟩⟩
theorem Ir.at_ {w : World} {B n : Nat} {A : Option Addr} {zs : List Int} (h : Ir w B A n zs) {k : Nat} (hk : k < n) : ∃ b off, A = some ⟨b, off, none⟩ ∧ b < B ∧ w.cell? ⟨b, off + k, none⟩ = some (.int .i64 (zs.getD k 0)) := by
  obtain ⟨b, off, rfl, hb, hc⟩ := h.row (by omega)
  exact ⟨b, off, rfl, hb, hc k hk⟩
theorem ivs_at (l : List Int) (k : Nat) (h : k < l.length) : (ivs l)[k]? = some (.int .i64 (l.getD k 0)) := by
  simp [ivs, List.getElem?_map, List.getD_eq_getElem?_getD, List.getElem?_eq_getElem h]
section
variable {w w' : World} {B B' n : Nat} {A : Option Addr} {zs : List Int}
theorem Ir.keep (h : Ir w B A n zs) (hk : ∀ p : Addr, p.block < B → w'.cell? p = w.cell? p) : Ir w' B A n zs :=
  ⟨h.len, fun hn => by
    obtain ⟨b, off, rfl, hb, hc⟩ := h.row hn
    exact ⟨b, off, rfl, hb, fun j hj => (hk ⟨b, off + j, none⟩ hb).trans (hc j hj)⟩⟩
theorem Ir.more (h : Ir w B A n zs) (hB : B ≤ B') : Ir w B' A n zs :=
  ⟨h.len, fun hn => by
    obtain ⟨b, off, rfl, hb, hc⟩ := h.row hn
    exact ⟨b, off, rfl, by omega, hc⟩⟩
theorem Ir.drewN (h : Ir w B A n zs) (k : Nat) : Ir (w.drewN k) B A n zs := h.keep fun _ _ => rfl
theorem Ir.drew (h : Ir w B A n zs) : Ir w.drew B A n zs := h.keep fun _ _ => rfl
theorem Ir.nil : Ir w B A 0 [] := ⟨rfl, fun h => absurd h (by omega)⟩
theorem Ir.lies (h : Ir w B A n zs) : Lies w 1 A n (ivs zs) ∧ Sourced A n := by
  refine ⟨⟨by rw [ivs_len, h.len]; omega, fun ad hA j u hu => ?_⟩, fun hA => ?_⟩
  · have hj : j < n := by
      have := (List.getElem?_eq_some_iff.1 hu).1
      rw [ivs_len, h.len] at this; exact this
    obtain ⟨b, off, e, _, hc⟩ := h.row (by omega)
    rw [hA] at e; injection e with e; subst e
    rw [ivs_at _ _ (by rw [h.len]; exact hj)] at hu
    injection hu with hu
    rw [Go.WideShapes.add_plain, hc j hj, hu]
  · rcases Nat.eq_zero_or_pos n with h0 | h0
    · exact h0
    · obtain ⟨b, off, e, _⟩ := h.row h0
      rw [hA] at e; cases e
/-- A piece of it. -/
theorem Ir.cut (h : Ir w B A n zs) {k m : Nat} (hk : k + m ≤ n) (A' : Option Addr) (hA : ∀ b off, A = some ⟨b, off, none⟩ → 0 < m → A' = some ⟨b, off + k, none⟩) : Ir w B A' m ((zs.drop k).take m) := by
  have hl := h.len
  refine ⟨by simp; omega, fun hm => ?_⟩
  obtain ⟨b, off, rfl, hb, hc⟩ := h.row (by omega)
  refine ⟨b, off + k, hA _ _ rfl hm, hb, fun j hj => ?_⟩
  have hg : ((zs.drop k).take m).getD j 0 = zs.getD (k + j) 0 := by
    simp [List.getD_eq_getElem?_getD, List.getElem?_drop, hj]
  rw [hg, Nat.add_assoc]
  exact hc _ (by omega)
/-- Every row of its own reads as numbers. -/
theorem ir_of_own {base c : Nat} {t : TypeId} (h : w.ownsRow base t 1 (.slice A n c) n (ivs zs)) : Ir w w.heap.size A n zs := by
  have hl : zs.length = n := by have := h.1; rw [ivs_len] at this; omega
  refine ⟨hl, fun hn => ?_⟩
  obtain ⟨g, cap, hv, _, hlt⟩ := h.form hn
  have hA : A = some ⟨g, 0, none⟩ := by injection hv
  subst hA
  refine ⟨g, 0, rfl, hlt, fun j hj => ?_⟩
  have := h.cells (g := g) rfl j _ (ivs_at zs j (by omega))
  rwa [← Go.WideShapes.add_plain]
end
end Go.Proofs.YtlknjaoamkcmjaaDoor
/- A window in which a number has come, too: the program's with. -/
namespace Go.Proofs.YtlknjaoamkcmjaaDoor
open Go.ChangeShapes Go.WideShapes Go.ChangeAt Go.RowKit
set_option linter.unusedVariables false
set_option linter.unusedSimpArgs false
open Plain Sha Wn
set_option maxRecDepth 100000 in
set_option maxHeartbeats 1000000 in
theorem with_old {w : World} (x : WZ) (k n : Int) (h : k < x.boot ∨ (k = x.boot ∧ n ≤ x.top - 64)) (hx : 0 ≤ x.top ∧ x.top ≤ 9223372036854775807) :
    Calls Tryd.prog 80 #[.agg (wc x).toArray, .int .i64 k, .int .i64 n] w (fun e w' => e = .returned (.agg (wc x).toArray) ∧ Below w.heap.size w w') := by
  obtain ⟨W1, hW1⟩ : ∃ W, W = (w.alloc (.cells (wc x).toArray 115)).alloc (.cells zWc 115) := ⟨_, rfl⟩
  have b1 : Below w.heap.size w W1 := by rw [hW1]; exact ((Below.refl _ _).alloc (Nat.le_refl _) _).alloc (by simp) _
  have x1 : WBox W1 w.heap.size x := by
    rw [hW1]
    exact (wbox_new w x 115 _ rfl).grow ((Below.refl _ _).alloc (Nat.le_refl _) _)
  have t1 : Hid (W1.there (w.heap.size + 1) 0 (wc x).toArray.size) := Lib.hid (by rw [hW1]; exact wthere_new _ x _ _ (by simp))
  have B1 := Lib.hid b1
  have HW1 := Lib.hid hW1
  have X1 := Lib.hid x1
  have c1 := x1.c1
  have c2 := x1.c2
  have G1 := t1
  have G2 := t1
  clear hW1 b1 x1
  have zk := zWk
  have zs := zWc_size
  have zn := zWc_ne
  go_enter Tryd.func80, Tryd.ntmps80
  go_upto_region 1 with fail
  rw [← HW1.out]
  clear zk zs zn
  have e0 : ¬ x.boot < k := by omega
  rcases h with h | ⟨h, h'⟩
  · go_wp2_with (first
      | (have g := G1; clear g; refine wpList_load_mid (op := ⟨some 25, .load 115 (.tmp 3), _, _, _, _⟩) rfl 115 (.tmp 3) rfl (w.heap.size) 0 rfl (wc x) _ (X1.out.range) Tryd.underlying115 rfl (wn_size x) ?_; clear G1)
      | (have g := G2; clear g; refine wpList_store_as (op := ⟨none, .store 115 (.tmp 6) (.tmp 25), _, _, _, _⟩) rfl 115 (.tmp 6) (.tmp 25) rfl (w.heap.size + 1) 0 (wc x).toArray rfl rfl (t1.out) (wn_sizeA x) (wn_one x) ?_; intro w2 hw2; clear G2))
    have R2 : w2.rangeAt (w.heap.size + 1) 0 (wc x) := by rw [hw2.out]; exact World.rangeAt_setCells_same _ _ _ _ t1.out
    have b2 : Below w.heap.size w w2 := by rw [hw2.out]; exact below_setCells (by omega) _ _ _ B1.out
    exact bodyPost_ret (v := .agg (wc x).toArray) (results_mid (p := 6) (ty := 115) rfl _ _ (w.heap.size + 1) 0 (wc x) _ rfl R2 Tryd.underlying115 rfl (wn_size x)) rfl ⟨rfl, b2⟩
  · subst h
    have e1 : ¬ x.boot < x.boot := by omega
    go_wp2_with (first
      | (have g := G1; clear g; refine wpList_load_mid (op := ⟨some 25, .load 115 (.tmp 3), _, _, _, _⟩) rfl 115 (.tmp 3) rfl (w.heap.size) 0 rfl (wc x) _ (X1.out.range) Tryd.underlying115 rfl (wn_size x) ?_; clear G1)
      | (have g := G2; clear g; refine wpList_store_as (op := ⟨none, .store 115 (.tmp 6) (.tmp 25), _, _, _, _⟩) rfl 115 (.tmp 6) (.tmp 25) rfl (w.heap.size + 1) 0 (wc x).toArray rfl rfl (t1.out) (wn_sizeA x) (wn_one x) ?_; intro w2 hw2; clear G2))
    have R2 : w2.rangeAt (w.heap.size + 1) 0 (wc x) := by rw [hw2.out]; exact World.rangeAt_setCells_same _ _ _ _ t1.out
    have b2 : Below w.heap.size w w2 := by rw [hw2.out]; exact below_setCells (by omega) _ _ _ B1.out
    exact bodyPost_ret (v := .agg (wc x).toArray) (results_mid (p := 6) (ty := 115) rfl _ _ (w.heap.size + 1) 0 (wc x) _ rfl R2 Tryd.underlying115 rfl (wn_size x)) rfl ⟨rfl, b2⟩
end Go.Proofs.YtlknjaoamkcmjaaDoor
/- A number is taken: the program's with, its loop. Printed by gen_wna.py. -/
namespace Go.Proofs.YtlknjaoamkcmjaaDoor
open Go.ChangeShapes Go.WideShapes Go.ChangeAt Go.RowKit
set_option linter.unusedVariables false
set_option linter.unusedSimpArgs false
open Plain Sha Wn
theorem build_anew (k : Int) (W : World) : (Instr.build 115 #[(0, .bool true), (1, .int .i64 k)]).run Tryd.prog W = .ok (.agg (wc (anewZ k)).toArray) W :=
  run_build W 115 _ _ (by kernel_rfl)
theorem exec_anew {P : Program} {a : Act} {op : Oper} {x0 x1 : Operand} {k : Int} {w : World} (hP : P = Tryd.prog) (ho : op.op = .build 115 #[(0, x0), (1, x1)]) (h0 : a.eval x0 = .bool true) (h1 : a.eval x1 = .int .i64 k) : (execOp a.eval op).run P w = .ok (.value (.agg (wc (anewZ k)).toArray)) w := by
  subst hP
  have hb := build_anew k w
  unfold execOp
  simp only [ho]
  simp [h0, h1, hb]
theorem wrap_in {z : Int} (h : -9223372036854775808 ≤ z ∧ z ≤ 9223372036854775807) : wrap64 z = z := by unfold wrap64; omega
/-- What stands behind the loop's first rounds. -/
structure Cleared (w : World) (g : Nat) (y : WZ) (j : Nat) (wr : World) : Prop where
  b : Below g w wr
  x : ∃ F hF, F = clr y.F y.top j ∧ WBox wr g { y with F := F, hF := hF }
  t : wr.there (g + 1) 0 67
set_option maxRecDepth 100000 in
set_option maxHeartbeats 4000000 in
theorem with_more {w : World} (x : WZ) (n : Int) (h : ¬ n ≤ x.top - 64) (hn : 1 ≤ n ∧ n ≤ 9223372036854775807) (hx : 0 ≤ x.top ∧ x.top ≤ 9223372036854775807) :
    Calls Tryd.prog 80 #[.agg (wc x).toArray, .int .i64 x.boot, .int .i64 n] w (fun e w' => e = .returned (.agg (wc (addZ x n)).toArray) ∧ Below w.heap.size w w') := by
  obtain ⟨M, hM⟩ : ∃ M : Nat, M = (min (n - x.top) 64).toNat := ⟨_, rfl⟩
  have HM := Lib.hid hM
  obtain ⟨W1, hW1⟩ : ∃ W, W = (w.alloc (.cells (wc x).toArray 115)).alloc (.cells zWc 115) := ⟨_, rfl⟩
  have b1 : Below w.heap.size w W1 := by rw [hW1]; exact ((Below.refl _ _).alloc (Nat.le_refl _) _).alloc (by simp) _
  have x1 : WBox W1 w.heap.size x := by
    rw [hW1]
    exact (wbox_new w x 115 _ rfl).grow ((Below.refl _ _).alloc (Nat.le_refl _) _)
  have t1 : Hid (W1.there (w.heap.size + 1) 0 67) := Lib.hid (by rw [hW1]; exact (wbox_new _ w0 _ _ (by simp)).there)
  have B1 := Lib.hid b1
  have HW1 := Lib.hid hW1
  have X1 := Lib.hid x1
  have c1 := x1.c1
  have c2 := x1.c2
  clear hW1 b1 x1
  have zk := zWk
  have zs := zWc_size
  have zn := zWc_ne
  go_enter Tryd.func80, Tryd.ntmps80
  go_upto_region 1 with fail
  rw [← HW1.out]
  clear zk zs zn
  have e0 : ¬ x.boot < x.boot := by omega
  have B2 := B1
  have X2 := X1
  have T2 := t1
  have hy0 : 0 ≤ x.top := by omega
  go_wp2_with (fail)
  go_loopw [31] (fun i wr => ∃ j : Nat, j ≤ M ∧ i = .int .i64 j ∧ Hid (Cleared w w.heap.size x j wr)) (fun i _ => M - (intOf i).toNat)
  case atStart => exact ⟨0, by omega, rfl, Lib.hid ⟨B2.out, ⟨x.F, x.hF, rfl, X2.out⟩, T2.out⟩⟩
  case round =>
    obtain ⟨j, hj, rfl, HC⟩ := hrel
    by_cases hlt : j < M
    · obtain ⟨F, hF, eF, xb⟩ := HC.out.x
      have hq0 : 0 ≤ (x.top + 1 + (j : Int)) % 64 := by omega
      have hq1 : (x.top + 1 + (j : Int)) % 64 < 64 := by omega
      have d2 := xb.c2
      have df := xb.flag ((x.top + 1 + (j : Int)) % 64).toNat (by omega)
      have dz := xb.free (3 + ((x.top + 1 + (j : Int)) % 64).toNat) (by omega)
      have HX := Lib.hid xb
      have HF := Lib.hid eF
      have hb := HC.out.b
      have ht := HC.out.t
      have HB := Lib.hid hb
      have HT := Lib.hid ht
      have d2 : wr.cell? ⟨w.heap.size, 2, none⟩ = some (.int .i64 x.top) := d2
      have df : wr.cell? ⟨w.heap.size, 3 + ((x.top + 1 + (j : Int)) % 64).toNat, none⟩ = some (.bool (F.getD ((x.top + 1 + (j : Int)) % 64).toNat false)) := df
      have hltI : (j : Int) < min (n - x.top) 64 := by omega
      have E1 : wrap64 (x.top + 1) = x.top + 1 := wrap_in (by omega)
      have E2 : wrap64 (x.top + 1 + (j : Int)) = x.top + 1 + (j : Int) := wrap_in (by omega)
      clear xb eF hb ht
      go_wp2_with (fail)
      refine ⟨⟨j + 1, by omega, by congr 1, Lib.hid ⟨HB.out.setCell (p := ⟨w.heap.size, 3 + ((x.top + 1 + (j : Int)) % 64).toNat, none⟩) (Nat.le_refl _) _, ⟨F.set ((x.top + 1 + (j : Int)) % 64).toNat false, by rw [List.length_set]; exact hF, ?_, ?_⟩, ?_⟩⟩, ?_⟩
      · rw [HF.out, clr]
      · exact HX.out.setF _ false (by omega) _ _ rfl
      · intro i hi
        rw [World.frozen?_setCell, World.cell?_setCell_other _ _ _ _ (fun e => by injection e with e1; omega)]
        exact HT.out i hi
      · simp only [intOf]; omega
    · have hgeI : ¬ (j : Int) < min (n - x.top) 64 := by omega
      obtain rfl : j = M := by omega
      obtain ⟨F, hF, eF, xb⟩ := HC.out.x
      have hq0 : 0 ≤ n % 64 := by omega
      have hq1 : n % 64 < 64 := by omega
      have d2 := xb.c2
      have d2 : wr.cell? ⟨w.heap.size, 2, none⟩ = some (.int .i64 x.top) := d2
      have dz := xb.free 2 (by omega)
      have df := xb.flag (n % 64).toNat (by omega)
      have df : wr.cell? ⟨w.heap.size, 3 + (n % 64).toNat, none⟩ = some (.bool (F.getD (n % 64).toNat false)) := df
      have dz2 := xb.free (3 + (n % 64).toNat) (by omega)
      have hb := HC.out.b
      have x3 := (xb.setTop (max x.top n)).setF (n % 64).toNat true (by omega) ((clr x.F x.top j).set (n % 64).toNat true) (by rw [List.length_set, clr_len, x.hF]) (by
        show (clr x.F x.top j).set (n % 64).toNat true = F.set (n % 64).toNat true
        rw [eF])
      have b3 : Below w.heap.size w ((wr.setCell ⟨w.heap.size, 2, none⟩ (.int .i64 (max x.top n))).setCell ⟨w.heap.size, 3 + (n % 64).toNat, none⟩ (.bool true)) := (hb.setCell (p := ⟨w.heap.size, 2, none⟩) (Nat.le_refl _) _).setCell (p := ⟨w.heap.size, 3 + (n % 64).toNat, none⟩) (Nat.le_refl _) _
      have ht := HC.out.t
      have t3 : ((wr.setCell ⟨w.heap.size, 2, none⟩ (.int .i64 (max x.top n))).setCell ⟨w.heap.size, 3 + (n % 64).toNat, none⟩ (.bool true)).there (w.heap.size + 1) 0 (wc (addZ x n)).toArray.size := by
        rw [show (wc (addZ x n)).toArray.size = 67 by rw [List.size_toArray, wc_len]]
        intro i hi
        rw [World.frozen?_setCell, World.cell?_setCell_other _ _ _ _ (fun e => by injection e with e1; omega), World.frozen?_setCell, World.cell?_setCell_other _ _ _ _ (fun e => by injection e with e1; omega)]
        exact ht i hi
      have ez : ({ x with top := max x.top n, F := (clr x.F x.top j).set (n % 64).toNat true, hF := by rw [List.length_set, clr_len, x.hF] } : WZ) = addZ x n := WZ.ext' rfl rfl rfl (by unfold addZ; show (clr x.F x.top j).set _ true = _; rw [HM.out])
      have X4 := Lib.hid (show WBox _ w.heap.size (addZ x n) from ez ▸ x3)
      have T4 := Lib.hid t3
      have B4 := Lib.hid b3
      clear xb eF x3 b3 t3 ez hb ht
      go_wp2_with (first
      | (show wpList _ _ _ (⟨some 52, .load 115 (.tmp 3), _, _, _, _⟩ :: _) _ _; refine wpList_load_mid rfl 115 (.tmp 3) rfl (w.heap.size) 0 rfl (wc (addZ x n)) _ (X4.out.range) Tryd.underlying115 rfl (wn_size (addZ x n)) ?_)
      | (show wpList _ _ _ (⟨none, .store 115 (.tmp 6) (.tmp 52), _, _, _, _⟩ :: _) _ _; refine wpList_store_as rfl 115 (.tmp 6) (.tmp 52) rfl (w.heap.size + 1) 0 (wc (addZ x n)).toArray rfl rfl (T4.out) (wn_sizeA _) (wn_one _) ?_; intro w5 hw5))
      have R2 : w5.rangeAt (w.heap.size + 1) 0 (wc (addZ x n)) := by rw [hw5.out]; exact World.rangeAt_setCells_same _ _ _ _ T4.out
      have b5 : Below w.heap.size w w5 := by rw [hw5.out]; exact below_setCells (by omega) _ _ _ B4.out
      exact bodyPost_ret (v := .agg (wc (addZ x n)).toArray) (results_mid (p := 6) (ty := 115) rfl _ _ (w.heap.size + 1) 0 (wc (addZ x n)) _ rfl R2 Tryd.underlying115 rfl (wn_size _)) rfl ⟨rfl, b5⟩
set_option maxRecDepth 100000 in
set_option maxHeartbeats 4000000 in
theorem with_anew {w : World} (x : WZ) (k n : Int) (h : x.boot < k) (hn : 1 ≤ n ∧ n ≤ 9223372036854775807) :
    Calls Tryd.prog 80 #[.agg (wc x).toArray, .int .i64 k, .int .i64 n] w (fun e w' => e = .returned (.agg (wc (addZ (anewZ k) n)).toArray) ∧ Below w.heap.size w w') := by
  obtain ⟨W1, hW1⟩ : ∃ W, W = (w.alloc (.cells (wc x).toArray 115)).alloc (.cells zWc 115) := ⟨_, rfl⟩
  have b1 : Below w.heap.size w W1 := by rw [hW1]; exact ((Below.refl _ _).alloc (Nat.le_refl _) _).alloc (by simp) _
  have x1 : WBox W1 w.heap.size x := by
    rw [hW1]
    exact (wbox_new w x 115 _ rfl).grow ((Below.refl _ _).alloc (Nat.le_refl _) _)
  have t1 : Hid (W1.there (w.heap.size + 1) 0 67) := Lib.hid (by rw [hW1]; exact (wbox_new _ w0 _ _ (by simp)).there)
  have B1 := Lib.hid b1
  have HW1 := Lib.hid hW1
  have X1 := Lib.hid x1
  have c1 := x1.c1
  have c2 := x1.c2
  clear hW1 b1 x1
  have zk := zWk
  have zs := zWc_size
  have zn := zWc_ne
  go_enter Tryd.func80, Tryd.ntmps80
  go_upto_region 1 with fail
  rw [← HW1.out]
  clear zk zs zn
  have HT0 : Hid (W1.there w.heap.size 0 (wc (anewZ k)).toArray.size) := Lib.hid (X1.out.thereA _)
  go_upto_region 3 with (first
      | (show wpList _ _ _ (⟨some 13, .build 115 _, _, _, _, _⟩ :: _) _ _; refine wpList_exec rfl (.agg (wc (anewZ k)).toArray) (by exact exec_anew rfl rfl rfl rfl) ?_)
      | (show wpList _ _ _ (⟨none, .store 115 (.tmp 3) (.tmp 13), _, _, _, _⟩ :: _) _ _; refine wpList_store_as rfl 115 (.tmp 3) (.tmp 13) rfl (w.heap.size) 0 (wc (anewZ k)).toArray rfl rfl (HT0.out) (wn_sizeA _) (wn_one _) ?_; intro w2 hw2))
  have X2 : Hid (WBox w2 w.heap.size (anewZ k)) := Lib.hid (by rw [hw2.out]; exact X1.out.store _)
  have B2 : Hid (Below w.heap.size w w2) := Lib.hid (by rw [hw2.out]; exact below_setCells (Nat.le_refl _) _ _ _ B1.out)
  have T2 : Hid (w2.there (w.heap.size + 1) 0 67) := Lib.hid (by rw [hw2.out]; exact there_same t1.out (heap_setCells _ _ (by omega) _ _ _))
  clear c1 c2 HW1 X1 B1 t1 HT0 hw2
  obtain ⟨y, hy⟩ : ∃ y, anewZ k = y := ⟨_, rfl⟩
  have ky : k = y.boot := by rw [← hy]; rfl
  have ty : 0 ≤ y.top ∧ y.top ≤ 0 := by rw [← hy]; exact ⟨Int.le_refl _, Int.le_refl _⟩
  have HY := Lib.hid hy
  rw [hy] at X2
  obtain ⟨M, hM⟩ : ∃ M : Nat, M = (min (n - y.top) 64).toNat := ⟨_, rfl⟩
  have HM := Lib.hid hM
  have c1 := X2.out.c1
  have c2 := X2.out.c2
  clear hy
  subst ky
  have e1 : ¬ y.boot < y.boot := by omega
  have e2 : ¬ n ≤ y.top - 64 := by omega
  have hy0 : 0 ≤ y.top := by omega
  go_wp2_with (fail)
  go_loopw [31] (fun i wr => ∃ j : Nat, j ≤ M ∧ i = .int .i64 j ∧ Hid (Cleared w w.heap.size y j wr)) (fun i _ => M - (intOf i).toNat)
  case atStart => exact ⟨0, by omega, rfl, Lib.hid ⟨B2.out, ⟨y.F, y.hF, rfl, X2.out⟩, T2.out⟩⟩
  case round =>
    obtain ⟨j, hj, rfl, HC⟩ := hrel
    by_cases hlt : j < M
    · obtain ⟨F, hF, eF, xb⟩ := HC.out.x
      have hq0 : 0 ≤ (y.top + 1 + (j : Int)) % 64 := by omega
      have hq1 : (y.top + 1 + (j : Int)) % 64 < 64 := by omega
      have d2 := xb.c2
      have df := xb.flag ((y.top + 1 + (j : Int)) % 64).toNat (by omega)
      have dz := xb.free (3 + ((y.top + 1 + (j : Int)) % 64).toNat) (by omega)
      have HX := Lib.hid xb
      have HF := Lib.hid eF
      have hb := HC.out.b
      have ht := HC.out.t
      have HB := Lib.hid hb
      have HT := Lib.hid ht
      have d2 : wr.cell? ⟨w.heap.size, 2, none⟩ = some (.int .i64 y.top) := d2
      have df : wr.cell? ⟨w.heap.size, 3 + ((y.top + 1 + (j : Int)) % 64).toNat, none⟩ = some (.bool (F.getD ((y.top + 1 + (j : Int)) % 64).toNat false)) := df
      have hltI : (j : Int) < min (n - y.top) 64 := by omega
      have E1 : wrap64 (y.top + 1) = y.top + 1 := wrap_in (by omega)
      have E2 : wrap64 (y.top + 1 + (j : Int)) = y.top + 1 + (j : Int) := wrap_in (by omega)
      clear xb eF hb ht
      go_wp2_with (fail)
      refine ⟨⟨j + 1, by omega, by congr 1, Lib.hid ⟨HB.out.setCell (p := ⟨w.heap.size, 3 + ((y.top + 1 + (j : Int)) % 64).toNat, none⟩) (Nat.le_refl _) _, ⟨F.set ((y.top + 1 + (j : Int)) % 64).toNat false, by rw [List.length_set]; exact hF, ?_, ?_⟩, ?_⟩⟩, ?_⟩
      · rw [HF.out, clr]
      · exact HX.out.setF _ false (by omega) _ _ rfl
      · intro i hi
        rw [World.frozen?_setCell, World.cell?_setCell_other _ _ _ _ (fun e => by injection e with e1; omega)]
        exact HT.out i hi
      · simp only [intOf]; omega
    · have hgeI : ¬ (j : Int) < min (n - y.top) 64 := by omega
      obtain rfl : j = M := by omega
      obtain ⟨F, hF, eF, xb⟩ := HC.out.x
      have hq0 : 0 ≤ n % 64 := by omega
      have hq1 : n % 64 < 64 := by omega
      have d2 := xb.c2
      have d2 : wr.cell? ⟨w.heap.size, 2, none⟩ = some (.int .i64 y.top) := d2
      have dz := xb.free 2 (by omega)
      have df := xb.flag (n % 64).toNat (by omega)
      have df : wr.cell? ⟨w.heap.size, 3 + (n % 64).toNat, none⟩ = some (.bool (F.getD (n % 64).toNat false)) := df
      have dz2 := xb.free (3 + (n % 64).toNat) (by omega)
      have hb := HC.out.b
      have x3 := (xb.setTop (max y.top n)).setF (n % 64).toNat true (by omega) ((clr y.F y.top j).set (n % 64).toNat true) (by rw [List.length_set, clr_len, y.hF]) (by
        show (clr y.F y.top j).set (n % 64).toNat true = F.set (n % 64).toNat true
        rw [eF])
      have b3 : Below w.heap.size w ((wr.setCell ⟨w.heap.size, 2, none⟩ (.int .i64 (max y.top n))).setCell ⟨w.heap.size, 3 + (n % 64).toNat, none⟩ (.bool true)) := (hb.setCell (p := ⟨w.heap.size, 2, none⟩) (Nat.le_refl _) _).setCell (p := ⟨w.heap.size, 3 + (n % 64).toNat, none⟩) (Nat.le_refl _) _
      have ht := HC.out.t
      have t3 : ((wr.setCell ⟨w.heap.size, 2, none⟩ (.int .i64 (max y.top n))).setCell ⟨w.heap.size, 3 + (n % 64).toNat, none⟩ (.bool true)).there (w.heap.size + 1) 0 (wc (addZ y n)).toArray.size := by
        rw [show (wc (addZ y n)).toArray.size = 67 by rw [List.size_toArray, wc_len]]
        intro i hi
        rw [World.frozen?_setCell, World.cell?_setCell_other _ _ _ _ (fun e => by injection e with e1; omega), World.frozen?_setCell, World.cell?_setCell_other _ _ _ _ (fun e => by injection e with e1; omega)]
        exact ht i hi
      have ez : ({ y with top := max y.top n, F := (clr y.F y.top j).set (n % 64).toNat true, hF := by rw [List.length_set, clr_len, y.hF] } : WZ) = addZ y n := WZ.ext' rfl rfl rfl (by unfold addZ; show (clr y.F y.top j).set _ true = _; rw [HM.out])
      have X4 := Lib.hid (show WBox _ w.heap.size (addZ y n) from ez ▸ x3)
      have T4 := Lib.hid t3
      have B4 := Lib.hid b3
      clear xb eF x3 b3 t3 ez hb ht
      go_wp2_with (first
      | (show wpList _ _ _ (⟨some 52, .load 115 (.tmp 3), _, _, _, _⟩ :: _) _ _; refine wpList_load_mid rfl 115 (.tmp 3) rfl (w.heap.size) 0 rfl (wc (addZ y n)) _ (X4.out.range) Tryd.underlying115 rfl (wn_size (addZ y n)) ?_)
      | (show wpList _ _ _ (⟨none, .store 115 (.tmp 6) (.tmp 52), _, _, _, _⟩ :: _) _ _; refine wpList_store_as rfl 115 (.tmp 6) (.tmp 52) rfl (w.heap.size + 1) 0 (wc (addZ y n)).toArray rfl rfl (T4.out) (wn_sizeA _) (wn_one _) ?_; intro w5 hw5))
      have R2 : w5.rangeAt (w.heap.size + 1) 0 (wc (addZ y n)) := by rw [hw5.out]; exact World.rangeAt_setCells_same _ _ _ _ T4.out
      have b5 : Below w.heap.size w w5 := by rw [hw5.out]; exact below_setCells (by omega) _ _ _ B4.out
      exact bodyPost_ret (v := .agg (wc (addZ y n)).toArray) (results_mid (p := 6) (ty := 115) rfl _ _ (w.heap.size + 1) 0 (wc (addZ y n)) _ rfl R2 Tryd.underlying115 rfl (wn_size _)) rfl ⟨by rw [HY.out], b5⟩
end Go.Proofs.YtlknjaoamkcmjaaDoor
/- The window's calls: New, Take, May, Boot, Top. Printed by gen_wnc.py. -/
namespace Go.Proofs.YtlknjaoamkcmjaaDoor
open Go.ChangeShapes Go.WideShapes Go.ChangeAt Go.RowKit
set_option linter.unusedVariables false
set_option linter.unusedSimpArgs false
open Plain Sha Wn
def InI (x : Int) : Prop := -9223372036854775808 ≤ x ∧ x ≤ 9223372036854775807
theorem gw_refl (w : World) (r : Option Nat) : w.grownBy w r := ⟨rfl, rfl, rfl, Nat.le_refl _, fun _ _ _ => rfl⟩
theorem gw_of {w w' : World} (h : Below w.heap.size w w') (r : Option Nat) : w.grownBy w' r := ⟨h.os, h.tape, h.output, h.size, fun k hk _ => h.block k hk⟩
theorem gw_drew {w v : World} {r : Option Nat} (h : w.grownBy v r) : w.grownBy v.drew r := ⟨h.os, h.tape, h.output, h.size, h.block⟩
theorem gw_more {w v u : World} {r : Option Nat} (h : w.grownBy v r) (hb : Below v.heap.size v u) : w.grownBy u r :=
  ⟨hb.os.trans h.os, hb.tape.trans h.tape, hb.output.trans h.output, Nat.le_trans h.size hb.size, fun k hk hne => (hb.block k (Nat.lt_of_lt_of_le hk h.size)).trans (h.block k hk hne)⟩
theorem gw_below {w w' : World} {B p : Nat} (h : w.grownBy w' (some p)) (hB : B ≤ p) (hp : B ≤ w.heap.size) : Below B w w' :=
  Below.grown (Below.refl B w) h hp (fun k hk => by injection hk with e; omega)
theorem wbox_apart {w w' : World} {p q : Nat} {x : WZ} (h : WBox w q x) (hg : w.grownBy w' (some p)) (hne : q ≠ p) : WBox w' q x := h.same (hg.block q h.lt (fun e => hne (by injection e)))
theorem with_any {w : World} {b : Int} {S : List Int} (hI : WIn b S) {k n : Int} (hk : ¬ k < 0) (hn : ¬ n < 1) (hk' : InI k) (hn' : InI n) :
    Calls Tryd.prog 80 #[.agg (wc (win b S)).toArray, .int .i64 k, .int .i64 n] w (fun e w' => e = .returned (.agg (wc (withZ b S k n)).toArray) ∧ Below w.heap.size w w') := by
  have h0 := top_pos S
  have h1 := hI.top
  unfold withZ
  unfold InI at hn' hk'
  by_cases h2 : k < b
  · rw [if_pos h2]
    exact with_old (win b S) k n (.inl h2) ⟨h0, h1⟩
  rw [if_neg h2]
  by_cases h3 : b < k
  · rw [if_pos h3]
    exact with_anew (win b S) k n h3 (by omega)
  rw [if_neg h3]
  have e : k = (win b S).boot := by show k = b; omega
  by_cases h4 : n ≤ topZ S - 64
  · rw [if_pos h4]
    exact with_old (win b S) k n (.inr ⟨e, h4⟩) ⟨h0, h1⟩
  · rw [if_neg h4, e]
    exact with_more (win b S) n h4 (by omega) ⟨h0, h1⟩
theorem win_new : win (-1) [] = anewZ (-1) := win_none (-1)
theorem build_new (W : World) : (Instr.build 115 #[(0, .bool true), (1, .int .i64 (-1))]).run Tryd.prog W = .ok (.agg (wc (win (-1) [])).toArray) W := by
  rw [win_new]; exact build_anew (-1) W
set_option maxRecDepth 100000 in
set_option maxHeartbeats 1000000 in
theorem new_any_wn (w : World) : Calls Tryd.prog 58 #[] w (fun e w' => e = .returned (.pointer (some ⟨w.heap.size, 0, none⟩)) ∧ WBox w' w.heap.size (win (-1) []) ∧ Below w.heap.size w w' ∧ w'.heap.size = w.heap.size + 1) := by
  obtain ⟨x, hx⟩ : ∃ x, win (-1) [] = x := ⟨_, rfl⟩
  have hb := build_new
  rw [hx] at hb
  rw [hx]
  have HX := wbox_new w x 115 _ rfl
  have hb1 : Below w.heap.size w (w.alloc (.cells (wc x).toArray 115)) := (Below.refl _ _).alloc (Nat.le_refl _) _
  go_enter Tryd.func58, Tryd.ntmps58
  go_wp2_with (show wpList _ _ _ (⟨some 1, .build 115 _, _, _, _, _⟩ :: _) _ _; refine wpList_exec rfl (.agg (wc x).toArray) (by simp [execOp, Act.eval, hb]) ?_)
  go_ret
  exact ⟨rfl, HX, hb1, by simp⟩
/-- What Take does to the window at p. -/
def Took (p : Nat) (b : Int) (S : List Int) (k n : Int) (w : World) (e : Ending) (w' : World) : Prop :=
  e = .returned (.int .i64 (takeZ b S k n).1) ∧ WBox w' p (win (takeZ b S k n).2.1 (takeZ b S k n).2.2) ∧ w.grownBy w' (some p)
set_option maxRecDepth 100000 in
set_option maxHeartbeats 4000000 in
theorem take_any {w : World} {p : Nat} {b : Int} {S : List Int} (X : WBox w p (win b S)) (hI : WIn b S) {k n : Int} (hk' : InI k) (hn' : InI n) :
    Calls Tryd.prog 59 #[.pointer (some ⟨p, 0, none⟩), .int .i64 k, .int .i64 n] w (Took p b S k n w) := by
  unfold Took
  by_cases hk : k < 0
  · have e : takeZ b S k n = (2, b, S) := by unfold takeZ; rw [if_pos (Or.inl hk)]
    rw [e]
    obtain ⟨x, hx, hm⟩ : ∃ x, win b S = x ∧ x.made = true := ⟨_, rfl, rfl⟩
    have HX := Lib.hid hx
    rw [hx] at X
    have c0 := X.c0
    rw [hm] at c0
    have XH := Lib.hid X
    clear hx X hm e hI
    go_enter Tryd.func59, Tryd.ntmps59
    go_wp2
    go_ret
    exact ⟨rfl, by rw [HX.out]; exact XH.out, gw_refl _ _⟩
  by_cases hn : n < 1
  · have e : takeZ b S k n = (2, b, S) := by unfold takeZ; rw [if_pos (Or.inr hn)]
    rw [e]
    obtain ⟨x, hx, hm⟩ : ∃ x, win b S = x ∧ x.made = true := ⟨_, rfl, rfl⟩
    have HX := Lib.hid hx
    rw [hx] at X
    have c0 := X.c0
    rw [hm] at c0
    have XH := Lib.hid X
    clear hx X hm e hI
    go_enter Tryd.func59, Tryd.ntmps59
    go_wp2
    go_ret
    exact ⟨rfl, by rw [HX.out]; exact XH.out, gw_refl _ _⟩
  obtain ⟨t1, t2, t3⟩ := with_take hI hk hn
  have HW := Lib.hid (fun (v : World) => with_any (w := v) hI hk hn hk' hn')
  obtain ⟨x, hx, hm⟩ : ∃ x, win b S = x ∧ x.made = true := ⟨_, rfl, rfl⟩
  obtain ⟨y, hy⟩ : ∃ y, withZ b S k n = y := ⟨_, rfl⟩
  rw [hy, hx] at t2
  rw [← t1, hy]
  obtain ⟨er, her⟩ : ∃ er, (takeZ b S k n).1 = er := ⟨_, rfl⟩
  rw [her] at t2 t3
  rw [her]
  rw [hx] at X
  have HW2 : Hid (∀ v : World, Calls Tryd.prog 80 #[.agg (wc x).toArray, .int .i64 k, .int .i64 n] v (fun e w' => e = .returned (.agg (wc y).toArray) ∧ Below v.heap.size v w')) := Lib.hid (by rw [← hx, ← hy]; exact HW.out)
  have c0 := X.c0
  rw [hm] at c0
  have XH := Lib.hid X
  have T2 := Lib.hid t2
  have T3 := Lib.hid t3
  clear hx hy X hm hI t1 t2 t3 her HW
  have zk := zWk
  have zs := zWc_size
  have zn := zWc_ne
  go_enter Tryd.func59, Tryd.ntmps59
  go_upto_region 6 with (first
      | (show wpList _ _ _ (⟨some 25, .load 115 (.tmp 24), _, _, _, _⟩ :: _) _ _; refine wpList_load_mid rfl 115 (.tmp 24) rfl (p) 0 rfl (wc x) _ (XH.out.range) Tryd.underlying115 rfl (wn_size x) ?_)
      | (go_at_call 80; refine (HW2.out _).mono ?_; rintro e v ⟨rfl, hb⟩; have B1 := Lib.hid hb; have TH1 := Lib.hid (wthere_new v y 115 _ rfl); clear hb)
      | (show wpList _ _ _ (⟨none, .store 115 (.tmp 7) (.tmp 28), _, _, _, _⟩ :: _) _ _; refine wpList_store_as rfl 115 (.tmp 7) (.tmp 28) rfl (v.heap.size) 0 (wc y).toArray rfl rfl (TH1.out) (wn_sizeA _) (wn_one _) ?_; intro v7 hv7))
  obtain ⟨y7, b7, l7⟩ := wbox_stored rfl hv7
  have Y7 := Lib.hid y7
  have hpv : p < v.heap.size := by have := XH.out.lt; have := B1.out.size; omega
  have X7 := Lib.hid ((XH.out.grow B1.out).below b7 hpv)
  have G7 := Lib.hid (gw_more (gw_of B1.out (some p)) b7)
  have X8 : Hid (WBox v7.drew p x) := Lib.hid X7.out.drew
  have Y8 : Hid (WBox v7.drew v.heap.size y) := Lib.hid Y7.out.drew
  have G8 : Hid (w.grownBy v7.drew (some p)) := Lib.hid (gw_drew G7.out)
  clear hv7 y7 b7 c0 zk zs zn TH1 B1
  obtain ⟨q, hq⟩ : ∃ q, wnB y x = q := ⟨_, rfl⟩
  have HQ := Lib.hid hq
  refine Late.region (fun w' => w'.rangeAt p 0 (wc x) ∧ w'.rangeAt v.heap.size 0 (wc y)) [] (by kernel_rfl) ⟨X7.out.range, Y7.out.range⟩ (fun hHeld => ?_)
  refine Late.take (i := 0) (oi := ⟨some 29, Op.load 115 (Operand.tmp 7), _, _, _, _⟩) (v := _) rfl (by kernel_rfl) (by kernel_rfl) (by kernel_rfl) (by kernel_rfl) (fun _ _ _ h => h) (yieldsIf_load_mid (by rfl) _ _ rfl _ _ rfl (wc y) _ (fun W hW => hW.2) Tryd.underlying115 rfl (wn_size y)) (by assumption) ?_
  try simp only [Act.put, List.setIfInBounds_toArray, List.set_cons_zero, List.set_cons_succ]
  refine Late.take (i := 1) (oi := ⟨some 30, Op.move (Operand.tmp 0), _, _, _, _⟩) (v := ?_) rfl (by kernel_rfl) (by kernel_rfl) (by kernel_rfl) (by kernel_rfl) (fun _ _ _ h => h) (Or.inl ⟨by rfl, fun w hSw => ?_⟩) (by assumption) ?_
  rotate_left
  · (have s1 := hSw; go_simp; try with_reducible rfl)
  try simp only [Act.put, List.setIfInBounds_toArray, List.set_cons_zero, List.set_cons_succ]
  refine Late.take (i := 2) (oi := ⟨some 31, Op.nilCheck (Operand.tmp 30), _, _, _, _⟩) (v := ?_) rfl (by kernel_rfl) (by kernel_rfl) (by kernel_rfl) (by kernel_rfl) (fun _ _ _ h => h) (Or.inl ⟨by rfl, fun w hSw => ?_⟩) (by assumption) ?_
  rotate_left
  · (have s1 := hSw; go_simp; try with_reducible rfl)
  try simp only [Act.put, List.setIfInBounds_toArray, List.set_cons_zero, List.set_cons_succ]
  refine Late.take (i := 3) (oi := ⟨some 32, Op.load 115 (Operand.tmp 31), _, _, _, _⟩) (v := _) rfl (by kernel_rfl) (by kernel_rfl) (by kernel_rfl) (by kernel_rfl) (fun _ _ _ h => h) (yieldsIf_load_mid (by rfl) _ _ rfl _ _ rfl (wc x) _ (fun W hW => hW.1) Tryd.underlying115 rfl (wn_size x)) (by assumption) ?_
  try simp only [Act.put, List.setIfInBounds_toArray, List.set_cons_zero, List.set_cons_succ]
  refine Late.take (i := 4) (oi := ⟨some 33, Op.binOp BinOp.eql 115 (Operand.tmp 29) (Operand.tmp 32) 115, _, _, _, _⟩) (v := .bool (wnB y x)) rfl (by kernel_rfl) (by kernel_rfl) (by kernel_rfl) (by kernel_rfl) (fun _ _ _ h => h) (Or.inl ⟨by rfl, fun w hSw => ?_⟩) (by assumption) ?_
  · (have hn := run_wnEq y x w; simp [execOp, Act.eval, hn, run_eqGuard_agg (hm := Tryd.eqGuardType115)])
  try simp only [Act.put, List.setIfInBounds_toArray, List.set_cons_zero, List.set_cons_succ]
  refine Late.done (by kernel_rfl) ?_ _
  refine NoPanic.normal ?_
  rw [HQ.out]
  cases q
  · have ey : er = 0 := by
      rcases T3.out with h | h
      · have := (wnB_iff y x).2 (T2.out.2 h)
        rw [HQ.out] at this; cases this
      · exact h
    subst ey
    have TP : Hid (v7.drew.there p 0 (wc y).toArray.size) := Lib.hid (X8.out.thereA y)
    go_wp2_with (first
      | (show wpList _ _ _ (⟨some 35, .load 115 (.tmp 7), _, _, _, _⟩ :: _) _ _; refine wpList_load_mid rfl 115 (.tmp 7) rfl (v.heap.size) 0 rfl (wc y) _ (Y8.out.range) Tryd.underlying115 rfl (wn_size y) ?_)
      | (show wpList _ _ _ (⟨none, .store 115 (.tmp 36) (.tmp 35), _, _, _, _⟩ :: _) _ _; refine wpList_store_as rfl 115 (.tmp 36) (.tmp 35) rfl (p) 0 (wc y).toArray rfl rfl (TP.out) (wn_sizeA _) (wn_one _) ?_; intro v9 hv9))
    go_ret
    exact ⟨rfl, by rw [hv9.out]; exact X8.out.store y, by rw [hv9.out]; exact grown_setCells _ _ _ G8.out⟩
  · have exy := (wnB_iff y x).1 HQ.out
    have ey : er = 180 := T2.out.1 exy
    subst ey
    go_wp2
    go_ret
    exact ⟨rfl, by first | exact X8.out | (rw [exy]; exact X8.out), G8.out⟩
end Go.Proofs.YtlknjaoamkcmjaaDoor
/- May, Boot, Top; the document's own window: New, Top. -/
namespace Go.Proofs.YtlknjaoamkcmjaaDoor
open Go.ChangeShapes Go.WideShapes Go.ChangeAt Go.RowKit
set_option linter.unusedVariables false
set_option linter.unusedSimpArgs false
open Plain Sha Wn
/-- The document's own window, which stands in block q. -/
structure RBox (w : World) (q : Nat) (b : Int) (S : List Int) : Prop where
  c0 : w.cell? ⟨q, 0, none⟩ = some (.int .i64 b)
  f0 : w.frozen? ⟨q, 0, none⟩ = false
  f1 : w.frozen? ⟨q, 1, none⟩ = false
  row : ∃ A c, w.cell? ⟨q, 1, none⟩ = some (.slice A S.length c) ∧ w.ownsRow (q + 1) 3 1 (.slice A S.length c) S.length (ivs S) ∧ S.length ≤ c ∧ c ≤ maxLen
theorem RBox.lt {w : World} {q : Nat} {b : Int} {S : List Int} (h : RBox w q b S) : q < w.heap.size := World.block_lt_of_cell? _ _ h.c0
theorem own_keepR {w w' : World} {base n size : Nat} {t : TypeId} {v : Value} {xs : List Value} (h : w.ownsRow base t size v n xs) (hk : ∀ g, base ≤ g → g < w.heap.size → w'.heap[g]? = w.heap[g]?) : w'.ownsRow base t size v n xs := by
  have hlt := h.lt
  obtain ⟨h1, h2 | ⟨g, cap, cur, rfl, hg, hh, h3⟩⟩ := h
  · exact ⟨h1, .inl h2⟩
  · have := hlt g rfl
    exact ⟨h1, .inr ⟨g, cap, cur, rfl, hg, (hk g this.1 this.2).trans hh, h3⟩⟩
section
variable {w w' : World} {q : Nat} {b : Int} {S : List Int}
theorem RBox.same (h : RBox w q b S) (hk : ∀ g, q ≤ g → g < w.heap.size → w'.heap[g]? = w.heap[g]?) : RBox w' q b S := by
  have e := hk q (Nat.le_refl _) h.lt
  obtain ⟨A, c, h1, h2, h3⟩ := h.row
  exact ⟨(World.cell?_of_block (a := ⟨q, 0, none⟩) e).trans h.c0, (World.frozen?_of_block (a := ⟨q, 0, none⟩) e).trans h.f0, (World.frozen?_of_block (a := ⟨q, 1, none⟩) e).trans h.f1,
    A, c, (World.cell?_of_block (a := ⟨q, 1, none⟩) e).trans h1, own_keepR h2 (fun g h4 h5 => hk g (by omega) h5), h3⟩
theorem RBox.far {p : Nat} (h : RBox w q b S) (hg : w.grownBy w' (some p)) (hp : p < q) : RBox w' q b S := h.same (fun g h1 h2 => hg.block g h2 (fun e => by injection e with e; omega))
theorem RBox.grow (h : RBox w q b S) (hb : Below w.heap.size w w') : RBox w' q b S := h.same (fun g h1 h2 => hb.block g h2)
theorem RBox.drew (h : RBox w q b S) : RBox w.drew q b S := h.same (fun g h1 h2 => rfl)
end
end Go.Proofs.YtlknjaoamkcmjaaDoor
/- The document's own Take. -/
namespace Go.Proofs.YtlknjaoamkcmjaaDoor
open Go.ChangeShapes Go.WideShapes Go.ChangeAt Go.RowKit
set_option linter.unusedVariables false
set_option linter.unusedSimpArgs false
open Plain Sha Wn
end Go.Proofs.YtlknjaoamkcmjaaDoor
/- A window told; the chapter's examples. Printed by gen_wnf.py. -/
namespace Go.Proofs.YtlknjaoamkcmjaaDoor
open Go.ChangeShapes Go.WideShapes Go.ChangeAt Go.RowKit
set_option linter.unusedVariables false
set_option linter.unusedSimpArgs false
open Plain Sha Wn
/-- Block p holds the window in which the numbers S of boot b came. -/
structure Win (w : World) (p : Nat) (b : Int) (S : List Int) : Prop where
  x : WBox w p (win b S)
  i : WIn b S
theorem Win.apart {w w' : World} {p q : Nat} {b : Int} {S : List Int} (h : Win w q b S) (hg : w.grownBy w' (some p)) (hne : q ≠ p) : Win w' q b S := ⟨wbox_apart h.x hg hne, h.i⟩
theorem Win.below {w w' : World} {B p : Nat} {b : Int} {S : List Int} (h : Win w p b S) (hb : Below B w w') (hB : p < B) : Win w' p b S := ⟨h.x.below hb hB, h.i⟩
theorem Win.drew {w : World} {p : Nat} {b : Int} {S : List Int} (h : Win w p b S) : Win w.drew p b S := ⟨h.x.drew, h.i⟩
theorem take_val {w : World} {p : Nat} {b : Int} {S : List Int} (h : Win w p b S) {k n : Int} (hk' : InI k) (hn' : InI n) {er b' : Int} {S' : List Int} (e : takeZ b S k n = (er, b', S')) :
    Calls Tryd.prog 59 #[.pointer (some ⟨p, 0, none⟩), .int .i64 k, .int .i64 n] w (fun e w' => e = .returned (.int .i64 er) ∧ Win w' p b' S' ∧ w.grownBy w' (some p)) :=
  (take_any h.x h.i hk' hn').mono fun e' w' ⟨h1, h2, h3⟩ => by
    have hw := wIn_take h.i hk'.2 hn'.2
    rw [e] at h1 h2 hw
    exact ⟨h1, ⟨h2, hw⟩, h3⟩
end Go.Proofs.YtlknjaoamkcmjaaDoor
