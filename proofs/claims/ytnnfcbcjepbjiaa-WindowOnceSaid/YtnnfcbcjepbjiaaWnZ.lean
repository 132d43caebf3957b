/- Numbers that came already, plainly: the window as it stands, and what the chapter says of it. -/
import Derived.Test.YtnnfcbcjepbjiaaB1
namespace Go.Proofs.Ytnnfcbcjepbjiaa
set_option linter.unusedVariables false
set_option linter.unusedSimpArgs false
namespace Wn
def topZ (S : List Int) : Int := S.foldl max 0
theorem topZ_nil : topZ [] = 0 := rfl
theorem topZ_snoc (S : List Int) (n : Int) : topZ (S ++ [n]) = max (topZ S) n := by simp [topZ]
theorem foldl_max : ∀ (S : List Int) (a : Int), a ≤ S.foldl max a ∧ (∀ n ∈ S, n ≤ S.foldl max a) ∧ (S.foldl max a = a ∨ S.foldl max a ∈ S)
  | [], a => ⟨Int.le_refl _, by simp, .inl rfl⟩
  | x :: S, a => by
    obtain ⟨h1, h2, h3⟩ := foldl_max S (max a x)
    simp only [List.foldl_cons]
    refine ⟨by omega, fun n hn => ?_, ?_⟩
    · rcases List.mem_cons.1 hn with rfl | hn
      · omega
      · exact h2 n hn
    · rcases h3 with h3 | h3
      · by_cases hx : a ≤ x
        · right; rw [h3, show max a x = x by omega]; simp
        · left; rw [h3]; omega
      · right; exact List.mem_cons_of_mem _ h3
theorem top_pos (S : List Int) : 0 ≤ topZ S := (foldl_max S 0).1
theorem top_le {S : List Int} {n : Int} (h : n ∈ S) : n ≤ topZ S := (foldl_max S 0).2.1 n h
theorem top_in (S : List Int) : topZ S = 0 ∨ topZ S ∈ S := (foldl_max S 0).2.2
theorem top_take (S : List Int) (i : Nat) (n : Int) (h : S[i]? = some n) : topZ (S.take (i + 1)) = max (topZ (S.take i)) n := by
  rw [List.take_add_one, h]; exact topZ_snoc _ _
/-- The window as it stands in memory. -/
structure WZ where
  made : Bool
  boot : Int
  top : Int
  F : List Bool
  hF : F.length = 64
theorem WZ.ext' {x y : WZ} (h1 : x.made = y.made) (h2 : x.boot = y.boot) (h3 : x.top = y.top) (h4 : x.F = y.F) : x = y := by
  cases x; cases y; simp only at h1 h2 h3 h4; subst h1 h2 h3 h4; rfl
/-- The flags of the i numbers behind the greatest are cleared. -/
def clr (F : List Bool) (t : Int) : Nat → List Bool
  | 0 => F
  | i + 1 => (clr F t i).set ((t + 1 + (i : Int)) % 64).toNat false
theorem clr_len (F : List Bool) (t : Int) : ∀ i, (clr F t i).length = F.length
  | 0 => rfl
  | i + 1 => by rw [clr, List.length_set, clr_len F t i]
theorem clr_at (F : List Bool) (t : Int) (ht : 0 ≤ t) (hF : F.length = 64) (j : Nat) (hj : j < 64) : ∀ i, (clr F t i).getD j false = if ∃ q : Nat, q < i ∧ (t + 1 + (q : Int)) % 64 = (j : Int) then false else F.getD j false
  | 0 => by simp [clr]
  | i + 1 => by
    have ih := clr_at F t ht hF j hj i
    have hl := clr_len F t i
    rw [clr]
    by_cases he : (t + 1 + (i : Int)) % 64 = (j : Int)
    · rw [if_pos ⟨i, by omega, he⟩]
      rw [he, Int.toNat_natCast, List.getD_eq_getElem?_getD, List.getElem?_set_self (by omega)]; rfl
    · have hne : ((t + 1 + (i : Int)) % 64).toNat ≠ j := by omega
      rw [List.getD_eq_getElem?_getD, List.getElem?_set_ne hne, ← List.getD_eq_getElem?_getD, ih]
      by_cases hq : ∃ q : Nat, q < i ∧ (t + 1 + (q : Int)) % 64 = (j : Int)
      · rw [if_pos hq]
        obtain ⟨q, h1, h2⟩ := hq
        rw [if_pos ⟨q, by omega, h2⟩]
      · rw [if_neg hq, if_neg]
        rintro ⟨q, h1, h2⟩
        rcases Nat.lt_succ_iff_lt_or_eq.1 h1 with h | rfl
        · exact hq ⟨q, h, h2⟩
        · exact he h2
def noF : List Bool := List.replicate 64 false
def anewZ (k : Int) : WZ := ⟨true, k, 0, noF, by simp [noF]⟩
/-- A number is taken. -/
def addZ (y : WZ) (n : Int) : WZ := ⟨y.made, y.boot, max y.top n, (clr y.F y.top (min (n - y.top) 64).toNat).set (n % 64).toNat true, by rw [List.length_set, clr_len, y.hF]⟩
def flag (S : List Int) (i : Nat) : Bool := S.any fun n => n % 64 == (i : Int) && decide (topZ S < n + 64)
def flags (S : List Int) : List Bool := (List.range 64).map (flag S)
theorem flags_len (S : List Int) : (flags S).length = 64 := by simp [flags]
theorem flags_at (S : List Int) (j : Nat) (hj : j < 64) : (flags S).getD j false = flag S j := by
  simp [flags, List.getD_eq_getElem?_getD, List.getElem?_map, List.getElem?_range hj]
/-- The window in which the numbers S of boot b came. -/
def win (b : Int) (S : List Int) : WZ := ⟨true, b, topZ S, flags S, flags_len S⟩
theorem win_none (k : Int) : win k [] = anewZ k := WZ.ext' rfl rfl rfl (by
  show flags [] = noF
  unfold flags noF
  rw [List.eq_replicate_iff]
  refine ⟨by simp, fun b hb => ?_⟩
  obtain ⟨i, _, rfl⟩ := List.mem_map.1 hb
  rfl)
theorem flag_iff (S : List Int) (j : Nat) : flag S j = true ↔ ∃ n ∈ S, n % 64 = (j : Int) ∧ topZ S < n + 64 := by
  simp [flag, List.any_eq_true]
theorem listB_ext {a b : List Bool} (hl : a.length = b.length) (h : ∀ j, j < a.length → a.getD j false = b.getD j false) : a = b := by
  refine List.ext_getElem hl fun j h1 h2 => ?_
  have := h j h1
  rwa [List.getD_eq_getElem?_getD, List.getD_eq_getElem?_getD, List.getElem?_eq_getElem h1, List.getElem?_eq_getElem h2] at this
theorem win_add (b : Int) (S : List Int) (n : Int) (hn : 1 ≤ n) (ht : topZ S < n + 64) (hS : ∀ x ∈ S, 1 ≤ x) : addZ (win b S) n = win b (S ++ [n]) := by
  refine WZ.ext' rfl rfl (topZ_snoc S n).symm ?_
  have h0 := top_pos S
  show (clr (flags S) (topZ S) (min (n - topZ S) 64).toNat).set (n % 64).toNat true = flags (S ++ [n])
  refine listB_ext (by rw [List.length_set, clr_len, flags_len, flags_len]) fun j hj => ?_
  rw [List.length_set, clr_len, flags_len] at hj
  rw [flags_at _ j hj]
  by_cases he : n % 64 = (j : Int)
  · rw [he, Int.toNat_natCast, List.getD_eq_getElem?_getD, List.getElem?_set_self (by rw [clr_len, flags_len]; exact hj)]
    symm
    show flag (S ++ [n]) j = true
    rw [flag_iff]
    exact ⟨n, by simp, he, by rw [topZ_snoc]; omega⟩
  · have hne : (n % 64).toNat ≠ j := by omega
    rw [List.getD_eq_getElem?_getD, List.getElem?_set_ne hne, ← List.getD_eq_getElem?_getD, clr_at _ _ h0 (flags_len S) j hj, flags_at _ j hj]
    rw [Bool.eq_iff_iff, flag_iff, topZ_snoc]
    by_cases hq : ∃ q : Nat, q < (min (n - topZ S) 64).toNat ∧ (topZ S + 1 + (q : Int)) % 64 = (j : Int)
    · rw [if_pos hq]
      obtain ⟨q, hq1, hq2⟩ := hq
      refine ⟨fun h => by simp at h, ?_⟩
      rintro ⟨x, hx, hx1, hx2⟩
      exfalso
      rcases List.mem_append.1 hx with hx | hx
      · have := top_le hx
        have := hS x hx
        omega
      · rw [List.mem_singleton] at hx
        subst hx
        exact he hx1
    · rw [if_neg hq, flag_iff]
      constructor
      · rintro ⟨x, hx, hx1, hx2⟩
        refine ⟨x, List.mem_append_left _ hx, hx1, ?_⟩
        have := top_le hx
        rcases Int.le_total (topZ S) n with hl | hl
        · rw [show max (topZ S) n = n by omega]
          rcases Int.lt_or_le n (x + 64) with h | h
          · exact h
          · exfalso
            refine hq ⟨(x + 64 - topZ S - 1).toNat, ?_, ?_⟩
            · omega
            · rw [Int.toNat_of_nonneg (by omega)]; omega
        · omega
      · rintro ⟨x, hx, hx1, hx2⟩
        rcases List.mem_append.1 hx with hx | hx
        · exact ⟨x, hx, hx1, by omega⟩
        · rw [List.mem_singleton] at hx
          subst hx
          exact absurd hx1 he
theorem win_snoc_in (b : Int) (S : List Int) (n : Int) (h : n ∈ S) : win b (S ++ [n]) = win b S := by
  have ht : topZ (S ++ [n]) = topZ S := by rw [topZ_snoc]; have := top_le h; omega
  refine WZ.ext' rfl rfl ht ?_
  show flags (S ++ [n]) = flags S
  refine listB_ext (by rw [flags_len, flags_len]) fun j hj => ?_
  rw [flags_len] at hj
  rw [flags_at _ j hj, flags_at _ j hj, Bool.eq_iff_iff, flag_iff, flag_iff, ht]
  constructor
  · rintro ⟨x, hx, hx1⟩
    rcases List.mem_append.1 hx with hx | hx
    · exact ⟨x, hx, hx1⟩
    · rw [List.mem_singleton] at hx
      subst hx
      exact ⟨x, h, hx1⟩
  · rintro ⟨x, hx, hx1⟩
    exact ⟨x, List.mem_append_left _ hx, hx1⟩
theorem win_snoc_ne (b : Int) (S : List Int) (n : Int) (ht : topZ S < n + 64) (hS : ∀ x ∈ S, 1 ≤ x) (hn : 1 ≤ n) (h : win b (S ++ [n]) = win b S) : n ∈ S := by
  have h1 : topZ (S ++ [n]) = topZ S := congrArg WZ.top h
  have h2 : flags (S ++ [n]) = flags S := congrArg WZ.F h
  rw [topZ_snoc] at h1
  have hle : n ≤ topZ S := by omega
  have hj : (n % 64).toNat < 64 := by omega
  have h3 : flag (S ++ [n]) (n % 64).toNat = flag S (n % 64).toNat := by rw [← flags_at _ _ hj, h2, flags_at _ _ hj]
  have h4 : flag (S ++ [n]) (n % 64).toNat = true := by
    rw [flag_iff]
    exact ⟨n, by simp, by omega, by rw [topZ_snoc]; omega⟩
  rw [h3, flag_iff] at h4
  obtain ⟨x, hx, hx1, hx2⟩ := h4
  have := top_le hx
  have : x = n := by omega
  exact this ▸ hx
/-- What Take answers, and the boot and the numbers behind it. -/
def takeZ (b : Int) (S : List Int) (k n : Int) : Int × Int × List Int :=
  if k < 0 ∨ n < 1 then (2, b, S)
  else if k < b then (180, b, S)
  else if b < k then (0, k, [n])
  else if n ≤ topZ S - 64 ∨ n ∈ S then (180, b, S)
  else (0, b, S ++ [n])
structure WIn (b : Int) (S : List Int) : Prop where
  lo : -1 ≤ b
  hi : b ≤ 9223372036854775807
  each : ∀ n ∈ S, 1 ≤ n ∧ n ≤ 9223372036854775807
theorem WIn.top {b : Int} {S : List Int} (h : WIn b S) : topZ S ≤ 9223372036854775807 := by
  rcases top_in S with h1 | h1
  · omega
  · exact (h.each _ h1).2
theorem wIn_none : WIn (-1) [] := ⟨by omega, by omega, by simp⟩
theorem wIn_take {b : Int} {S : List Int} (h : WIn b S) {k n : Int} (hk : k ≤ 9223372036854775807) (hn : n ≤ 9223372036854775807) : WIn (takeZ b S k n).2.1 (takeZ b S k n).2.2 := by
  unfold takeZ
  by_cases h1 : k < 0 ∨ n < 1
  · rw [if_pos h1]; exact h
  rw [if_neg h1]
  by_cases h2 : k < b
  · rw [if_pos h2]; exact h
  rw [if_neg h2]
  by_cases h3 : b < k
  · rw [if_pos h3]; exact ⟨by show -1 ≤ k; omega, hk, fun x hx => by rw [List.mem_singleton] at hx; subst hx; omega⟩
  rw [if_neg h3]
  by_cases h4 : n ≤ topZ S - 64 ∨ n ∈ S
  · rw [if_pos h4]; exact h
  rw [if_neg h4]
  refine ⟨h.lo, h.hi, fun x hx => ?_⟩
  rcases List.mem_append.1 hx with hx | hx
  · exact h.each x hx
  · rw [List.mem_singleton] at hx; subst hx; omega
theorem takeZ_len {b : Int} {S : List Int} {k n : Int} : (takeZ b S k n).2.2.length ≤ S.length + 1 := by
  unfold takeZ
  split
  · simp
  split
  · simp
  split
  · simp
  split <;> simp
/-- The window that with tells. -/
def withZ (b : Int) (S : List Int) (k n : Int) : WZ :=
  if k < b then win b S
  else if b < k then addZ (anewZ k) n
  else if n ≤ topZ S - 64 then win b S
  else addZ (win b S) n
theorem with_take {b : Int} {S : List Int} (h : WIn b S) {k n : Int} (hk : ¬ k < 0) (hn : ¬ n < 1) :
    withZ b S k n = win (takeZ b S k n).2.1 (takeZ b S k n).2.2 ∧ (withZ b S k n = win b S ↔ (takeZ b S k n).1 = 180) ∧ ((takeZ b S k n).1 = 180 ∨ (takeZ b S k n).1 = 0) := by
  unfold withZ takeZ
  rw [if_neg (show ¬ (k < 0 ∨ n < 1) by omega)]
  by_cases h2 : k < b
  · rw [if_pos h2, if_pos h2]; exact ⟨rfl, by simp, .inl rfl⟩
  rw [if_neg h2, if_neg h2]
  by_cases h3 : b < k
  · rw [if_pos h3, if_pos h3]
    have e : addZ (anewZ k) n = win k [n] := by rw [← win_none, win_add k [] n (by omega) (by rw [topZ_nil]; omega) (by simp)]; rfl
    refine ⟨e, ⟨fun h => ?_, fun h => by simp at h⟩, .inr rfl⟩
    rw [e] at h
    have : k = b := congrArg WZ.boot h
    omega
  rw [if_neg h3, if_neg h3]
  by_cases h4 : n ≤ topZ S - 64
  · rw [if_pos h4, if_pos (Or.inl h4)]; exact ⟨rfl, by simp, .inl rfl⟩
  rw [if_neg h4, win_add b S n (by omega) (by omega) (fun x hx => (h.each x hx).1)]
  by_cases h5 : n ∈ S
  · rw [if_pos (Or.inr h5)]; exact ⟨win_snoc_in b S n h5, ⟨fun _ => rfl, fun _ => win_snoc_in b S n h5⟩, .inl rfl⟩
  · rw [if_neg (by rintro (h | h); exact h4 h; exact h5 h)]
    refine ⟨rfl, ⟨fun h' => ?_, fun h' => by simp at h'⟩, .inr rfl⟩
    exact absurd (win_snoc_ne b S n (by omega) (fun x hx => (h.each x hx).1) (by omega) h') h5
end Wn
end Go.Proofs.Ytnnfcbcjepbjiaa
