/- Which tables may be, plain; a client's place; what a note makes of a table. -/
import Derived.Test.YtlapdocikhjkcaaRpM
namespace Go.Proofs.Ytlapdocikhjkcaa
set_option linter.unusedVariables false
set_option linter.unusedSimpArgs false
open Plain
namespace Rp
def askB (c id : Int) : Bool := decide (0 ≤ c) && decide (c < 4) && decide (1 ≤ id) && decide (id ≤ 1099511627776)
theorem askB_iff {c id : Int} : askB c id = true ↔ 0 ≤ c ∧ c < 4 ∧ 1 ≤ id ∧ id ≤ 1099511627776 := by
  unfold askB
  simp only [Bool.and_eq_true, decide_eq_true_eq]
  omega
/-- The first of n places of which that is so; n, if there is none. -/
structure IsF (p : Nat → Bool) (n pos : Nat) : Prop where
  le : pos ≤ n
  no : ∀ j, j < pos → p j = false
  yes : pos < n → p pos = true
theorem isF_ex (p : Nat → Bool) : ∀ n, ∃ pos, IsF p n pos
  | 0 => ⟨0, Nat.le_refl _, fun j h => absurd h (by omega), fun h => absurd h (by omega)⟩
  | n + 1 => by
    obtain ⟨pos, h⟩ := isF_ex p n
    rcases Nat.lt_or_ge pos n with h1 | h1
    · exact ⟨pos, by have := h.le; omega, h.no, fun _ => h.yes h1⟩
    · have e : pos = n := by have := h.le; omega
      subst e
      cases hp : p pos with
      | true => exact ⟨pos, by omega, h.no, fun _ => hp⟩
      | false => exact ⟨pos + 1, Nat.le_refl _, fun j hj => by
          rcases Nat.lt_or_ge j pos with h2 | h2
          · exact h.no j h2
          · rw [show j = pos by omega]; exact hp, fun h => absurd h (by omega)⟩
section
variable {α : Type} (C I : α → Int)
def wrongG (l : List α) (i : Nat) : Bool := ((l[i]?.map fun x => !askB (C x) (I x) || (decide (0 < i) && ((l[i - 1]?.map fun y => decide (C x ≤ C y)).getD false)))).getD false
def mayG (l : List α) : Bool := (List.range l.length).all fun i => !wrongG C I l i
def findG (l : List α) (c : Int) : Option α := l.find? fun x => C x == c
def insG (x : α) (l : List α) : List α := l.takeWhile (fun y => decide (C y < C x)) ++ x :: l.dropWhile (fun y => decide (C y ≤ C x))
def riseG : Int → List α → Bool
  | _, [] => true
  | p, x :: l => askB (C x) (I x) && decide (p < C x) && riseG (C x) l
variable {C I}
theorem wrong_at {l : List α} {i : Nat} {x : α} (h : l[i]? = some x) : wrongG C I l i = (!askB (C x) (I x) || (decide (0 < i) && ((l[i - 1]?.map fun y => decide (C x ≤ C y)).getD false))) := by
  unfold wrongG; rw [h]; rfl
theorem wrong_zero {l : List α} {x : α} (h : l[0]? = some x) : wrongG C I l 0 = !askB (C x) (I x) := by
  rw [wrong_at h]; simp
theorem wrong_more {l : List α} {i : Nat} {x y : α} (h : l[i]? = some x) (h0 : 0 < i) (hy : l[i - 1]? = some y) : wrongG C I l i = (!askB (C x) (I x) || decide (C x ≤ C y)) := by
  rw [wrong_at h, hy]; simp [h0]
theorem may_first {l : List α} {pos : Nat} (h : IsF (wrongG C I l) l.length pos) : mayG C I l = decide (pos = l.length) := by
  unfold mayG
  by_cases e : pos = l.length
  · rw [decide_eq_true e, List.all_eq_true]
    intro j hj
    rw [h.no j (by rw [List.mem_range] at hj; omega)]; rfl
  · rw [decide_eq_false e, List.all_eq_false]
    have hl : pos < l.length := by have := h.le; omega
    exact ⟨pos, List.mem_range.2 hl, by rw [h.yes hl]; simp⟩
theorem rise_iff : ∀ (l : List α) (p : Int), riseG C I p l = true ↔ ∀ (i : Nat) (x : α), l[i]? = some x → askB (C x) (I x) = true ∧ (i = 0 → p < C x) ∧ (0 < i → ∀ y, l[i - 1]? = some y → C y < C x)
  | [], p => by simp [riseG]
  | a :: l, p => by
    simp only [riseG, Bool.and_eq_true, decide_eq_true_eq, rise_iff l (C a)]
    constructor
    · rintro ⟨⟨h1, h2⟩, h3⟩ i x hx
      cases i with
      | zero => simp at hx; subst hx; exact ⟨h1, fun _ => h2, fun h => absurd h (by omega)⟩
      | succ i =>
        have hx' : l[i]? = some x := by simpa using hx
        obtain ⟨k1, k2, k3⟩ := h3 i x hx'
        refine ⟨k1, fun h => absurd h (by omega), fun _ y hy => ?_⟩
        rw [Nat.add_sub_cancel] at hy
        cases i with
        | zero => simp at hy; subst hy; exact k2 rfl
        | succ i => exact k3 (by omega) y (by simpa using hy)
    · intro h
      refine ⟨⟨(h 0 a rfl).1, (h 0 a rfl).2.1 rfl⟩, fun i x hx => ?_⟩
      obtain ⟨k1, k2, k3⟩ := h (i + 1) x (by simpa using hx)
      refine ⟨k1, fun h0 => ?_, fun h0 y hy => ?_⟩
      · subst h0; exact k3 (by omega) a rfl
      · refine k3 (by omega) y ?_
        rw [Nat.add_sub_cancel]
        obtain ⟨i', rfl⟩ : ∃ i', i = i' + 1 := ⟨i - 1, by omega⟩
        simpa using hy
theorem may_rise (l : List α) : mayG C I l = riseG C I (-1) l := by
  rw [Bool.eq_iff_iff, rise_iff]
  unfold mayG
  rw [List.all_eq_true]
  constructor
  · intro h i x hx
    have hi : i < l.length := (List.getElem?_eq_some_iff.1 hx).1
    have hw := h i (List.mem_range.2 hi)
    rw [wrong_at hx] at hw
    simp only [Bool.not_or, Bool.not_not, Bool.and_eq_true, Bool.not_and, Bool.or_eq_true, Bool.not_eq_true', decide_eq_false_iff_not] at hw
    refine ⟨hw.1, fun _ => ?_, fun h0 y hy => ?_⟩
    · have := (askB_iff.1 hw.1).1; omega
    · rcases hw.2 with h2 | h2
      · omega
      · rw [hy] at h2
        simpa using h2
  · intro h i hi
    rw [List.mem_range] at hi
    have hx : l[i]? = some l[i] := List.getElem?_eq_getElem hi
    obtain ⟨k1, k2, k3⟩ := h i _ hx
    rw [wrong_at hx, k1]
    rcases Nat.eq_zero_or_pos i with h0 | h0
    · simp [h0]
    · have hy : l[i - 1]? = some l[i - 1] := List.getElem?_eq_getElem (by omega)
      have := k3 h0 _ hy
      rw [hy]
      simp [h0]
      omega
theorem rise_lo : ∀ {l : List α} {p q : Int}, riseG C I p l = true → q ≤ p → riseG C I q l = true
  | [], _, _, _, _ => rfl
  | a :: l, p, q, h, hq => by
    simp only [riseG, Bool.and_eq_true, decide_eq_true_eq] at h ⊢
    exact ⟨⟨h.1.1, by omega⟩, h.2⟩
theorem rise_mem : ∀ {l : List α} {p : Int}, riseG C I p l = true → ∀ x, x ∈ l → askB (C x) (I x) = true ∧ p < C x
  | [], _, _, x, hx => by simp at hx
  | a :: l, p, h, x, hx => by
    simp only [riseG, Bool.and_eq_true, decide_eq_true_eq] at h
    rcases List.mem_cons.1 hx with rfl | hx
    · exact ⟨h.1.1, h.1.2⟩
    · obtain ⟨k1, k2⟩ := rise_mem h.2 x hx
      exact ⟨k1, by omega⟩
theorem rise_len : ∀ {l : List α} {p : Int}, riseG C I p l = true → -1 ≤ p → (l.length : Int) ≤ 3 - p ∨ l = []
  | [], _, _, _ => .inr rfl
  | a :: l, p, h, hp => by
    simp only [riseG, Bool.and_eq_true, decide_eq_true_eq] at h
    have h1 := askB_iff.1 h.1.1
    rcases rise_len h.2 (by omega) with h2 | h2
    · exact .inl (by simp only [List.length_cons]; omega)
    · subst h2; exact .inl (by simp only [List.length_cons, List.length_nil]; omega)
theorem may_len {l : List α} (h : mayG C I l = true) : l.length ≤ 4 := by
  rw [may_rise] at h
  rcases rise_len h (by omega) with h | h
  · omega
  · subst h; simp
theorem find_none {l : List α} {p : Int} (h : riseG C I p l = true) {c : Int} (hc : c ≤ p) : findG C l c = none := by
  unfold findG
  rw [List.find?_eq_none]
  intro x hx
  have := (rise_mem h x hx).2
  simp
  omega
theorem find_cons (a : α) (l : List α) (c : Int) : findG C (a :: l) c = if C a = c then some a else findG C l c := by
  unfold findG
  rw [List.find?_cons]
  by_cases h : C a = c
  · simp [h]
  · have : (C a == c) = false := by simpa using h
    rw [this, if_neg h]
theorem find_c {l : List α} {c : Int} {x : α} (h : findG C l c = some x) : C x = c ∧ x ∈ l := by
  unfold findG at h
  exact ⟨by simpa using List.find?_some h, List.mem_of_find?_eq_some h⟩
theorem ins_nil (x : α) : insG C x [] = [x] := rfl
theorem ins_cons (x a : α) (l : List α) : insG C x (a :: l) = if C a < C x then a :: insG C x l else x :: (a :: l).dropWhile (fun y => decide (C y ≤ C x)) := by
  unfold insG
  by_cases h : C a < C x
  · simp [h, show C a ≤ C x by omega]
  · simp [h]
theorem drop_ins {x : α} : ∀ {l : List α} {p : Int}, riseG C I p l = true → C x ≤ p → l.dropWhile (fun y => decide (C y ≤ C x)) = l
  | [], _, _, _ => rfl
  | a :: l, p, h, hp => by
    simp only [riseG, Bool.and_eq_true, decide_eq_true_eq] at h
    rw [List.dropWhile_cons, if_neg]
    simp
    omega
theorem ins_at {x a : α} {l : List α} {p : Int} (h : riseG C I p (a :: l) = true) : insG C x (a :: l) = if C a < C x then a :: insG C x l else if C a = C x then x :: l else x :: a :: l := by
  rw [ins_cons]
  have h' := h
  simp only [riseG, Bool.and_eq_true, decide_eq_true_eq] at h'
  by_cases h1 : C a < C x
  · rw [if_pos h1, if_pos h1]
  · rw [if_neg h1, if_neg h1]
    by_cases h2 : C a = C x
    · rw [if_pos h2, List.dropWhile_cons, if_pos (by simp; omega), drop_ins h'.2 (by omega)]
    · rw [if_neg h2, List.dropWhile_cons, if_neg (by simp; omega)]
theorem ins_rise {x : α} (hx : askB (C x) (I x) = true) : ∀ {l : List α} {p : Int}, riseG C I p l = true → p < C x → riseG C I p (insG C x l) = true
  | [], p, _, hp => by simp [insG, riseG, hx, hp]
  | a :: l, p, h, hp => by
    rw [ins_at h]
    have h' := h
    simp only [riseG, Bool.and_eq_true, decide_eq_true_eq] at h'
    by_cases h1 : C a < C x
    · rw [if_pos h1]
      simp only [riseG, Bool.and_eq_true, decide_eq_true_eq]
      exact ⟨h'.1, ins_rise hx h'.2 h1⟩
    · rw [if_neg h1]
      by_cases h2 : C a = C x
      · rw [if_pos h2]
        simp only [riseG, Bool.and_eq_true, decide_eq_true_eq]
        exact ⟨⟨hx, hp⟩, by rw [← h2]; exact h'.2⟩
      · rw [if_neg h2]
        simp only [riseG, Bool.and_eq_true, decide_eq_true_eq]
        exact ⟨⟨hx, hp⟩, ⟨h'.1.1, by omega⟩, h'.2⟩
theorem ins_may {x : α} {l : List α} (hx : askB (C x) (I x) = true) (h : mayG C I l = true) : mayG C I (insG C x l) = true := by
  rw [may_rise] at h ⊢
  exact ins_rise hx h (by have := (askB_iff.1 hx).1; omega)
theorem ins_find {x : α} (d : Int) : ∀ {l : List α} {p : Int}, riseG C I p l = true → findG C (insG C x l) d = if C x = d then some x else findG C l d
  | [], _, _ => by rw [ins_nil, find_cons]
  | a :: l, p, h => by
    rw [ins_at h]
    have h' := h
    simp only [riseG, Bool.and_eq_true, decide_eq_true_eq] at h'
    by_cases h1 : C a < C x
    · rw [if_pos h1, find_cons, ins_find d h'.2, find_cons]
      by_cases h2 : C a = d
      · rw [if_pos h2, if_pos h2, if_neg (by omega)]
      · rw [if_neg h2, if_neg h2]
    · rw [if_neg h1]
      by_cases h2 : C a = C x
      · rw [if_pos h2, find_cons, find_cons]
        by_cases h3 : C x = d
        · rw [if_pos h3, if_pos h3]
        · rw [if_neg h3, if_neg h3, if_neg (by omega)]
      · rw [if_neg h2, find_cons]
/-- The document's way: by clients. -/
def docG (x : α) (l : List α) (k : Nat) : List α := if (k : Int) = C x then [x] else (findG C l k).toList
def docF (x : α) (l : List α) : Nat → Nat → List α
  | 0, _ => []
  | m + 1, k => docG (C := C) x l k ++ docF x l m (k + 1)
theorem doc_tail {x a : α} {l : List α} : ∀ (m k : Nat), C a < (k : Int) → docF (C := C) x (a :: l) m k = docF (C := C) x l m k
  | 0, _, _ => rfl
  | m + 1, k, h => by
    simp only [docF, docG]
    rw [find_cons, if_neg (show ¬ C a = (k : Int) by omega), doc_tail m (k + 1) (by omega)]
theorem doc_behind {x : α} : ∀ (m k : Nat) {l : List α}, riseG C I ((k : Int) - 1) l = true → k + m = 4 → C x < (k : Int) → docF (C := C) x l m k = l
  | 0, k, [], _, _, _ => rfl
  | 0, k, a :: l, h, hk, _ => by
    simp only [riseG, Bool.and_eq_true, decide_eq_true_eq] at h
    have := askB_iff.1 h.1.1
    omega
  | m + 1, k, [], h, hk, hx => by
    simp only [docF, docG]
    rw [if_neg (by omega), doc_behind m (k + 1) (l := []) rfl (by omega) (by omega)]; rfl
  | m + 1, k, a :: l, h, hk, hx => by
    have h' := h
    simp only [riseG, Bool.and_eq_true, decide_eq_true_eq] at h'
    simp only [docF, docG]
    rw [if_neg (by omega), find_cons]
    by_cases h1 : C a = (k : Int)
    · rw [if_pos h1, doc_tail m (k + 1) (by omega), doc_behind m (k + 1) (l := l) (by rw [show ((k + 1 : Nat) : Int) - 1 = C a by omega]; exact h'.2) (by omega) (by omega)]; rfl
    · rw [if_neg h1, find_none h'.2 (by omega), doc_behind m (k + 1) (l := a :: l) (by
        simp only [riseG, Bool.and_eq_true, decide_eq_true_eq]
        exact ⟨⟨h'.1.1, by omega⟩, h'.2⟩) (by omega) (by omega)]; rfl
theorem doc_ins {x : α} (hx : C x < 4) : ∀ (m k : Nat) {l : List α}, riseG C I ((k : Int) - 1) l = true → k + m = 4 → (k : Int) ≤ C x → docF (C := C) x l m k = insG C x l
  | 0, k, l, h, hk, h2 => by omega
  | m + 1, k, [], h, hk, h2 => by
    simp only [docF, docG]
    by_cases h1 : (k : Int) = C x
    · rw [if_pos h1, doc_behind m (k + 1) (l := []) (I := I) rfl (by omega) (by omega)]; rfl
    · rw [if_neg h1, doc_ins hx m (k + 1) (l := []) rfl (by omega) (by omega)]; rfl
  | m + 1, k, a :: l, h, hk, h2 => by
    have h' := h
    simp only [riseG, Bool.and_eq_true, decide_eq_true_eq] at h'
    rw [ins_at h]
    simp only [docF, docG]
    have hh : riseG C I (((k + 1 : Nat) : Int) - 1) l = true := rise_lo h'.2 (by omega)
    by_cases h1 : (k : Int) = C x
    · rw [if_pos h1, if_neg (by omega)]
      by_cases h3 : C a = C x
      · rw [if_pos h3, doc_tail m (k + 1) (by omega), doc_behind m (k + 1) hh (by omega) (by omega)]; rfl
      · rw [if_neg h3, doc_behind m (k + 1) (l := a :: l) (I := I) (by
          simp only [riseG, Bool.and_eq_true, decide_eq_true_eq]
          exact ⟨⟨h'.1.1, by omega⟩, h'.2⟩) (by omega) (by omega)]; rfl
    · rw [if_neg h1, find_cons]
      by_cases h3 : C a = (k : Int)
      · rw [if_pos h3, if_pos (by omega), doc_tail m (k + 1) (by omega), doc_ins hx m (k + 1) hh (by omega) (by omega)]; rfl
      · rw [if_neg h3, find_none h'.2 (by omega), doc_ins hx m (k + 1) (l := a :: l) (by
          simp only [riseG, Bool.and_eq_true, decide_eq_true_eq]
          exact ⟨⟨h'.1.1, by omega⟩, h'.2⟩) (by omega) (by omega), ins_at h]; rfl
/-- A row is cut where that is first so. -/
theorem cut_take {q : α → Bool} : ∀ (l : List α) (pos : Nat), (∀ j x, j < pos → l[j]? = some x → q x = true) → (∀ x, l[pos]? = some x → q x = false) → pos ≤ l.length → l.take pos = l.takeWhile q ∧ l.drop pos = l.dropWhile q
  | [], pos, _, _, _ => by simp
  | a :: l, 0, _, h2, _ => by
    have := h2 a rfl
    simp [this]
  | a :: l, pos + 1, h1, h2, h3 => by
    have ha := h1 0 a (by omega) rfl
    obtain ⟨k1, k2⟩ := cut_take l pos (fun j x hj hx => h1 (j + 1) x (by omega) (by simpa using hx)) (fun x hx => h2 x (by simpa using hx)) (by simpa using h3)
    simp [ha, k1, k2]
theorem find_first {l : List α} {c : Int} {pos : Nat} (h : IsF (fun j => (l[j]?.map fun x => decide (C x = c)).getD false) l.length pos) : findG C l c = l[pos]? := by
  have key : ∀ (l : List α) (pos : Nat), pos ≤ l.length → (∀ j, j < pos → ((l[j]?.map fun x => decide (C x = c)).getD false) = false) → (pos < l.length → ((l[pos]?.map fun x => decide (C x = c)).getD false) = true) → findG C l c = l[pos]? := by
    intro l
    induction l with
    | nil => intro pos h _ _; simp [findG]
    | cons a l ih =>
      intro pos h1 h2 h3
      rw [find_cons]
      cases pos with
      | zero =>
        have := h3 (by simp)
        simp at this
        rw [if_pos this]; rfl
      | succ pos =>
        have := h2 0 (by omega)
        simp at this
        rw [if_neg this, ih pos (by simpa using h1) (fun j hj => by simpa using h2 (j + 1) (by omega)) (fun hl => by simpa using h3 (by simpa using hl))]
        simp
  exact key l pos h.le h.no h.yes
end
/-- The same of what is plain of a table. -/
theorem may_z (l : List LX) : mayG LastZ.c LastZ.id (l.map LX.z) = mayG LX.c LX.id l := by
  unfold mayG wrongG
  simp only [List.length_map, List.getElem?_map, Option.map_map]
  rfl
theorem find_z (l : List LX) (c : Int) : findG LastZ.c (l.map LX.z) c = (findG LX.c l c).map LX.z := by
  unfold findG
  rw [List.find?_map]
  rfl
theorem ins_z (x : LX) (l : List LX) : (insG LX.c x l).map LX.z = insG LastZ.c x.z (l.map LX.z) := by
  unfold insG
  rw [List.map_append, List.map_cons, List.takeWhile_map, List.dropWhile_map]
  rfl
end Rp
end Go.Proofs.Ytlapdocikhjkcaa
