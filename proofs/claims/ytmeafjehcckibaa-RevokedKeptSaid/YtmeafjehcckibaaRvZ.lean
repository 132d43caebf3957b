/- Sets of serials, as plain lists: which lists are one, what a serial more makes of it, what is in either of two. -/
import Derived.Test.YtmeafjehcckibaaB1
namespace Go.Proofs.Ytmeafjehcckibaa.Plain
set_option linter.unusedVariables false
/-- Rising, from above a on, and none above 2^40. -/
def riseB : Int → List Int → Bool
  | _, [] => true
  | a, z :: l => decide (a < z) && decide (z ≤ 1099511627776) && riseB z l
def setB (l : List Int) : Bool := decide (l.length ≤ 32) && riseB 0 l
def serB (n : Int) : Bool := decide (0 < n) && decide (n ≤ 1099511627776)
def hasL (l : List Int) (n : Int) : Bool := decide (n ∈ l)
theorem rise_cons {a z : Int} {l : List Int} : riseB a (z :: l) = true ↔ a < z ∧ z ≤ 1099511627776 ∧ riseB z l = true := by
  simp [riseB, Bool.and_eq_true, and_assoc]
theorem rise_mem {l : List Int} : ∀ {a x : Int}, riseB a l = true → x ∈ l → a < x ∧ x ≤ 1099511627776 := by
  induction l with
  | nil => intro a x h hx; simp at hx
  | cons z l ih =>
    intro a x h hx
    obtain ⟨h1, h2, h3⟩ := rise_cons.1 h
    rcases List.mem_cons.1 hx with rfl | hx
    · exact ⟨h1, h2⟩
    · have := ih h3 hx
      omega
theorem rise_less {l : List Int} {a b : Int} (h : riseB a l = true) (hb : b ≤ a) : riseB b l = true := by
  cases l with
  | nil => rfl
  | cons z l =>
    obtain ⟨h1, h2, h3⟩ := rise_cons.1 h
    exact rise_cons.2 ⟨by omega, h2, h3⟩
/-- A rising list is known by what is in it. -/
theorem rise_ext {l1 : List Int} : ∀ {l2 : List Int} {a : Int}, riseB a l1 = true → riseB a l2 = true → (∀ x, x ∈ l1 ↔ x ∈ l2) → l1 = l2 := by
  induction l1 with
  | nil =>
    intro l2 a h1 h2 h
    cases l2 with
    | nil => rfl
    | cons z l => exact absurd ((h z).2 (by simp)) (by simp)
  | cons y l1 ih =>
    intro l2 a h1 h2 h
    cases l2 with
    | nil => exact absurd ((h y).1 (by simp)) (by simp)
    | cons z l2 =>
      obtain ⟨p1, p2, p3⟩ := rise_cons.1 h1
      obtain ⟨q1, q2, q3⟩ := rise_cons.1 h2
      have hy : y = z ∨ y ∈ l2 := by simpa using (h y).1 (by simp)
      have hz : z = y ∨ z ∈ l1 := by simpa using (h z).2 (by simp)
      have e : y = z := by
        rcases hy with e | hy
        · exact e
        · rcases hz with e | hz
          · exact e.symm
          · have := rise_mem q3 hy; have := rise_mem p3 hz; omega
      subst e
      rw [ih p3 q3 fun x => ?_]
      constructor
      · intro hx
        have := rise_mem p3 hx
        rcases List.mem_cons.1 ((h x).1 (List.mem_cons_of_mem _ hx)) with e | hx'
        · omega
        · exact hx'
      · intro hx
        have := rise_mem q3 hx
        rcases List.mem_cons.1 ((h x).2 (List.mem_cons_of_mem _ hx)) with e | hx'
        · omega
        · exact hx'
/-- What is in either of two. -/
def mrg : List Int → List Int → List Int
  | [], b => b
  | x :: a, [] => x :: a
  | x :: a, y :: b => if x < y then x :: mrg a (y :: b) else if y < x then y :: mrg (x :: a) b else x :: mrg a b
termination_by a b => a.length + b.length
theorem mrg_l (b : List Int) : mrg [] b = b := by rw [mrg]
theorem mrg_r (a : List Int) : mrg a [] = a := by cases a <;> rw [mrg]
theorem mrg_lt {x y : Int} (a b : List Int) (h : x < y) : mrg (x :: a) (y :: b) = x :: mrg a (y :: b) := by rw [mrg, if_pos h]
theorem mrg_gt {x y : Int} (a b : List Int) (h : y < x) : mrg (x :: a) (y :: b) = y :: mrg (x :: a) b := by rw [mrg, if_neg (by omega), if_pos h]
theorem mrg_eq {x y : Int} (a b : List Int) (h : x = y) : mrg (x :: a) (y :: b) = x :: mrg a b := by rw [mrg, if_neg (by omega), if_neg (by omega)]
theorem mrg_mem (a b : List Int) : ∀ z, z ∈ mrg a b ↔ z ∈ a ∨ z ∈ b := by
  fun_induction mrg a b with
  | case1 b => simp
  | case2 x a => simp
  | case3 x a y b h ih => intro z; simp only [List.mem_cons, ih z]; simp only [or_assoc]
  | case4 x a y b h h2 ih =>
    intro z; simp only [List.mem_cons, ih z]
    constructor
    · rintro (h | (h | h) | h) <;> simp [h]
    · rintro ((h | h) | h | h) <;> simp [h]
  | case5 x a y b h h2 ih =>
    have e : x = y := by omega
    subst e
    intro z; simp only [List.mem_cons, ih z]
    constructor
    · rintro (h | h | h) <;> simp [h]
    · rintro ((h | h) | h | h) <;> simp [h]
theorem mrg_rise (a b : List Int) : ∀ c, riseB c a = true → riseB c b = true → riseB c (mrg a b) = true := by
  fun_induction mrg a b with
  | case1 b => intro c _ h; exact h
  | case2 x a => intro c h _; exact h
  | case3 x a y b h ih =>
    intro c h1 h2
    obtain ⟨p1, p2, p3⟩ := rise_cons.1 h1
    obtain ⟨q1, q2, q3⟩ := rise_cons.1 h2
    exact rise_cons.2 ⟨p1, p2, ih x p3 (rise_cons.2 ⟨h, q2, q3⟩)⟩
  | case4 x a y b h h2 ih =>
    intro c h1 h3
    obtain ⟨p1, p2, p3⟩ := rise_cons.1 h1
    obtain ⟨q1, q2, q3⟩ := rise_cons.1 h3
    exact rise_cons.2 ⟨q1, q2, ih y (rise_cons.2 ⟨h2, p2, p3⟩) q3⟩
  | case5 x a y b h h2 ih =>
    intro c h1 h3
    have e : x = y := by omega
    subst e
    obtain ⟨p1, p2, p3⟩ := rise_cons.1 h1
    obtain ⟨q1, q2, q3⟩ := rise_cons.1 h3
    exact rise_cons.2 ⟨p1, p2, ih x p3 q3⟩
theorem mrg_len (a b : List Int) : (mrg a b).length ≤ a.length + b.length := by
  fun_induction mrg a b with
  | case1 b => simp
  | case2 x a => simp
  | case3 x a y b h ih => simp only [List.length_cons] at *; omega
  | case4 x a y b h h2 ih => simp only [List.length_cons] at *; omega
  | case5 x a y b h h2 ih => simp only [List.length_cons] at *; omega
theorem mrg_len_l (a b : List Int) : a.length ≤ (mrg a b).length := by
  fun_induction mrg a b with
  | case1 b => simp
  | case2 x a => simp
  | case3 x a y b h ih => simp only [List.length_cons] at *; omega
  | case4 x a y b h h2 ih => simp only [List.length_cons] at *; omega
  | case5 x a y b h h2 ih => simp only [List.length_cons] at *; omega
/-- A serial more. -/
theorem rise_one {n : Int} (h : serB n = true) : riseB 0 [n] = true := by
  simp only [serB, Bool.and_eq_true, decide_eq_true_eq] at h
  simp [riseB, h.1, h.2]
theorem mrg_more {a b : List Int} {k : Nat} {y : Int} (ha : riseB 0 a = true) (hb : riseB 0 b = true) (hk : b[k]? = some y) : mrg (mrg a (b.take k)) [y] = mrg a (b.take (k + 1)) := by
  have ht : ∀ m, riseB 0 (b.take m) = true := by
    intro m
    clear ha hk
    revert hb
    generalize (0 : Int) = c
    induction b generalizing c m with
    | nil => intro h; simpa using h
    | cons z b ih =>
      intro h
      cases m with
      | zero => rfl
      | succ m =>
        obtain ⟨p1, p2, p3⟩ := rise_cons.1 h
        rw [List.take_succ_cons]
        exact rise_cons.2 ⟨p1, p2, ih m z p3⟩
  have hy := rise_mem hb (List.mem_of_getElem? hk)
  refine rise_ext (a := 0) (mrg_rise _ _ 0 (mrg_rise _ _ 0 ha (ht k)) (by simp [riseB, hy.1, hy.2])) (mrg_rise _ _ 0 ha (ht (k + 1))) fun x => ?_
  rw [mrg_mem, mrg_mem, mrg_mem, List.take_add_one, hk]
  simp [or_assoc]
theorem rise_take {b : List Int} : ∀ {c : Int} (m : Nat), riseB c b = true → riseB c (b.take m) = true := by
  induction b with
  | nil => intro c m h; simpa using h
  | cons z b ih =>
    intro c m h
    cases m with
    | zero => rfl
    | succ m =>
      obtain ⟨p1, p2, p3⟩ := rise_cons.1 h
      rw [List.take_succ_cons]
      exact rise_cons.2 ⟨p1, p2, ih m p3⟩
theorem mrg_grows {a b : List Int} (ha : riseB 0 a = true) (hb : riseB 0 b = true) (k : Nat) : ∀ d, (mrg a (b.take k)).length ≤ (mrg a (b.take (k + d))).length := by
  intro d
  induction d with
  | zero => exact Nat.le_refl _
  | succ d ih =>
    cases hk : b[k + d]? with
    | none =>
      have hl : b.length ≤ k + d := List.getElem?_eq_none_iff.1 hk
      rw [List.take_of_length_le (show b.length ≤ k + (d + 1) by omega)]
      rw [List.take_of_length_le hl] at ih
      exact ih
    | some y =>
      have := mrg_more ha hb hk
      rw [show k + (d + 1) = k + d + 1 from rfl, ← this]
      exact Nat.le_trans ih (mrg_len_l _ _)
theorem mrg_part {a b : List Int} (ha : riseB 0 a = true) (hb : riseB 0 b = true) (k : Nat) : (mrg a (b.take k)).length ≤ (mrg a b).length := by
  have := mrg_grows ha hb k b.length
  rwa [List.take_of_length_le (show b.length ≤ k + b.length by omega)] at this
/-- A serial more, as the document puts it there. -/
theorem add_cut {n : Int} {l : List Int} : ∀ {a : Int} {k : Nat}, riseB a l = true → (∀ j, j < k → l.getD j 0 < n) → k ≤ l.length → (k = l.length ∨ n ≤ l.getD k 0) → l.take k ++ [n] ++ l.filter (fun z => decide (n < z)) = mrg l [n] := by
  induction l with
  | nil => intro a k h h1 h2 h3; simp [mrg_l]
  | cons z l ih =>
    intro a k h h1 h2 h3
    obtain ⟨p1, p2, p3⟩ := rise_cons.1 h
    cases k with
    | zero =>
      have hz : n ≤ z := by
        rcases h3 with h3 | h3
        · simp at h3
        · simpa using h3
      have hf : l.filter (fun z => decide (n < z)) = l := by
        rw [List.filter_eq_self]
        intro x hx
        have := rise_mem p3 hx
        simp; omega
      by_cases e : z = n
      · subst e
        rw [mrg_eq _ _ rfl, mrg_r, List.filter_cons_of_neg (by simp), hf]
        rfl
      · rw [mrg_gt _ _ (by omega), mrg_r, List.filter_cons_of_pos (by simp; omega), hf]
        rfl
    | succ k =>
      have hz : z < n := by simpa using h1 0 (by omega)
      rw [mrg_lt _ _ hz, List.filter_cons_of_neg (by simp; omega), ← ih (k := k) p3 (fun j hj => by simpa using h1 (j + 1) (by omega)) (by simpa using h2) (by simpa using h3)]
      rfl
/-- What Union tells, and Add: the list, the error. -/
def unP (a b : List Int) : List Int × Int := if setB a && setB b then (if (mrg a b).length ≤ 32 then (mrg a b, 0) else ([], 4)) else ([], 2)
def addP (l : List Int) (n : Int) : List Int × Int := if setB l && serB n then (if (mrg l [n]).length ≤ 32 then (mrg l [n], 0) else ([], 4)) else ([], 2)
theorem set_one (n : Int) : setB [n] = serB n := by simp [setB, serB, riseB]
theorem add_un (l : List Int) (n : Int) : unP l [n] = addP l n := by unfold unP addP; rw [set_one]
theorem set_rise {l : List Int} (h : setB l = true) : l.length ≤ 32 ∧ riseB 0 l = true := by
  simpa [setB, Bool.and_eq_true] using h
theorem set_of {l : List Int} (h1 : l.length ≤ 32) (h2 : riseB 0 l = true) : setB l = true := by
  simp [setB, h1, h2]
theorem unP_len (a b : List Int) : (unP a b).1.length ≤ 32 := by
  unfold unP
  split
  · split
    · assumption
    · simp
  · simp
theorem unP_ok {a b : List Int} (h : (unP a b).2 = 0) : setB a = true ∧ setB b = true ∧ (mrg a b).length ≤ 32 ∧ (unP a b).1 = mrg a b := by
  unfold unP at h ⊢
  by_cases h1 : (setB a && setB b) = true
  · rw [if_pos h1] at h ⊢
    rw [Bool.and_eq_true] at h1
    by_cases h2 : (mrg a b).length ≤ 32
    · rw [if_pos h2] at h ⊢
      exact ⟨h1.1, h1.2, h2, rfl⟩
    · rw [if_neg h2] at h; exact absurd h (by decide)
  · rw [if_neg h1] at h; exact absurd h (by decide)
theorem mrg_set {a b : List Int} (ha : setB a = true) (hb : setB b = true) (h : (mrg a b).length ≤ 32) : setB (mrg a b) = true :=
  set_of h (mrg_rise _ _ 0 (set_rise ha).2 (set_rise hb).2)
theorem mrg_has (a b : List Int) (x : Int) : hasL (mrg a b) x = (hasL a x || hasL b x) := by
  unfold hasL
  rw [Bool.eq_iff_iff]
  simp [mrg_mem]
theorem mrg_self {a : List Int} (h : riseB 0 a = true) : mrg a a = a :=
  rise_ext (mrg_rise _ _ 0 h h) h fun x => by rw [mrg_mem]; simp
theorem mrg_in {a : List Int} {n : Int} (h : riseB 0 a = true) (hs : serB n = true) (hn : n ∈ a) : mrg a [n] = a :=
  rise_ext (mrg_rise _ _ 0 h (rise_one hs)) h fun x => by
    rw [mrg_mem]
    constructor
    · rintro (h | h)
      · exact h
      · rw [List.mem_singleton] at h; subst h; exact hn
    · exact .inl
end Go.Proofs.Ytmeafjehcckibaa.Plain
