/- Keys, values, pairs, spaces as plain values: the order of texts; what the calls make of a space. -/
import Derived.Laws.Strings
import Derived.Test.YtmlkcedhjnmfgaaB1
namespace Go.Proofs.Ytmlkcedhjnmfgaa
open Go
set_option linter.unusedVariables false
set_option linter.unusedSimpArgs false
namespace Sp
theorem less_irrefl : ∀ l : List UInt8, Op.bytesLess l l = false
  | [] => rfl
  | a :: l => by simp [Op.bytesLess, less_irrefl l]
theorem less_trans : ∀ x y z : List UInt8, Op.bytesLess x y = true → Op.bytesLess y z = true → Op.bytesLess x z = true
  | _, _, [], _, h => by simp [Op.bytesLess] at h
  | _, [], _ :: _, h, _ => by simp [Op.bytesLess] at h
  | [], _ :: _, _ :: _, _, _ => rfl
  | a :: x, b :: y, c :: z, h1, h2 => by
    simp only [Op.bytesLess, Bool.or_eq_true, decide_eq_true_eq, Bool.and_eq_true, beq_iff_eq] at h1 h2 ⊢
    rcases h1 with h1 | ⟨rfl, h1⟩
    · rcases h2 with h2 | ⟨rfl, h2⟩
      · exact .inl (UInt8.lt_trans h1 h2)
      · exact .inl h1
    · rcases h2 with h2 | ⟨rfl, h2⟩
      · exact .inl h2
      · exact .inr ⟨rfl, less_trans x y z h1 h2⟩
theorem less_tri : ∀ x y : List UInt8, Op.bytesLess x y = false → Op.bytesLess y x = false → x = y
  | [], [], _, _ => rfl
  | [], _ :: _, h, _ => by simp [Op.bytesLess] at h
  | _ :: _, [], _, h => by simp [Op.bytesLess] at h
  | a :: x, b :: y, h1, h2 => by
    simp only [Op.bytesLess, Bool.or_eq_false_iff, decide_eq_false_iff_not] at h1 h2
    have e : a = b := UInt8.le_antisymm (UInt8.not_lt.1 h2.1) (UInt8.not_lt.1 h1.1)
    subst e
    simp only [beq_self_eq_true, Bool.true_and] at h1 h2
    rw [less_tri x y h1.2 h2.2]
/-- Nothing stands between a text and it with a byte 0 behind. -/
theorem less_snoc : ∀ x y : List UInt8, Op.bytesLess y (x ++ [0]) = !Op.bytesLess x y
  | [], [] => rfl
  | [], b :: y => by
    have h : ¬ b < 0 := UInt8.not_lt.2 (UInt8.zero_le)
    cases y <;> simp [Op.bytesLess, h]
  | a :: x, [] => rfl
  | a :: x, b :: y => by
    simp only [List.cons_append, Op.bytesLess, less_snoc x y]
    by_cases h : a = b
    · subst h; simp
    · by_cases h1 : a < b
      · have h2 : ¬ b < a := fun h3 => UInt8.lt_irrefl _ (UInt8.lt_trans h1 h3)
        have h4 : ¬ b = a := fun e => h e.symm
        simp [h1, h2, h4]
      · have h2 : b < a := UInt8.lt_of_le_of_ne (UInt8.not_lt.1 h1) (fun e => h e.symm)
        have h4 : ¬ b = a := fun e => h e.symm
        simp [h1, h2, h]
/-- One text is less than another. -/
def ltB (x y : ByteArray) : Bool := Op.bytesLess x.toList y.toList
theorem toList_inj {x y : ByteArray} (h : x.toList = y.toList) : x = y := by
  rw [ByteArray.toList_eq, ByteArray.toList_eq] at h
  exact ByteArray.ext (Array.toList_inj.mp h)
theorem lt_irrefl (x : ByteArray) : ltB x x = false := less_irrefl _
theorem lt_trans {x y z : ByteArray} (h1 : ltB x y = true) (h2 : ltB y z = true) : ltB x z = true := less_trans _ _ _ h1 h2
theorem lt_tri {x y : ByteArray} (h1 : ltB x y = false) (h2 : ltB y x = false) : x = y := toList_inj (less_tri _ _ h1 h2)
theorem lt_ne {x y : ByteArray} (h : ltB x y = true) : x ≠ y := fun e => by subst e; rw [lt_irrefl] at h; cases h
theorem lt_asymm {x y : ByteArray} (h : ltB x y = true) : ltB y x = false := by
  cases h2 : ltB y x
  · rfl
  · have := lt_trans h h2; rw [lt_irrefl] at this; cases this
theorem lt_or {x y : ByteArray} (h : x ≠ y) : ltB x y = true ∨ ltB y x = true := by
  cases h1 : ltB x y
  · cases h2 : ltB y x
    · exact absurd (lt_tri h1 h2) h
    · exact .inr rfl
  · exact .inl rfl
theorem append_toList (x y : ByteArray) : (x ++ y).toList = x.toList ++ y.toList := by
  rw [ByteArray.toList_eq, ByteArray.toList_eq, ByteArray.toList_eq, ByteArray.data_append, Array.toList_append]
theorem lt_snoc (x y : ByteArray) : ltB y (x ++ ⟨#[0]⟩) = !ltB x y := by
  unfold ltB
  rw [append_toList, ByteArray.toList_eq ⟨#[0]⟩]
  exact less_snoc _ _
theorem lt_empty (x : ByteArray) : ltB x ⟨#[]⟩ = false := by
  unfold ltB
  rw [ByteArray.toList_eq ⟨#[]⟩]
  cases x.toList <;> rfl
theorem empty_lt {x : ByteArray} (h : 1 ≤ x.size) : ltB ⟨#[]⟩ x = true := by
  unfold ltB
  rw [ByteArray.toList_eq, ByteArray.toList_eq]
  have h2 : x.data.toList.length = x.size := rfl
  cases hx : x.data.toList with
  | nil => rw [hx] at h2; simp at h2; omega
  | cons a l => rfl
/-- As the program asks it. -/
theorem leq_of (x y : ByteArray) : (Op.bytesLess x.toList y.toList || x.toList == y.toList) = !ltB y x := by
  by_cases e : x = y
  · subst e
    rw [lt_irrefl]; simp
  · have hl : (x.toList == y.toList) = false := by
      rw [beq_eq_false_iff_ne]; exact fun h => e (toList_inj h)
    rw [hl, Bool.or_false]
    show ltB x y = !ltB y x
    rcases lt_or e with h | h
    · rw [h, lt_asymm h]; rfl
    · rw [h, lt_asymm h]; rfl
theorem seq_of (x y : ByteArray) : (x.toList == y.toList) = decide (x = y) := by
  by_cases e : x = y
  · subst e; simp
  · rw [decide_eq_false e, beq_eq_false_iff_ne]; exact fun h => e (toList_inj h)
structure PairZ where
  k : ByteArray
  v : ByteArray
def pvs : List PairZ → List Value
  | [] => []
  | p :: l => .string p.k :: .string p.v :: pvs l
def keyB (k : ByteArray) : Bool := decide (1 ≤ k.size) && decide (k.size ≤ 24)
def valB (v : ByteArray) : Bool := decide (v.size ≤ 64)
/-- Pairs of keys and values, keys rising, each greater than one ahead. -/
def riseP : ByteArray → List PairZ → Bool
  | _, [] => true
  | a, p :: l => keyB p.k && valB p.v && ltB a p.k && riseP p.k l
def cnt : List PairZ → Nat
  | [] => 0
  | p :: l => p.k.size + p.v.size + cnt l
theorem cnt_app : ∀ a b, cnt (a ++ b) = cnt a + cnt b
  | [], b => by simp [cnt]
  | p :: a, b => by simp only [List.cons_append, cnt, cnt_app a b]; omega
theorem rise_cons {a : ByteArray} {p : PairZ} {l : List PairZ} : riseP a (p :: l) = true ↔ keyB p.k = true ∧ valB p.v = true ∧ ltB a p.k = true ∧ riseP p.k l = true := by
  simp [riseP, and_assoc]
theorem rise_len {a : ByteArray} {l : List PairZ} (h : riseP a l = true) : cnt l ≤ 88 * l.length := by
  induction l generalizing a with
  | nil => simp [cnt]
  | cons p l ih =>
    obtain ⟨h1, h2, _, h4⟩ := rise_cons.1 h
    have := ih h4
    simp only [keyB, valB, Bool.and_eq_true, decide_eq_true_eq] at h1 h2
    simp only [cnt, List.length_cons]
    omega
/-- Each is greater than those ahead of it. -/
theorem rise_all {a : ByteArray} {l : List PairZ} (h : riseP a l = true) : ∀ p, p ∈ l → ltB a p.k = true ∧ keyB p.k = true ∧ valB p.v = true := by
  induction l generalizing a with
  | nil => intro p hp; simp at hp
  | cons q l ih =>
    obtain ⟨h1, h2, h3, h4⟩ := rise_cons.1 h
    intro p hp
    rcases List.mem_cons.1 hp with rfl | hp
    · exact ⟨h3, h1, h2⟩
    · obtain ⟨g1, g2, g3⟩ := ih h4 p hp
      exact ⟨lt_trans h3 g1, g2, g3⟩
theorem rise_less {a b : ByteArray} {l : List PairZ} (h : riseP a l = true) (hb : ∀ p, p ∈ l → ltB b p.k = true) : riseP b l = true := by
  cases l with
  | nil => rfl
  | cons p l =>
    obtain ⟨h1, h2, h3, h4⟩ := rise_cons.1 h
    exact rise_cons.2 ⟨h1, h2, hb p (List.mem_cons_self ..), h4⟩
theorem rise_filter {a : ByteArray} {l : List PairZ} (f : PairZ → Bool) (h : riseP a l = true) : riseP a (l.filter f) = true := by
  induction l generalizing a with
  | nil => rfl
  | cons p l ih =>
    obtain ⟨h1, h2, h3, h4⟩ := rise_cons.1 h
    simp only [List.filter_cons]
    split
    · exact rise_cons.2 ⟨h1, h2, h3, ih h4⟩
    · exact rise_less (ih h4) (fun q hq => lt_trans h3 (rise_all h4 q (List.mem_filter.1 hq).1).1)
theorem rise_app {a : ByteArray} {l m : List PairZ} (hl : riseP a l = true) (hm : riseP a m = true) (h : ∀ p, p ∈ l → ∀ q, q ∈ m → ltB p.k q.k = true) : riseP a (l ++ m) = true := by
  induction l generalizing a with
  | nil => exact hm
  | cons p l ih =>
    obtain ⟨h1, h2, h3, h4⟩ := rise_cons.1 hl
    refine rise_cons.2 ⟨h1, h2, h3, ih h4 (rise_less hm (fun q hq => h p (List.mem_cons_self ..) q hq)) (fun r hr => h r (List.mem_cons_of_mem _ hr))⟩
theorem rise_drop {a : ByteArray} {l : List PairZ} (j : Nat) (h : riseP a l = true) : riseP a (l.drop j) = true := by
  induction l generalizing a j with
  | nil => simp [riseP]
  | cons p l ih =>
    cases j with
    | zero => exact h
    | succ j =>
      obtain ⟨h1, h2, h3, h4⟩ := rise_cons.1 h
      rw [List.drop_succ_cons]
      exact rise_less (ih j h4) (fun q hq => lt_trans h3 (rise_all h4 q (List.mem_of_mem_drop hq)).1)
/-- The pair with a key; the pairs without it; with another one in its place. -/
def getP (l : List PairZ) (k : ByteArray) : Option ByteArray := (l.find? fun p => decide (p.k = k)).map (·.v)
def delP (l : List PairZ) (k : ByteArray) : List PairZ := l.filter fun p => !decide (p.k = k)
def lowP (l : List PairZ) (k : ByteArray) : List PairZ := l.filter fun p => ltB p.k k
def topP (l : List PairZ) (k : ByteArray) : List PairZ := l.filter fun p => ltB k p.k
def insP (l : List PairZ) (k v : ByteArray) : List PairZ := lowP l k ++ ⟨k, v⟩ :: topP l k
def posP (l : List PairZ) (k : ByteArray) : Nat := (lowP l k).length
/-- What is not less than a key begins where those end that are. -/
theorem low_take {a : ByteArray} {l : List PairZ} (k : ByteArray) (h : riseP a l = true) : lowP l k = l.take (posP l k) ∧ (l.filter fun p => !ltB p.k k) = l.drop (posP l k) := by
  unfold posP
  induction l generalizing a with
  | nil => simp [lowP]
  | cons p l ih =>
    obtain ⟨h1, h2, h3, h4⟩ := rise_cons.1 h
    obtain ⟨i1, i2⟩ := ih h4
    by_cases hp : ltB p.k k = true
    · have e : lowP (p :: l) k = p :: lowP l k := by simp [lowP, List.filter_cons, hp]
      rw [e, List.length_cons, List.take_succ_cons, List.drop_succ_cons]
      exact ⟨by rw [← i1], by simp only [List.filter_cons, hp, Bool.not_true, Bool.false_eq_true, if_false]; exact i2⟩
    · have hp' : ltB p.k k = false := by simpa using hp
      have all : ∀ q, q ∈ l → ltB q.k k = false := fun q hq => by
        cases hq2 : ltB q.k k
        · rfl
        · rw [lt_trans (rise_all h4 q hq).1 hq2] at hp'; cases hp'
      have e : lowP (p :: l) k = [] := by
        rw [lowP, List.filter_eq_nil_iff]
        intro q hq
        rcases List.mem_cons.1 hq with rfl | hq
        · simp [hp']
        · simp [all q hq]
      rw [e]
      refine ⟨by simp, ?_⟩
      rw [List.length_nil, List.drop_zero, List.filter_eq_self]
      intro q hq
      rcases List.mem_cons.1 hq with rfl | hq
      · simp [hp']
      · simp [all q hq]
theorem pos_le (l : List PairZ) (k : ByteArray) : posP l k ≤ l.length := List.length_filter_le _ _
theorem low_at {a : ByteArray} {l : List PairZ} (k : ByteArray) (h : riseP a l = true) {i : Nat} {p : PairZ} (hp : l[i]? = some p) : ltB p.k k = decide (i < posP l k) := by
  obtain ⟨h1, h2⟩ := low_take k h
  by_cases hi : i < posP l k
  · have : p ∈ lowP l k := by
      rw [h1]
      have : (l.take (posP l k))[i]? = some p := by rw [List.getElem?_take]; simp [hi, hp]
      exact List.mem_of_getElem? this
    rw [decide_eq_true hi]
    exact (List.mem_filter.1 this).2
  · have : p ∈ l.filter fun p => !ltB p.k k := by
      rw [h2]
      have : (l.drop (posP l k))[i - posP l k]? = some p := by rw [List.getElem?_drop]; rw [show posP l k + (i - posP l k) = i by omega, hp]
      exact List.mem_of_getElem? this
    rw [decide_eq_false hi]
    simpa using (List.mem_filter.1 this).2
/-- Where the key's pair ends. -/
def behP (l : List PairZ) (k : ByteArray) : Nat := if (l[posP l k]?).any (fun p => decide (p.k = k)) = true then posP l k + 1 else posP l k
theorem beh_le (l : List PairZ) (k : ByteArray) : posP l k ≤ behP l k ∧ behP l k ≤ posP l k + 1 ∧ behP l k ≤ l.length := by
  have h0 := pos_le l k
  unfold behP
  split
  · rename_i h
    refine ⟨by omega, by omega, ?_⟩
    cases e : l[posP l k]? with
    | none => rw [e] at h; simp at h
    | some p => have := (List.getElem?_eq_some_iff.1 e).1; omega
  · exact ⟨by omega, by omega, h0⟩
theorem top_drop {a : ByteArray} {l : List PairZ} (k : ByteArray) (h : riseP a l = true) : topP l k = l.drop (behP l k) ∧ delP l k = l.take (posP l k) ++ l.drop (behP l k) := by
  obtain ⟨h1, h2⟩ := low_take k h
  have hr := rise_drop (posP l k) h
  have h3 : l.take (posP l k) ++ l.drop (posP l k) = l := List.take_append_drop ..
  have key : ∀ (j : Nat), (∀ p, p ∈ l.drop j → ltB k p.k = true) → (∀ p, p ∈ (l.drop (posP l k)).take (j - posP l k) → p.k = k) → posP l k ≤ j → topP l k = l.drop j ∧ delP l k = l.take (posP l k) ++ l.drop j := by
    intro j g1 g2 g3
    have e : l = l.take (posP l k) ++ ((l.drop (posP l k)).take (j - posP l k) ++ l.drop j) := by
      have : (l.drop (posP l k)).take (j - posP l k) ++ (l.drop (posP l k)).drop (j - posP l k) = l.drop (posP l k) := List.take_append_drop ..
      rw [List.drop_drop, show posP l k + (j - posP l k) = j by omega] at this
      rw [this, h3]
    generalize (l.drop (posP l k)).take (j - posP l k) = M at *
    have a1 : ∀ p, p ∈ l.take (posP l k) → ltB p.k k = true := fun p hp => by
      rw [← h1] at hp; exact (List.mem_filter.1 hp).2
    generalize l.take (posP l k) = T at *
    generalize l.drop j = D at *
    constructor
    · rw [e, topP, List.filter_append, List.filter_append, List.filter_eq_nil_iff.2, List.filter_eq_nil_iff.2, List.filter_eq_self.2 g1]
      · rfl
      · intro p hp; rw [g2 p hp, lt_irrefl]; decide
      · intro p hp; rw [lt_asymm (a1 p hp)]; decide
    · rw [e, delP, List.filter_append, List.filter_append, List.filter_eq_self.2, List.filter_eq_nil_iff.2, List.filter_eq_self.2]
      · rfl
      · intro p hp; simp [Ne.symm (lt_ne (g1 p hp))]
      · intro p hp; simp [g2 p hp]
      · intro p hp; simp [lt_ne (a1 p hp)]
  refine key (behP l k) ?_ ?_ (beh_le l k).1
  · intro p hp
    unfold behP at hp
    split at hp
    · rename_i hq
      cases e : l[posP l k]? with
      | none => rw [e] at hq; simp at hq
      | some q =>
        rw [e] at hq
        have hqk : q.k = k := by simpa using hq
        have hd : l.drop (posP l k) = q :: l.drop (posP l k + 1) := by
          obtain ⟨hk, rfl⟩ := List.getElem?_eq_some_iff.1 e
          exact List.drop_eq_getElem_cons hk
        rw [hd] at hr
        have := (rise_cons.1 hr).2.2.2
        rw [← hqk]
        exact (rise_all this p hp).1
    · rename_i hq
      have hne : p.k ≠ k := fun he => by
        obtain ⟨i, hi⟩ := List.mem_iff_getElem?.1 hp
        cases i with
        | zero =>
          rw [List.getElem?_drop, Nat.add_zero] at hi
          rw [hi] at hq; simp [he] at hq
        | succ i =>
          cases e : l[posP l k]? with
          | none =>
            have := List.getElem?_eq_none_iff.1 e
            rw [List.getElem?_drop, List.getElem?_eq_none (by omega)] at hi
            cases hi
          | some q =>
            have hd : l.drop (posP l k) = q :: l.drop (posP l k + 1) := by
              obtain ⟨hk, rfl⟩ := List.getElem?_eq_some_iff.1 e
              exact List.drop_eq_getElem_cons hk
            rw [hd] at hr hi
            have hm : p ∈ l.drop (posP l k + 1) := List.mem_of_getElem? (by simpa using hi)
            have h5 := (rise_all (rise_cons.1 hr).2.2.2 p hm).1
            have h6 : q ∈ l.filter fun p => !ltB p.k k := by rw [h2, hd]; exact List.mem_cons_self ..
            rw [he] at h5
            have := (List.mem_filter.1 h6).2
            rw [h5] at this; cases this
      have h6 : p ∈ l.filter fun p => !ltB p.k k := by rw [h2]; exact hp
      have h7 : ltB p.k k = false := by simpa using (List.mem_filter.1 h6).2
      rcases lt_or hne with h | h
      · rw [h] at h7; cases h7
      · exact h
  · intro p hp
    unfold behP at hp
    split at hp
    · rename_i hq
      rw [show posP l k + 1 - posP l k = 1 by omega] at hp
      cases e : l[posP l k]? with
      | none => rw [e] at hq; simp at hq
      | some q =>
        have hd : l.drop (posP l k) = q :: l.drop (posP l k + 1) := by
          obtain ⟨hk, rfl⟩ := List.getElem?_eq_some_iff.1 e
          exact List.drop_eq_getElem_cons hk
        rw [hd] at hp
        rw [e] at hq
        have : p = q := by simpa using hp
        subst this
        simpa using hq
    · rw [Nat.sub_self] at hp; simp at hp
theorem ins_cut {a : ByteArray} {l : List PairZ} (k v : ByteArray) (h : riseP a l = true) : insP l k v = l.take (posP l k) ++ [⟨k, v⟩] ++ l.drop (behP l k) := by
  unfold insP
  rw [(low_take k h).1, (top_drop k h).1]
  simp
theorem get_cut {a : ByteArray} {l : List PairZ} (k : ByteArray) (h : riseP a l = true) :
    (posP l k = behP l k → getP l k = none) ∧ (posP l k ≠ behP l k → ∃ p, l[posP l k]? = some p ∧ p.k = k ∧ getP l k = some p.v) := by
  obtain ⟨h1, h2⟩ := low_take k h
  have h3 : lowP l k ++ (l.filter fun p => !ltB p.k k) = l := by rw [h1, h2]; exact List.take_append_drop ..
  have f1 : (lowP l k).find? (fun p => decide (p.k = k)) = none := by
    rw [List.find?_eq_none]
    intro p hp
    simpa using lt_ne (List.mem_filter.1 hp).2
  constructor
  · intro e
    unfold getP
    have hd := (top_drop k h).1
    rw [← e, ← h2] at hd
    have f2 : (l.filter fun p => !ltB p.k k).find? (fun p => decide (p.k = k)) = none := by
      rw [List.find?_eq_none]
      intro p hp
      rw [← hd] at hp
      simpa using Ne.symm (lt_ne (List.mem_filter.1 hp).2)
    rw [← h3, List.find?_append, f1, f2]
    rfl
  · intro e
    unfold behP at e
    split at e
    · rename_i hq
      cases e : l[posP l k]? with
      | none => rw [e] at hq; simp at hq
      | some q =>
        rw [e] at hq
        have hqk : q.k = k := by simpa using hq
        refine ⟨q, rfl, hqk, ?_⟩
        have hd : l.drop (posP l k) = q :: l.drop (posP l k + 1) := by
          obtain ⟨hk, rfl⟩ := List.getElem?_eq_some_iff.1 e
          exact List.drop_eq_getElem_cons hk
        unfold getP
        rw [← h3, List.find?_append, f1, h2, hd]
        simp [List.find?_cons, hqk]
    · exact absurd rfl e
theorem ins_rise {l : List PairZ} {k v : ByteArray} (h : riseP ⟨#[]⟩ l = true) (hk : keyB k = true) (hv : valB v = true) : riseP ⟨#[]⟩ (insP l k v) = true := by
  refine rise_app (rise_filter _ h) ?_ ?_
  · refine rise_cons.2 ⟨hk, hv, empty_lt (by simp only [keyB, Bool.and_eq_true, decide_eq_true_eq] at hk; exact hk.1), rise_less (rise_filter _ h) (fun p hp => (List.mem_filter.1 hp).2)⟩
  · intro p hp q hq
    have h1 := (List.mem_filter.1 hp).2
    rcases List.mem_cons.1 hq with rfl | hq
    · exact h1
    · exact lt_trans h1 (List.mem_filter.1 hq).2
theorem get_ins (l : List PairZ) (k v : ByteArray) : getP (insP l k v) k = some v := by
  unfold getP insP
  rw [List.find?_append]
  have : (lowP l k).find? (fun p => decide (p.k = k)) = none := by
    rw [List.find?_eq_none]
    intro p hp
    simpa using lt_ne (List.mem_filter.1 hp).2
  rw [this]
  simp
theorem find_filter {l : List PairZ} {f g : PairZ → Bool} (h : ∀ p, p ∈ l → g p = true → f p = true) : (l.filter f).find? g = l.find? g := by
  induction l with
  | nil => rfl
  | cons p l ih =>
    have ih := ih (fun q hq => h q (List.mem_cons_of_mem _ hq))
    by_cases hf : f p = true
    · rw [List.filter_cons, if_pos hf, List.find?_cons, List.find?_cons, ih]
    · have hg : g p = false := by
        cases hg : g p
        · rfl
        · exact absurd (h p (List.mem_cons_self ..) hg) hf
      rw [List.filter_cons, if_neg hf, List.find?_cons, hg, ih]
theorem get_ins_other (l : List PairZ) {k o : ByteArray} (v : ByteArray) (h : o ≠ k) : getP (insP l k v) o = getP l o := by
  unfold getP insP
  congr 1
  rw [List.find?_append, List.find?_cons, decide_eq_false (fun e => h e.symm)]
  rcases lt_or h with ho | ho
  · have e1 : (topP l k).find? (fun p => decide (p.k = o)) = none := by
      rw [List.find?_eq_none]
      intro p hp
      have := (List.mem_filter.1 hp).2
      simp only [decide_eq_true_eq]
      intro e; rw [e, lt_asymm ho] at this; cases this
    have e2 : (lowP l k).find? (fun p => decide (p.k = o)) = l.find? fun p => decide (p.k = o) := find_filter fun p _ hp => by
      simp only [decide_eq_true_eq] at hp; rw [hp, ho]
    rw [e1, e2]; simp
  · have e1 : (lowP l k).find? (fun p => decide (p.k = o)) = none := by
      rw [List.find?_eq_none]
      intro p hp
      have := (List.mem_filter.1 hp).2
      simp only [decide_eq_true_eq]
      intro e; rw [e, lt_asymm ho] at this; cases this
    have e2 : (topP l k).find? (fun p => decide (p.k = o)) = l.find? fun p => decide (p.k = o) := find_filter fun p _ hp => by
      simp only [decide_eq_true_eq] at hp; rw [hp, ho]
    rw [e1, e2]; simp
theorem get_del (l : List PairZ) (k : ByteArray) : getP (delP l k) k = none := by
  unfold getP delP
  have : (l.filter fun p => !decide (p.k = k)).find? (fun p => decide (p.k = k)) = none := by
    rw [List.find?_eq_none]
    intro p hp
    simpa using (List.mem_filter.1 hp).2
  rw [this]; rfl
theorem get_del_other (l : List PairZ) {k o : ByteArray} (h : o ≠ k) : getP (delP l k) o = getP l o := by
  unfold getP delP
  rw [find_filter]
  intro p _ hp
  simp only [decide_eq_true_eq] at hp
  simp [hp, h]
theorem cnt_filter (f : PairZ → Bool) (l : List PairZ) : cnt (l.filter f) ≤ cnt l := by
  induction l with
  | nil => simp [cnt]
  | cons p l ih =>
    simp only [List.filter_cons]
    split
    · simp only [cnt]; omega
    · simp only [cnt]; omega
/-- Two keys, put in either order. -/
theorem ins_lt (l : List PairZ) {a b : ByteArray} (x y : ByteArray) (h : ltB a b = true) :
    insP (insP l a x) b y = lowP l a ++ ⟨a, x⟩ :: ((topP l a).filter (fun p => ltB p.k b) ++ ⟨b, y⟩ :: topP l b) ∧ insP (insP l b y) a x = insP (insP l a x) b y := by
  have e1 : lowP (insP l a x) b = lowP l a ++ ⟨a, x⟩ :: (topP l a).filter (fun p => ltB p.k b) := by
    unfold insP
    rw [lowP, List.filter_append, List.filter_cons, if_pos (by exact h)]
    congr 1
    rw [List.filter_eq_self]
    intro p hp
    exact lt_trans (List.mem_filter.1 hp).2 h
  have e2 : topP (insP l a x) b = topP l b := by
    unfold insP
    rw [topP, List.filter_append, List.filter_cons, if_neg (by simp [lt_asymm h])]
    have e : (lowP l a).filter (fun p => ltB b p.k) = [] := List.filter_eq_nil_iff.2 (fun p hp => by
      have := lt_trans (List.mem_filter.1 hp).2 h
      simp [lt_asymm this])
    rw [e]
    unfold topP
    rw [List.nil_append, List.filter_filter]
    apply List.filter_congr
    intro p hp
    cases hb : ltB b p.k
    · simp
    · simp [lt_trans h hb]
  have f1 : lowP (insP l b y) a = lowP l a := by
    unfold insP
    rw [lowP, List.filter_append, List.filter_cons, if_neg (by simp [lt_asymm h])]
    have e : (topP l b).filter (fun p => ltB p.k a) = [] := List.filter_eq_nil_iff.2 (fun p hp => by
      have := lt_trans h (List.mem_filter.1 hp).2
      simp [lt_asymm this])
    rw [e]
    unfold lowP
    rw [List.append_nil, List.filter_filter]
    apply List.filter_congr
    intro p hp
    cases hb : ltB p.k a
    · simp
    · simp [lt_trans hb h]
  have f2 : topP (insP l b y) a = (topP l a).filter (fun p => ltB p.k b) ++ ⟨b, y⟩ :: topP l b := by
    unfold insP
    rw [topP, List.filter_append, List.filter_cons, if_pos (by exact h)]
    congr 1
    · unfold topP lowP
      rw [List.filter_filter, List.filter_filter]
      apply List.filter_congr
      intro p hp
      rw [Bool.and_comm]
    · congr 1
      rw [List.filter_eq_self]
      intro p hp
      exact lt_trans h (List.mem_filter.1 hp).2
  have g : insP (insP l a x) b y = lowP l a ++ ⟨a, x⟩ :: ((topP l a).filter (fun p => ltB p.k b) ++ ⟨b, y⟩ :: topP l b) := by
    rw [insP, e1, e2]; simp
  refine ⟨g, ?_⟩
  rw [g, insP, f1, f2]
theorem ins_comm (l : List PairZ) {a b : ByteArray} (x y : ByteArray) (h : a ≠ b) : insP (insP l a x) b y = insP (insP l b y) a x := by
  rcases lt_or h with h | h
  · exact (ins_lt l x y h).2.symm
  · exact (ins_lt l y x h).2
/-- A space. -/
structure SpZ where
  K : Int
  Y : Int
  l : List PairZ
def sp0 : SpZ := ⟨0, 0, []⟩
def limB (K Y : Int) : Bool := decide (0 ≤ K) && decide (K ≤ 64) && decide (0 ≤ Y) && decide (Y ≤ 4096)
def fitB (K Y : Int) (l : List PairZ) : Bool := decide ((l.length : Int) ≤ K) && decide ((cnt l : Int) ≤ Y)
def mayB (s : SpZ) : Bool := limB s.K s.Y && riseP ⟨#[]⟩ s.l && fitB s.K s.Y s.l
theorem may_parts {s : SpZ} (h : mayB s = true) : limB s.K s.Y = true ∧ riseP ⟨#[]⟩ s.l = true ∧ fitB s.K s.Y s.l = true ∧ s.l.length ≤ 64 ∧ cnt s.l ≤ 4096 := by
  unfold mayB at h
  simp only [Bool.and_eq_true] at h
  obtain ⟨⟨h1, h2⟩, h3⟩ := h
  refine ⟨h1, h2, h3, ?_⟩
  simp only [limB, fitB, Bool.and_eq_true, decide_eq_true_eq] at h1 h3
  omega
theorem may_of {K Y : Int} {l : List PairZ} (h1 : limB K Y = true) (h2 : riseP ⟨#[]⟩ l = true) (h3 : fitB K Y l = true) : mayB ⟨K, Y, l⟩ = true := by
  simp [mayB, h1, h2, h3]
def getR (s : SpZ) (k : ByteArray) : ByteArray × Int := if mayB s && keyB k then (match getP s.l k with | some v => (v, 0) | none => (⟨#[]⟩, 110)) else (⟨#[]⟩, 2)
def fitR (s : SpZ) : SpZ × Int := if fitB s.K s.Y s.l then (s, 0) else (sp0, 120)
def putR (s : SpZ) (k v : ByteArray) : SpZ × Int := if mayB s && keyB k && valB v then fitR ⟨s.K, s.Y, insP s.l k v⟩ else (sp0, 2)
def swapR (s : SpZ) (k o v : ByteArray) : SpZ × Int := if valB v then (if (getR s k).2 = 0 then (if (getR s k).1 = o then putR s k v else (sp0, 111)) else (sp0, (getR s k).2)) else (sp0, 2)
def delR (s : SpZ) (k : ByteArray) : SpZ × Int := if (getR s k).2 = 0 then (⟨s.K, s.Y, delP s.l k⟩, 0) else (sp0, (getR s k).2)
def sizeR (s : SpZ) (K Y : Int) : SpZ × Int := if mayB s && limB K Y then fitR ⟨K, Y, s.l⟩ else (sp0, 2)
def newR (K Y : Int) : SpZ × Int := if limB K Y then (⟨K, Y, []⟩, 0) else (sp0, 2)
def listR (s : SpZ) (f : ByteArray) (n : Int) : List ByteArray := if mayB s then ((s.l.filter fun p => !ltB p.k f).take n.toNat).map (·.k) else []
theorem new_size (K Y : Int) : sizeR sp0 K Y = newR K Y := by
  unfold sizeR newR
  have : mayB sp0 = true := by decide
  rw [this, Bool.true_and]
  cases h : limB K Y
  · rfl
  · have : fitB K Y [] = true := by
      simp only [limB, Bool.and_eq_true, decide_eq_true_eq] at h
      simp [fitB, cnt, h.1.1.1, h.1.2]
    simp [fitR, sp0, this]
instance : DecidableEq PairZ := fun a b => decidable_of_iff (a.k = b.k ∧ a.v = b.v) ⟨fun h => by cases a; cases b; simp_all, fun h => by subst h; exact ⟨rfl, rfl⟩⟩
def sameB (s t : SpZ) : Bool := decide (s.K = t.K) && decide (s.Y = t.Y) && decide (s.l = t.l)
end Sp
end Go.Proofs.Ytmlkcedhjnmfgaa
