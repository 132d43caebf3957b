/- Shares and pools as plain values; what the calls make of a pool. -/
import Derived.Below
namespace Go.Proofs.Ytpodpbhbagkblaa
open Go
set_option linter.unusedVariables false
set_option linter.unusedSimpArgs false
structure ShZ where
  t : Int
  k : Int
  s : Int
instance : DecidableEq ShZ := fun a b => decidable_of_iff (a.t = b.t ∧ a.k = b.k ∧ a.s = b.s) ⟨fun h => by cases a; cases b; simp_all, fun h => by subst h; exact ⟨rfl, rfl, rfl⟩⟩
namespace Qt
def sh0 : ShZ := ⟨0, 0, 0⟩
def shB (x : ShZ) : Bool := decide (1 ≤ x.t) && decide (x.t ≤ 8) && decide (0 ≤ x.k) && decide (x.k ≤ 64) && decide (0 ≤ x.s) && decide (x.s ≤ 4096)
structure ShIn (x : ShZ) : Prop where
  t1 : 1 ≤ x.t
  t8 : x.t ≤ 8
  k0 : 0 ≤ x.k
  k1 : x.k ≤ 64
  s0 : 0 ≤ x.s
  s1 : x.s ≤ 4096
theorem shB_in {x : ShZ} (h : shB x = true) : ShIn x := by
  simp only [shB, Bool.and_eq_true, decide_eq_true_eq] at h
  obtain ⟨⟨⟨⟨⟨a, b⟩, c⟩, d⟩, e⟩, f⟩ := h
  exact ⟨a, b, c, d, e, f⟩
theorem shB_of {x : ShZ} (h : ShIn x) : shB x = true := by
  obtain ⟨a, b, c, d, e, f⟩ := h
  simp [shB, a, b, c, d, e, f]
/-- Each share may be, tenants rising, from p on. -/
def riseQ : Int → List ShZ → Bool
  | _, [] => true
  | p, x :: l => shB x && decide (p < x.t) && riseQ x.t l
def sumK : List ShZ → Int
  | [] => 0
  | x :: l => x.k + sumK l
def sumS : List ShZ → Int
  | [] => 0
  | x :: l => x.s + sumS l
theorem sumK_app : ∀ a b, sumK (a ++ b) = sumK a + sumK b
  | [], b => by simp [sumK]
  | x :: a, b => by simp only [List.cons_append, sumK, sumK_app a b]; omega
theorem sumS_app : ∀ a b, sumS (a ++ b) = sumS a + sumS b
  | [], b => by simp [sumS]
  | x :: a, b => by simp only [List.cons_append, sumS, sumS_app a b]; omega
def fitB (l : List ShZ) : Bool := decide (sumK l ≤ 64) && decide (sumS l ≤ 4096)
def mayB (l : List ShZ) : Bool := riseQ 0 l && fitB l
def ofR (l : List ShZ) (t : Int) : Option ShZ := l.find? fun x => decide (x.t = t)
/-- Where the first share stands whose tenant is that; behind all, if there is none. -/
def idxR (l : List ShZ) (t : Int) : Nat := l.findIdx fun x => decide (x.t = t)
/-- Where the first one stands whose tenant is a greater one. -/
def posR (l : List ShZ) (t : Int) : Nat := l.findIdx fun x => decide (t < x.t)
/-- The list with that share, in its place. -/
def insR : List ShZ → ShZ → List ShZ
  | [], x => [x]
  | y :: l, x => if x.t < y.t then x :: y :: l else if x.t = y.t then x :: l else y :: insR l x
def toldR (l : List ShZ) : List ShZ × Int := if fitB l then (l, 0) else ([], 120)
def resR (l : List ShZ) (x : ShZ) : List ShZ × Int := if mayB l && shB x then (if (ofR l x.t).isSome then ([], 161) else toldR (insR l x)) else ([], 2)
def sizR (l : List ShZ) (x : ShZ) : List ShZ × Int := if mayB l && shB x then (if (ofR l x.t).isSome then toldR (insR l x) else ([], 160)) else ([], 2)
def leftR (l : List ShZ) : Int × Int := if mayB l then (64 - sumK l, 4096 - sumS l) else (0, 0)
theorem rise_mono {p q : Int} (h : q ≤ p) : ∀ {l : List ShZ}, riseQ p l = true → riseQ q l = true
  | [], _ => rfl
  | x :: l, e => by
    simp only [riseQ, Bool.and_eq_true, decide_eq_true_eq] at e ⊢
    exact ⟨⟨e.1.1, by omega⟩, e.2⟩
theorem rise_len : ∀ {l : List ShZ} {p : Int}, 0 ≤ p → p ≤ 8 → riseQ p l = true → (l.length : Int) ≤ 8 - p
  | [], p, _, _, _ => by simp; omega
  | x :: l, p, h0, h8, e => by
    simp only [riseQ, Bool.and_eq_true, decide_eq_true_eq] at e
    have hx := shB_in e.1.1
    have := rise_len (l := l) (p := x.t) (by have := hx.t1; omega) hx.t8 e.2
    simp only [List.length_cons]
    omega
theorem rise_len8 {l : List ShZ} (h : riseQ 0 l = true) : l.length ≤ 8 := by
  have := rise_len (by omega) (by omega) h
  omega
theorem rise_in : ∀ {l : List ShZ} {p : Int}, riseQ p l = true → ∀ x, x ∈ l → ShIn x ∧ p < x.t
  | [], p, _, x, h => by simp at h
  | y :: l, p, e, x, h => by
    simp only [riseQ, Bool.and_eq_true, decide_eq_true_eq] at e
    rcases List.mem_cons.1 h with rfl | h
    · exact ⟨shB_in e.1.1, e.1.2⟩
    · have := rise_in e.2 x h
      exact ⟨this.1, by omega⟩
theorem rise_sums : ∀ {l : List ShZ} {p : Int}, riseQ p l = true → 0 ≤ sumK l ∧ sumK l ≤ 64 * (l.length : Int) ∧ 0 ≤ sumS l ∧ sumS l ≤ 4096 * (l.length : Int)
  | [], p, _ => by simp [sumK, sumS]
  | y :: l, p, e => by
    simp only [riseQ, Bool.and_eq_true, decide_eq_true_eq] at e
    have hx := shB_in e.1.1
    have := rise_sums e.2
    obtain ⟨_, _, k0, k1, s0, s1⟩ := hx
    simp only [sumK, sumS, List.length_cons]
    omega
theorem may_parts {l : List ShZ} (h : mayB l = true) : riseQ 0 l = true ∧ fitB l = true := by
  simpa [mayB] using h
theorem of_none : ∀ {l : List ShZ} {t : Int}, riseQ t l = true → ofR l t = none
  | [], t, _ => rfl
  | y :: l, t, e => by
    simp only [riseQ, Bool.and_eq_true, decide_eq_true_eq] at e
    have h : ¬ y.t = t := by omega
    have := of_none (l := l) (t := t) (rise_mono (by omega) e.2)
    simp only [ofR, List.find?_cons, h, decide_false] at this ⊢
    exact this
theorem of_cons (y : ShZ) (l : List ShZ) (t : Int) : ofR (y :: l) t = if y.t = t then some y else ofR l t := by
  unfold ofR
  rw [List.find?_cons]
  by_cases h : y.t = t <;> simp [h]
theorem of_t {l : List ShZ} {t : Int} {y : ShZ} (h : ofR l t = some y) : y.t = t ∧ y ∈ l := by
  unfold ofR at h
  exact ⟨by simpa using List.find?_some h, List.mem_of_find?_eq_some h⟩
/-- A list that rises is known by its tenants' shares. -/
theorem rise_ext : ∀ {a b : List ShZ} {p : Int}, riseQ p a = true → riseQ p b = true → (∀ t, ofR a t = ofR b t) → a = b
  | [], [], _, _, _, _ => rfl
  | [], y :: b, _, _, _, h => by
    have := h y.t
    rw [of_cons] at this
    simp [ofR] at this
  | x :: a, [], _, _, _, h => by
    have := h x.t
    rw [of_cons] at this
    simp [ofR] at this
  | x :: a, y :: b, p, ha, hb, h => by
    simp only [riseQ, Bool.and_eq_true, decide_eq_true_eq] at ha hb
    have e : x = y := by
      rcases Int.lt_trichotomy x.t y.t with hl | hl | hl
      · have := h x.t
        rw [of_cons, of_cons, if_pos rfl, if_neg (by omega), of_none (rise_mono (by omega) hb.2)] at this
        cases this
      · have := h x.t
        rw [of_cons, of_cons, if_pos rfl, if_pos hl.symm] at this
        exact Option.some.inj this
      · have := h y.t
        rw [of_cons, of_cons, if_pos (c := y.t = y.t) rfl, if_neg (by omega), of_none (rise_mono (by omega) ha.2)] at this
        cases this
    subst e
    congr 1
    refine rise_ext ha.2 hb.2 fun t => ?_
    by_cases ht : x.t = t
    · subst ht
      rw [of_none ha.2, of_none hb.2]
    · have := h t
      rwa [of_cons, of_cons, if_neg ht, if_neg ht] at this
theorem of_ins : ∀ (l : List ShZ) (x : ShZ) (t : Int), ofR (insR l x) t = if x.t = t then some x else ofR l t
  | [], x, t => by simp [insR, of_cons]
  | y :: l, x, t => by
    unfold insR
    split
    · rw [of_cons]
    · split
      · next h1 h2 =>
        rw [of_cons, of_cons]
        by_cases h : x.t = t
        · rw [if_pos h, if_pos h]
        · rw [if_neg h, if_neg h, if_neg (by omega)]
      · next h1 h2 =>
        rw [of_cons, of_cons, of_ins l x t]
        by_cases h : x.t = t
        · rw [if_pos h, if_pos h, if_neg (by omega)]
        · rw [if_neg h, if_neg h]
theorem ins_rise : ∀ {l : List ShZ} {x : ShZ} {p : Int}, riseQ p l = true → shB x = true → p < x.t → riseQ p (insR l x) = true
  | [], x, p, _, hx, hp => by simp [insR, riseQ, hx, hp]
  | y :: l, x, p, h, hx, hp => by
    have h0 := h
    simp only [riseQ, Bool.and_eq_true, decide_eq_true_eq] at h
    unfold insR
    split
    · next h1 => simp [riseQ, hx, hp, h.1.1, h1, h.2]
    · split
      · next h1 h2 => simp only [riseQ, Bool.and_eq_true, decide_eq_true_eq]; exact ⟨⟨hx, hp⟩, by rw [h2]; exact h.2⟩
      · next h1 h2 => simp only [riseQ, Bool.and_eq_true, decide_eq_true_eq]; exact ⟨h.1, ins_rise h.2 hx (by omega)⟩
theorem idx_le (l : List ShZ) (t : Int) : idxR l t ≤ l.length := List.findIdx_le_length
theorem pos_le (l : List ShZ) (t : Int) : posR l t ≤ l.length := List.findIdx_le_length
theorem idx_cons (y : ShZ) (l : List ShZ) (t : Int) : idxR (y :: l) t = if y.t = t then 0 else idxR l t + 1 := by
  unfold idxR
  rw [List.findIdx_cons]
  by_cases h : y.t = t <;> simp [h]
theorem pos_cons (y : ShZ) (l : List ShZ) (t : Int) : posR (y :: l) t = if t < y.t then 0 else posR l t + 1 := by
  unfold posR
  rw [List.findIdx_cons]
  by_cases h : t < y.t <;> simp [h]
/-- The tenant's place, and what stands there. -/
theorem of_idx : ∀ (l : List ShZ) (t : Int), l[idxR l t]? = ofR l t
  | [], t => rfl
  | y :: l, t => by
    rw [idx_cons, of_cons]
    split
    · rfl
    · rw [List.getElem?_cons_succ, of_idx l t]
theorem idx_lt {l : List ShZ} {t : Int} : (ofR l t).isSome = decide (idxR l t < l.length) := by
  rw [← of_idx]
  by_cases h : idxR l t < l.length
  · rw [List.getElem?_eq_getElem h]; simp [h]
  · rw [List.getElem?_eq_none (by omega)]; simp [h]
/-- Another share in the place of the tenant's. -/
theorem set_ins : ∀ {l : List ShZ} {x : ShZ} {p : Int}, riseQ p l = true → (ofR l x.t).isSome = true → l.set (idxR l x.t) x = insR l x
  | [], x, p, _, h => by simp [ofR] at h
  | y :: l, x, p, hr, h => by
    simp only [riseQ, Bool.and_eq_true, decide_eq_true_eq] at hr
    rw [of_cons] at h
    rw [idx_cons]
    unfold insR
    by_cases e : y.t = x.t
    · rw [if_pos e, if_neg (by omega), if_pos e.symm]; rfl
    · rw [if_neg e] at h ⊢
      have : ¬ x.t < y.t := fun hlt => by
        rw [of_none (rise_mono (by omega) hr.2)] at h
        cases h
      rw [if_neg this, if_neg (fun e2 => e e2.symm), List.set_cons_succ, set_ins hr.2 h]
/-- One share more, ahead of the first greater tenant's. -/
theorem cut_ins : ∀ {l : List ShZ} {x : ShZ} {p : Int}, riseQ p l = true → (ofR l x.t).isSome = false → l.take (posR l x.t) ++ x :: l.drop (posR l x.t) = insR l x
  | [], x, p, _, h => by simp [posR, insR]
  | y :: l, x, p, hr, h => by
    simp only [riseQ, Bool.and_eq_true, decide_eq_true_eq] at hr
    rw [of_cons] at h
    rw [pos_cons]
    unfold insR
    by_cases e : x.t < y.t
    · rw [if_pos e, if_pos e]; rfl
    · rw [if_neg e, if_neg e]
      by_cases e2 : y.t = x.t
      · rw [if_pos e2] at h; cases h
      · rw [if_neg e2] at h
        rw [if_neg (fun e3 => e2 e3.symm), List.take_succ_cons, List.drop_succ_cons, List.cons_append, cut_ins hr.2 h]
theorem ins_len : ∀ {l : List ShZ} {x : ShZ} {p : Int}, riseQ p l = true → (insR l x).length = l.length + (if (ofR l x.t).isSome then 0 else 1)
  | [], x, p, _ => by simp [insR, ofR]
  | y :: l, x, p, hr => by
    simp only [riseQ, Bool.and_eq_true, decide_eq_true_eq] at hr
    rw [of_cons]
    unfold insR
    by_cases e : x.t < y.t
    · have e0 : (if y.t = x.t then some y else ofR l x.t) = none := by rw [if_neg (by omega), of_none (rise_mono (by omega) hr.2)]
      rw [if_pos e, e0]; simp
    · rw [if_neg e]
      by_cases e2 : x.t = y.t
      · have e0 : (if y.t = x.t then some y else ofR l x.t) = some y := if_pos e2.symm
        rw [if_pos e2, e0]; simp
      · have e0 : (if y.t = x.t then some y else ofR l x.t) = ofR l x.t := if_neg (fun e3 => e2 e3.symm)
        rw [if_neg e2, e0, List.length_cons, List.length_cons, ins_len hr.2]; omega
/-- The sums of the list with one share more, or another one. -/
theorem ins_sums : ∀ {l : List ShZ} {x : ShZ} {p : Int}, riseQ p l = true → sumK (insR l x) = sumK l + x.k - ((ofR l x.t).getD sh0).k ∧ sumS (insR l x) = sumS l + x.s - ((ofR l x.t).getD sh0).s
  | [], x, p, _ => by simp [insR, ofR, sumK, sumS, sh0]
  | y :: l, x, p, hr => by
    simp only [riseQ, Bool.and_eq_true, decide_eq_true_eq] at hr
    rw [of_cons]
    unfold insR
    by_cases e : x.t < y.t
    · rw [if_pos e, if_neg (by omega), of_none (rise_mono (by omega) hr.2)]; simp [sumK, sumS, sh0]; omega
    · rw [if_neg e]
      by_cases e2 : x.t = y.t
      · rw [if_pos e2, if_pos e2.symm]; simp [sumK, sumS]; omega
      · have := ins_sums (x := x) hr.2
        rw [if_neg e2, if_neg (fun e3 => e2 e3.symm)]; simp only [sumK, sumS]; omega
/-- The document's way: tenant by tenant, the first n. -/
def docR (l : List ShZ) (x : ShZ) : Nat → List ShZ
  | 0 => []
  | n + 1 => docR l x n ++ (if x.t = (n : Int) + 1 then [x] else (ofR l ((n : Int) + 1)).toList)
theorem rise_snoc : ∀ {l : List ShZ} {p q : Int} {x : ShZ}, riseQ p l = true → (∀ y, y ∈ l → y.t < x.t) → p < x.t → shB x = true → riseQ p (l ++ [x]) = true
  | [], p, q, x, _, _, hp, hx => by simp [riseQ, hp, hx]
  | y :: l, p, q, x, h, h2, hp, hx => by
    simp only [riseQ, List.cons_append, Bool.and_eq_true, decide_eq_true_eq] at h ⊢
    exact ⟨h.1, rise_snoc (q := q) h.2 (fun z hz => h2 z (List.mem_cons_of_mem _ hz)) (h2 y (List.mem_cons_self ..)) hx⟩
theorem of_app (a b : List ShZ) (t : Int) : ofR (a ++ b) t = (ofR a t).or (ofR b t) := by
  unfold ofR
  rw [List.find?_append]
theorem doc_facts {l : List ShZ} {x : ShZ} (hr : riseQ 0 l = true) (hx : shB x = true) : ∀ n : Nat, n ≤ 8 →
    riseQ 0 (docR l x n) = true ∧ (∀ y, y ∈ docR l x n → y.t ≤ n) ∧ ∀ t, ofR (docR l x n) t = if 1 ≤ t ∧ t ≤ n then ofR (insR l x) t else none
  | 0, _ => ⟨rfl, fun y h => by simp [docR] at h, fun t => by rw [if_neg (by omega)]; rfl⟩
  | n + 1, hn => by
    obtain ⟨h1, h2, h3⟩ := doc_facts hr hx n (by omega)
    have key : (docR l x (n + 1) = docR l x n ∧ ofR (insR l x) ((n : Int) + 1) = none) ∨ ∃ z, docR l x (n + 1) = docR l x n ++ [z] ∧ z.t = (n : Int) + 1 ∧ shB z = true ∧ ofR (insR l x) ((n : Int) + 1) = some z := by
      rw [docR, of_ins]
      by_cases e : x.t = (n : Int) + 1
      · right
        exact ⟨x, by rw [if_pos e], e, hx, by rw [if_pos e]⟩
      · rw [if_neg e, if_neg e]
        cases ho : ofR l ((n : Int) + 1) with
        | none => left; simp
        | some z =>
          right
          have := of_t ho
          exact ⟨z, by simp, this.1, shB_of (rise_in hr z this.2).1, rfl⟩
    rcases key with ⟨k1, k2⟩ | ⟨z, k1, k2, k3, k4⟩
    · rw [k1]
      refine ⟨h1, fun y hy => by have := h2 y hy; omega, fun t => ?_⟩
      rw [h3]
      by_cases e : t = (n : Int) + 1
      · subst e
        rw [if_neg (by omega), k2]
        split <;> rfl
      · by_cases e2 : 1 ≤ t ∧ t ≤ (n : Int)
        · rw [if_pos e2, if_pos (by omega)]
        · rw [if_neg e2, if_neg (by omega)]
    · rw [k1]
      refine ⟨rise_snoc (q := 0) h1 (fun y hy => by have := h2 y hy; omega) (by omega) k3, fun y hy => ?_, fun t => ?_⟩
      · rcases List.mem_append.1 hy with hy | hy
        · have := h2 y hy; omega
        · obtain rfl := List.mem_singleton.1 hy; omega
      · rw [of_app, h3]
        by_cases e : t = (n : Int) + 1
        · subst e
          rw [if_neg (by omega), if_pos (by omega), of_cons, if_pos k2, k4]; rfl
        · have e3 : ofR [z] t = none := by rw [of_cons, if_neg (by omega)]; rfl
          rw [e3]
          by_cases e2 : 1 ≤ t ∧ t ≤ (n : Int)
          · rw [if_pos e2, if_pos (by omega)]; simp
          · rw [if_neg e2, if_neg (by omega)]; rfl
theorem doc_ins {l : List ShZ} {x : ShZ} (hr : riseQ 0 l = true) (hx : shB x = true) : docR l x 8 = insR l x := by
  obtain ⟨h1, h2, h3⟩ := doc_facts hr hx 8 (by omega)
  have hi : riseQ 0 (insR l x) = true := ins_rise hr hx (by have := (shB_in hx).t1; omega)
  refine rise_ext h1 hi fun t => ?_
  rw [h3]
  by_cases e : 1 ≤ t ∧ t ≤ ((8 : Nat) : Int)
  · rw [if_pos e]
  · rw [if_neg e]
    cases ho : ofR (insR l x) t with
    | none => rfl
    | some z =>
      have := of_t ho
      have h := (rise_in hi z this.2).1
      have h1 := h.t1; have h8 := h.t8
      omega
end Qt
end Go.Proofs.Ytpodpbhbagkblaa
