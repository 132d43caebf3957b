/- Links of a chain, plain: what is summed, the next link, which links are right. -/
import Derived.Test.YtkaojhcmdichfaaDoorB4
import Derived.Test.YtkaojhcmdichfaaDoorB3
namespace Go.Proofs.YtkaojhcmdichfaaDoor
open Go.ChangeShapes Go.WideShapes Go.ChangeAt Go.RowKit
set_option linter.unusedVariables false
open Plain Sha
namespace Au
/-- A link: its numbers, the tag ahead, its own. -/
structure LinkZ where
  n : Int
  st : Int
  op : Int
  tn : Int
  a : Int
  b : Int
  c : Int
  H : List Int
  S : List Int
  hH : H.length = 32
  hS : S.length = 32
def zT : List Int := List.replicate 32 0
theorem zT_len : zT.length = 32 := rfl
def l0 : LinkZ := ⟨0, 0, 0, 0, 0, 0, 0, zT, zT, rfl, rfl⟩
def nums (g : LinkZ) : List Int := [g.n, g.st, g.op, g.tn, g.a, g.b, g.c]
theorem nums_len (g : LinkZ) : (nums g).length = 7 := rfl
/-- The bytes of which a link's own tag is. -/
def bytesZ (g : LinkZ) : List Int := numsB (nums g) ++ g.H
theorem bytesZ_len (g : LinkZ) : (bytesZ g).length = 88 := by unfold bytesZ; rw [List.length_append, numsB_len, nums_len, g.hH]
def hashZ (g : LinkZ) : List Int := shaZ (bytesZ g)
theorem hashZ_len (g : LinkZ) : (hashZ g).length = 32 := shaZ_len _
/-- The last one's own tag. -/
def headZ (l : List LinkZ) : List Int := (l.getLast?.map LinkZ.S).getD zT
theorem headZ_nil : headZ [] = zT := rfl
theorem headZ_snoc (l : List LinkZ) (g : LinkZ) : headZ (l ++ [g]) = g.S := by simp [headZ]
theorem headZ_len (l : List LinkZ) : (headZ l).length = 32 := by
  unfold headZ
  cases l.getLast? with
  | none => rfl
  | some g => exact g.hS
theorem take_snocA (l : List LinkZ) (k : Nat) (g : LinkZ) (h : l[k]? = some g) : l.take (k + 1) = l.take k ++ [g] := by
  rw [List.take_add_one, h]; rfl
theorem drop_atA {l : List LinkZ} {k : Nat} {p : LinkZ} (h : l[k]? = some p) : l.drop k = p :: l.drop (k + 1) := by
  obtain ⟨hk, rfl⟩ := List.getElem?_eq_some_iff.1 h
  exact List.drop_eq_getElem_cons hk
theorem headZ_take (l : List LinkZ) (k : Nat) (g : LinkZ) (h : l[k]? = some g) : headZ (l.take (k + 1)) = g.S := by
  rw [take_snocA l k g h, headZ_snoc]
theorem headZ_last (l : List LinkZ) (g : LinkZ) (h : l[l.length - 1]? = some g) : headZ l = g.S := by
  have hl : l.length - 1 < l.length := (List.getElem?_eq_some_iff.1 h).1
  have e := headZ_take l (l.length - 1) g h
  rwa [show l.length - 1 + 1 = l.length by omega, List.take_length] at e
/-- Is it the link that must stand behind those? -/
def follows (l : List LinkZ) (x : LinkZ) : Bool := (x.n == (l.length : Int) + 1) && (eqB x.H (headZ l) && eqB x.S (hashZ x))
def checkFrom (ahead : List LinkZ) : List LinkZ → Int
  | [] => 0
  | g :: r => if follows ahead g then checkFrom (ahead ++ [g]) r else (ahead.length : Int) + 1
def checkZ (l : List LinkZ) : Int := checkFrom [] l
theorem check_step (l : List LinkZ) (k : Nat) (g : LinkZ) (h : l[k]? = some g) : checkFrom (l.take k) (l.drop k) = if follows (l.take k) g then checkFrom (l.take (k + 1)) (l.drop (k + 1)) else (k : Int) + 1 := by
  have hk : k < l.length := (List.getElem?_eq_some_iff.1 h).1
  have e : (l.take k).length = k := by rw [List.length_take]; omega
  rw [drop_atA h, take_snocA l k g h]
  simp only [checkFrom, e]
theorem check_end (l : List LinkZ) : checkFrom (l.take l.length) (l.drop l.length) = 0 := by
  rw [List.drop_length]; rfl
theorem checkFrom_snoc (g : LinkZ) : ∀ (l a : List LinkZ), checkFrom a l = 0 → checkFrom a (l ++ [g]) = if follows (a ++ l) g then 0 else ((a ++ l).length : Int) + 1
  | [], a, h => by simp [checkFrom]
  | x :: l, a, h => by
    simp only [List.cons_append, checkFrom] at h ⊢
    by_cases hf : follows a x = true
    · rw [if_pos hf] at h ⊢
      rw [checkFrom_snoc g l (a ++ [x]) h]
      simp only [List.append_assoc, List.singleton_append]
    · rw [if_neg hf] at h
      omega
theorem checkZ_range (l : List LinkZ) : 0 ≤ checkZ l ∧ checkZ l ≤ l.length := by
  have : ∀ (l a : List LinkZ), 0 ≤ checkFrom a l ∧ checkFrom a l ≤ (a.length : Int) + l.length := by
    intro l
    induction l with
    | nil => intro a; simp only [checkFrom]; exact ⟨Int.le_refl _, by omega⟩
    | cons x l ih =>
      intro a
      simp only [checkFrom]
      split
      · have := ih (a ++ [x])
        simp only [List.length_append, List.length_cons, List.length_nil] at this ⊢
        omega
      · simp only [List.length_cons]; omega
  have := this l []
  simp only [List.length_nil] at this
  unfold checkZ
  omega
/-- The link that Add lays behind them. -/
def bareL (l : List LinkZ) (st op tn a b c : Int) : LinkZ := ⟨(l.length : Int) + 1, st, op, tn, a, b, c, headZ l, zT, headZ_len l, rfl⟩
def nextL (l : List LinkZ) (st op tn a b c : Int) : LinkZ := { bareL l st op tn a b c with S := hashZ (bareL l st op tn a b c), hS := hashZ_len _ }
def addZ (l : List LinkZ) (st op tn a b c : Int) : List LinkZ := l ++ [nextL l st op tn a b c]
theorem addZ_len (l : List LinkZ) (st op tn a b c : Int) : (addZ l st op tn a b c).length = l.length + 1 := by simp [addZ]
theorem next_hash (l : List LinkZ) (st op tn a b c : Int) : hashZ (nextL l st op tn a b c) = (nextL l st op tn a b c).S := rfl
theorem next_follows (l : List LinkZ) (st op tn a b c : Int) : follows l (nextL l st op tn a b c) = true := by
  unfold follows
  rw [next_hash]
  simp [nextL, bareL, eqB]
theorem add_check (l : List LinkZ) (h : checkZ l = 0) (st op tn a b c : Int) : checkZ (addZ l st op tn a b c) = 0 := by
  unfold checkZ addZ at *
  rw [checkFrom_snoc _ l [] h, List.nil_append, next_follows]; rfl
/-- An act. -/
structure AZ where
  st : Int
  op : Int
  tn : Int
  a : Int
  b : Int
  c : Int
def stepZ (l : List LinkZ) (x : AZ) : List LinkZ := addZ l x.st x.op x.tn x.a x.b x.c
def chainZ (l : List AZ) : List LinkZ := l.foldl stepZ []
theorem chain_snoc (l : List AZ) (x : AZ) : chainZ (l ++ [x]) = stepZ (chainZ l) x := by simp [chainZ]
theorem chain_take (l : List AZ) (k : Nat) (x : AZ) (h : l[k]? = some x) : chainZ (l.take (k + 1)) = stepZ (chainZ (l.take k)) x := by
  rw [List.take_add_one, h]; exact chain_snoc _ _
theorem fold_len : ∀ (l : List AZ) (a : List LinkZ), (l.foldl stepZ a).length = a.length + l.length
  | [], a => rfl
  | x :: l, a => by simp only [List.foldl_cons, fold_len l, stepZ, addZ_len, List.length_cons]; omega
theorem chain_len (l : List AZ) : (chainZ l).length = l.length := by unfold chainZ; rw [fold_len]; simp
theorem fold_front : ∀ (l : List AZ) (a : List LinkZ), ∃ t, l.foldl stepZ a = a ++ t
  | [], a => ⟨[], by simp⟩
  | x :: l, a => by
    obtain ⟨t, ht⟩ := fold_front l (stepZ a x)
    exact ⟨[nextL a x.st x.op x.tn x.a x.b x.c] ++ t, by rw [List.foldl_cons, ht]; simp [stepZ, addZ]⟩
/-- Each beginning of a chain is the chain of a beginning of the acts. -/
theorem chain_front (l : List AZ) (k : Nat) (hk : k ≤ l.length) : (chainZ l).take k = chainZ (l.take k) := by
  obtain ⟨t, ht⟩ := fold_front (l.drop k) (chainZ (l.take k))
  have e : chainZ l = chainZ (l.take k) ++ t := by
    rw [← ht]
    unfold chainZ
    rw [← List.foldl_append, List.take_append_drop]
  have hl : (chainZ (l.take k)).length = k := by rw [chain_len, List.length_take]; omega
  rw [e, List.take_append_of_le_length (by omega), List.take_of_length_le (by omega)]
theorem chain_at (l : List AZ) (k : Nat) (x : AZ) (h : l[k]? = some x) : (chainZ l)[k]? = some (nextL (chainZ (l.take k)) x.st x.op x.tn x.a x.b x.c) := by
  have hk : k < l.length := (List.getElem?_eq_some_iff.1 h).1
  have hl : (chainZ (l.take k)).length = k := by rw [chain_len, List.length_take]; omega
  have e := chain_front l (k + 1) (by omega)
  rw [chain_take l k x h] at e
  have : ((chainZ l).take (k + 1))[k]? = some (nextL (chainZ (l.take k)) x.st x.op x.tn x.a x.b x.c) := by
    rw [e]
    unfold stepZ addZ
    rw [List.getElem?_append_right (by omega), hl, Nat.sub_self]; rfl
  rwa [List.getElem?_take_of_lt (by omega)] at this
theorem chain_check (l : List AZ) : checkZ (chainZ l) = 0 := by
  have : ∀ (l : List AZ) (a : List LinkZ), checkZ a = 0 → checkZ (l.foldl stepZ a) = 0 := by
    intro l
    induction l with
    | nil => intro a h; exact h
    | cons x l ih => intro a h; exact ih _ (add_check a h ..)
  exact this l [] rfl
end Au
end Go.Proofs.YtkaojhcmdichfaaDoor
