/- Rights, their texts, grants and lines, as plain numbers. -/
import Derived.Test.YtpnjojkjepblaaaDoorStr
import Derived.Laws.BytesArg
namespace Go.Proofs.YtpnjojkjepblaaaDoor
open Go.ChangeShapes Go.WideShapes Go.ChangeAt Go.RowKit
set_option linter.unusedVariables false
/-- All rights of n are among r. -/
def hasB (r n : Int) : Bool := decide (bits .and .u8 r n = n)
def letterZ (k : Nat) : Int := ([114, 119, 108, 97] : List Int).getD k 0
/-- The letters of the first k rights. -/
def ltr (r : Int) : Nat → List Int
  | 0 => []
  | k + 1 => ltr r k ++ if hasB r (2 ^ k) then [letterZ k] else []
def textZ (r : Int) : List Int := if 15 < r then [63] else if r = 0 then [45] else ltr r 4
def textB (r : Int) : ByteArray := strOfNums (textZ r)
theorem ltr_len (r : Int) (k : Nat) : (ltr r k).length ≤ k := by
  induction k with
  | zero => simp [ltr]
  | succ k ih =>
    simp only [ltr, List.length_append]
    split <;> simp <;> omega
theorem textB_inj (a b : Nat) (ha : a < 16) (hb : b < 16) (h : textB a = textB b) : a = b := by
  have := (by decide +kernel : ∀ a b : Fin 16, textB (a.val : Int) = textB (b.val : Int) → a = b) ⟨a, ha⟩ ⟨b, hb⟩ h
  exact congrArg Fin.val this
/-- Of the first n rights those whose text is s (the last one), and whether there are any. -/
def pR (s : ByteArray) : Nat → Int
  | 0 => 0
  | n + 1 => if textB n = s then n else pR s n
def pOk (s : ByteArray) : Nat → Bool
  | 0 => false
  | n + 1 => if textB n = s then true else pOk s n
theorem p_stay (s : ByteArray) (k : Nat) (h : textB k = s) (m : Nat) (hk : k < m) (hm : m ≤ 16) : pR s m = k ∧ pOk s m = true := by
  induction m with
  | zero => omega
  | succ m ih =>
    by_cases e : textB m = s
    · have : m = k := textB_inj m k (by omega) (by omega) (e.trans h.symm)
      subst this
      simp [pR, pOk, e]
    · have hne : k ≠ m := fun e' => e (e' ▸ h)
      have := ih (by omega) (by omega)
      simp [pR, pOk, e, this]
theorem p_none (s : ByteArray) (k : Nat) (h : pOk s k = false) : pR s k = 0 := by
  induction k with
  | zero => rfl
  | succ k ih =>
    by_cases e : textB k = s
    · simp [pOk, e] at h
    · simp [pOk, e] at h
      simp [pR, e, ih h]
theorem p_bound (s : ByteArray) (k : Nat) (hk : k ≤ 16) : 0 ≤ pR s k ∧ pR s k < 16 := by
  induction k with
  | zero => simp [pR]
  | succ k ih =>
    have := ih (by omega)
    simp only [pR]
    split <;> omega
theorem has_r (r : Int) (k : Nat) (h0 : 0 ≤ r) (h1 : r < 16) (hk : k < 4) : hasB r (2 ^ k) = decide (r / 2 ^ k % 2 = 1) := by
  have := (by decide +kernel : ∀ r : Fin 16, ∀ k : Fin 4, hasB (r.val : Int) (2 ^ k.val) = decide ((r.val : Int) / 2 ^ k.val % 2 = 1)) ⟨r.toNat, by omega⟩ ⟨k, hk⟩
  simp only [Int.toNat_of_nonneg h0] at this
  exact this
end Go.Proofs.YtpnjojkjepblaaaDoor
