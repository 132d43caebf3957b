/- The number at a place of bytes; what is read of the bytes of numbers. -/
import Derived.Test.YtmeafjehcckibaaDoorTkPr
import Derived.Test.YtmeafjehcckibaaDoorNum
namespace Go.Proofs.YtmeafjehcckibaaDoor
open Go.ChangeShapes Go.WideShapes Go.ChangeAt Go.RowKit
set_option linter.unusedVariables false
open Plain
/-- The number at a place, as the program's number tells it. -/
def numA (zs : List Int) (at_ : Int) : Int := wrap64 (loadZ zs at_ 8)
theorem numA_in (zs : List Int) (at_ : Int) : InR (numA zs at_) := by
  unfold numA InR wrap64
  omega
set_option maxRecDepth 100000 in
theorem number_any {w : World} {B n : Nat} {A : Option Addr} (c : Nat) {zs : List Int} (h : Bs w B A n zs) (hn : n ≤ maxLen) (at_ : Int) (hat : InR at_) :
    Calls Tryd.prog 30 #[.slice A n c, .int .i64 at_] w (Quiet (.int .i64 (numA zs at_)) w) := by
  have HC := Lib.hid (load64_any c h hn at_ hat)
  clear h
  go_enter Tryd.func30, Tryd.ntmps30
  go_wp2_with (go_at_call 40; refine HC.out.mono ?_; rintro e w' ⟨rfl, m, rfl⟩)
  go_ret
  exact ⟨rfl, _, rfl⟩
theorem numB_back {x : Int} (h : InR x) : wrap64 (numZ (numB x)) = x := by
  unfold numB
  rw [numZ_putZ 8 _ (by omega) (by have : (256 : Int) ^ 8 = 18446744073709551616 := by decide
                                   omega)]
  unfold InR at h
  unfold wrap64
  omega
theorem numsB_drop : ∀ (xs : List Int) (j : Nat) (x : Int) (T : List Int), xs[j]? = some x → ((numsB xs ++ T).drop (8 * j)).take 8 = numB x
  | [], j, x, T, h => by simp at h
  | y :: r, 0, x, T, h => by
    obtain rfl : y = x := by simpa using h
    simp only [numsB, Nat.mul_zero, List.drop_zero, List.append_assoc]
    rw [List.take_append_of_le_length (by rw [numB_len]; omega), List.take_of_length_le (by rw [numB_len]; omega)]
  | y :: r, j + 1, x, T, h => by
    have := numsB_drop r j x T (by simpa using h)
    rw [← this]
    have e : 8 * (j + 1) = (numB y).length + 8 * j := by rw [numB_len]; omega
    simp only [numsB, List.append_assoc, e]
    rw [← List.drop_drop, List.drop_left]
theorem numA_nums {xs : List Int} {j : Nat} {x : Int} (T : List Int) (h : xs[j]? = some x) (hx : InR x) (at_ : Int) (ha : at_ = ((8 * j : Nat) : Int)) : numA (numsB xs ++ T) at_ = x := by
  subst ha
  have hj := (List.getElem?_eq_some_iff.1 h).1
  unfold numA
  rw [loadZ_yes _ (8 * j) 8 (by rw [List.length_append, numsB_len]; omega), numsB_drop xs j x T h, numB_back hx]
end Go.Proofs.YtmeafjehcckibaaDoor
