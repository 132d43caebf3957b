/- The document's own Put, step by step: plain. -/
import Derived.Test.YtmlkcedhjnmfgaaSpZ
namespace Go.Proofs.Ytmlkcedhjnmfgaa.Sp
open Go.ChangeShapes Go.WideShapes Go.ChangeAt Go.RowKit
set_option linter.unusedVariables false
set_option linter.unusedSimpArgs false
/-- What is made behind j of the other pairs: R is all others, P of them are less than the key. -/
def insT (R : List PairZ) (P : Nat) (k v : ByteArray) (j : Nat) : List PairZ := if j ≤ P then R.take j else R.take P ++ ⟨k, v⟩ :: (R.drop P).take (j - P)
theorem insT_zero (R : List PairZ) (P : Nat) (k v : ByteArray) : insT R P k v 0 = [] := by simp [insT]
theorem take_oneP (l : List PairZ) (j : Nat) (p : PairZ) (h : l[j]? = some p) : l.take (j + 1) = l.take j ++ [p] := by
  rw [List.take_add_one, h]; rfl
theorem insT_lo {R : List PairZ} {P j : Nat} {p : PairZ} (k v : ByteArray) (h : j < P) (hp : R[j]? = some p) : insT R P k v (j + 1) = insT R P k v j ++ [p] := by
  unfold insT
  rw [if_pos (by omega), if_pos (by omega), take_oneP R j p hp]
theorem insT_at {R : List PairZ} {P : Nat} {p : PairZ} (k v : ByteArray) (hp : R[P]? = some p) : insT R P k v (P + 1) = (insT R P k v P ++ [⟨k, v⟩]) ++ [p] := by
  unfold insT
  have e : P + 1 - P = 0 + 1 := by omega
  have hd : (R.drop P)[0]? = some p := by rw [List.getElem?_drop, Nat.add_zero, hp]
  rw [if_neg (by omega), if_pos (Nat.le_refl _), e, take_oneP _ 0 p hd]
  simp
theorem insT_hi {R : List PairZ} {P j : Nat} {p : PairZ} (k v : ByteArray) (h : P < j) (hp : R[j]? = some p) : insT R P k v (j + 1) = insT R P k v j ++ [p] := by
  unfold insT
  have e : j + 1 - P = (j - P) + 1 := by omega
  have hd : (R.drop P)[j - P]? = some p := by rw [List.getElem?_drop, show P + (j - P) = j by omega, hp]
  rw [if_neg (by omega), if_neg (by omega), e, take_oneP _ _ p hd]
  simp
theorem del_low_top {l : List PairZ} {a : ByteArray} (k : ByteArray) (h : riseP a l = true) : delP l k = lowP l k ++ topP l k := by
  rw [(top_drop k h).2, (top_drop k h).1, (low_take k h).1]
theorem insT_end {l : List PairZ} {a : ByteArray} (k v : ByteArray) (h : riseP a l = true) :
    (posP l k < (delP l k).length → insT (delP l k) (posP l k) k v (delP l k).length = insP l k v) ∧
    (¬ posP l k < (delP l k).length → posP l k = (delP l k).length ∧ insT (delP l k) (posP l k) k v (delP l k).length ++ [⟨k, v⟩] = insP l k v) := by
  have e := del_low_top k h
  have hl : (delP l k).length = posP l k + (topP l k).length := by rw [e, List.length_append]; rfl
  have ht : (delP l k).take (posP l k) = lowP l k := by rw [e]; exact List.take_left' rfl
  have hd : (delP l k).drop (posP l k) = topP l k := by rw [e]; exact List.drop_left' rfl
  refine ⟨fun h1 => ?_, fun h1 => ?_⟩
  · unfold insT insP
    rw [if_neg (by omega), ht, hd, List.take_of_length_le (by omega)]
  · have h2 : (topP l k).length = 0 := by omega
    have h3 : topP l k = [] := List.eq_nil_of_length_eq_zero h2
    refine ⟨by omega, ?_⟩
    unfold insT insP
    rw [if_pos (by omega), h3, List.take_of_length_le (Nat.le_refl _), e, h3, List.append_nil]
theorem ins_cmp {l : List PairZ} {a : ByteArray} {k : ByteArray} (h : riseP a l = true) {j : Nat} {p : PairZ} (hp : (delP l k)[j]? = some p) : ltB k p.k = decide (posP l k ≤ j) := by
  have e := del_low_top k h
  rw [e] at hp
  by_cases hj : posP l k ≤ j
  · rw [decide_eq_true hj]
    rw [List.getElem?_append_right hj] at hp
    exact (List.mem_filter.1 (List.mem_of_getElem? hp)).2
  · rw [decide_eq_false hj]
    rw [List.getElem?_append_left (by show j < posP l k; omega)] at hp
    exact lt_asymm (List.mem_filter.1 (List.mem_of_getElem? hp)).2
theorem ins_len {l : List PairZ} {a : ByteArray} {k v : ByteArray} (h : riseP a l = true) : (insP l k v).length = (delP l k).length + 1 := by
  rw [del_low_top k h]; unfold insP; simp; omega
theorem del_len (l : List PairZ) (k : ByteArray) : (delP l k).length ≤ l.length := List.length_filter_le _ _
end Go.Proofs.Ytmlkcedhjnmfgaa.Sp
