/- All keys, list by list: plain. -/
import Derived.Test.YtmlkcedhjnmfgaaSpOne0
namespace Go.Proofs.Ytmlkcedhjnmfgaa
open Go.ChangeShapes Go.WideShapes Go.ChangeAt Go.RowKit
set_option linter.unusedVariables false
set_option linter.unusedSimpArgs false
open Plain Sp
theorem rise_lt {a : ByteArray} {l : List PairZ} (h : riseP a l = true) {i j : Nat} {p q : PairZ} (hp : l[i]? = some p) (hq : l[j]? = some q) (hij : i < j) : ltB p.k q.k = true := by
  have h1 := rise_drop i h
  rw [drop_atP hp] at h1
  have h2 := (rise_cons.1 h1).2.2.2
  refine (rise_all h2 q ?_).1
  have : (l.drop (i + 1))[j - (i + 1)]? = some q := by rw [List.getElem?_drop, show i + 1 + (j - (i + 1)) = j by omega, hq]
  exact List.mem_of_getElem? this
theorem pos_at {a : ByteArray} {l : List PairZ} (h : riseP a l = true) {j : Nat} {p : PairZ} (hp : l[j]? = some p) : posP l p.k = j ∧ behP l p.k = j + 1 := by
  have hj := (List.getElem?_eq_some_iff.1 hp).1
  have h1 := low_at p.k h hp
  rw [lt_irrefl] at h1
  have h2 : ¬ j < posP l p.k := by simpa using h1.symm
  have e : posP l p.k = j := by
    rcases Nat.lt_or_ge (posP l p.k) j with h3 | h3
    · exfalso
      have hq : l[posP l p.k]? = some l[posP l p.k] := List.getElem?_eq_getElem (by omega)
      have h4 := low_at p.k h hq
      rw [rise_lt h hq hp h3] at h4
      simp at h4
    · omega
  refine ⟨e, ?_⟩
  unfold behP
  rw [e, hp]
  simp
theorem get_at {s : SpZ} (h : mayB s = true) {j : Nat} {p : PairZ} (hp : s.l[j]? = some p) : getR s p.k = (p.v, 0) := by
  obtain ⟨_, hr, _⟩ := may_parts h
  obtain ⟨e1, e2⟩ := pos_at hr hp
  obtain ⟨p', g1, g2, g3⟩ := (get_cut p.k hr).2 (by omega)
  rw [e1, hp] at g1
  obtain rfl : p = p' := Option.some.inj g1
  have hk := (rise_all hr p (List.mem_of_getElem? hp)).2.1
  unfold getR
  rw [h, hk]
  simp [g3]
/-- Behind a key with a byte 0 there are just those that come behind it. -/
theorem pos_snoc {a : ByteArray} {l : List PairZ} (h : riseP a l = true) {j : Nat} {p : PairZ} (hp : l[j]? = some p) : posP l (p.k ++ ⟨#[0]⟩) = j + 1 := by
  have hj := (List.getElem?_eq_some_iff.1 hp).1
  have h1 := (top_drop p.k h).1
  rw [(pos_at h hp).2] at h1
  have h2 := congrArg List.length h1
  rw [List.length_drop] at h2
  have h3 : lowP l (p.k ++ ⟨#[0]⟩) = l.filter fun q => !ltB p.k q.k := by
    unfold lowP
    apply List.filter_congr
    intro q _
    exact lt_snoc _ _
  unfold posP
  rw [h3]
  unfold topP at h2
  have h4 := List.length_eq_countP_add_countP (l := l) (fun q => ltB p.k q.k)
  rw [List.countP_eq_length_filter, List.countP_eq_length_filter] at h4
  have h5 : (l.filter fun q => decide ¬ ltB p.k q.k = true) = l.filter fun q => !ltB p.k q.k := by
    apply List.filter_congr
    intro q _
    cases ltB p.k q.k <;> rfl
  rw [h5] at h4
  omega
theorem pos_empty (l : List PairZ) : posP l ⟨#[]⟩ = 0 := by
  unfold posP lowP
  rw [List.filter_eq_nil_iff.2]
  · rfl
  · intro p _; rw [lt_empty]; decide
/-- A list that begins where j keys end. -/
theorem list_at {s : SpZ} (h : mayB s = true) {f : ByteArray} {j : Nat} (hf : posP s.l f = j) (N : Nat) : listR s f N = ((s.l.drop j).take N).map (·.k) := by
  obtain ⟨_, hr, _⟩ := may_parts h
  unfold listR
  rw [h, (low_take f hr).2, hf]
  simp
end Go.Proofs.Ytmlkcedhjnmfgaa
