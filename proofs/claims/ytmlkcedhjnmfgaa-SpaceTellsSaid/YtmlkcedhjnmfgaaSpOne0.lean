/- What Put, Swap, Del make of the keys: plain. -/
import Derived.Test.YtmlkcedhjnmfgaaSpR
namespace Go.Proofs.Ytmlkcedhjnmfgaa
open Go.ChangeShapes Go.WideShapes Go.ChangeAt Go.RowKit
set_option linter.unusedVariables false
set_option linter.unusedSimpArgs false
open Plain Sp
theorem get_parts {s : SpZ} {k : ByteArray} : (getR s k).2 = 0 ∨ (getR s k).2 = 110 ∨ (getR s k).2 = 2 := by
  unfold getR
  split
  · split
    · exact .inl rfl
    · exact .inr (.inl rfl)
  · exact .inr (.inr rfl)
theorem get_may {s : SpZ} {k : ByteArray} (h : (getR s k).2 = 0) : mayB s = true ∧ keyB k = true := by
  unfold getR at h
  split at h
  · next hb => simpa using hb
  · simp at h
theorem del_may {s : SpZ} {k : ByteArray} (h : mayB s = true) : mayB ⟨s.K, s.Y, delP s.l k⟩ = true := by
  obtain ⟨h1, h2, h3, _, _⟩ := may_parts h
  refine may_of h1 (rise_filter _ h2) ?_
  have a1 : (delP s.l k).length ≤ s.l.length := List.length_filter_le _ _
  have a2 : cnt (delP s.l k) ≤ cnt s.l := cnt_filter _ _
  simp only [fitB, Bool.and_eq_true, decide_eq_true_eq] at h3 ⊢
  omega
/-- What each of the three calls comes to. -/
def Sp.oneR (q : Nat) (s : SpZ) (k v : ByteArray) : SpZ × Int := if q = 0 then putR s k v else if q = 1 then swapR s k (getR s k).1 v else delR s k
theorem one_swap {s : SpZ} {k v : ByteArray} : swapR s k (getR s k).1 v = if valB v then (if (getR s k).2 = 0 then putR s k v else (sp0, (getR s k).2)) else (sp0, 2) := by
  unfold swapR
  split
  · split
    · simp
    · rfl
  · rfl
/-- Refused: why; there is nothing in what is told. -/
theorem one_no {q : Nat} {s : SpZ} {k v : ByteArray} {r : SpZ × Int} (hr : oneR q s k v = r) (h : r.2 ≠ 0) : r.1 = sp0 ∧ (q = 0 ∨ (getR s k).2 = r.2 ∨ r.2 = 120 ∨ r.2 = 2) := by
  unfold oneR at hr
  split at hr
  · next hq => exact ⟨(put_zero hr h).1, .inl hq⟩
  · split at hr
    · rw [one_swap] at hr
      split at hr
      · split at hr
        · obtain ⟨h1, h2⟩ := put_zero hr h
          exact ⟨h1, .inr (.inr (h2.elim .inr .inl))⟩
        · subst hr; exact ⟨rfl, .inr (.inl rfl)⟩
      · subst hr; exact ⟨rfl, .inr (.inr (.inr rfl))⟩
    · unfold delR at hr
      split at hr
      · subst hr; simp at h
      · subst hr; exact ⟨rfl, .inr (.inl rfl)⟩
theorem one_put {s : SpZ} {k v : ByteArray} {r : SpZ × Int} (hr : putR s k v = r) (h : r.2 = 0) : mayB r.1 = true ∧ getR r.1 k = (v, 0) ∧ ∀ o, o ≠ k → getR r.1 o = getR s o := by
  have hm := may_put hr h
  obtain ⟨h1, h2, h3, h4⟩ := put_ok hr h
  refine ⟨hm, ?_, fun o ho => ?_⟩
  · unfold getR
    rw [hm, h2, h4]
    simp [get_ins]
  · unfold getR
    rw [hm, h1, h4]
    simp only [get_ins_other s.l v ho]
/-- Not refused: the key, the others. -/
theorem one_yes {q : Nat} {s : SpZ} {k v : ByteArray} {r : SpZ × Int} (hr : oneR q s k v = r) (h : r.2 = 0) :
    mayB r.1 = true ∧ (q < 2 → getR r.1 k = (v, 0)) ∧ (2 ≤ q → getR r.1 k = (⟨#[]⟩, 110)) ∧ ∀ o, o ≠ k → getR r.1 o = getR s o := by
  unfold oneR at hr
  split at hr
  · next hq =>
    obtain ⟨h1, h2, h3⟩ := one_put hr h
    exact ⟨h1, fun _ => h2, fun h => by omega, h3⟩
  · split at hr
    · next hq =>
      rw [one_swap] at hr
      split at hr
      · split at hr
        · obtain ⟨h1, h2, h3⟩ := one_put hr h
          exact ⟨h1, fun _ => h2, fun h => by omega, h3⟩
        · next hg => subst hr; exact absurd h hg
      · subst hr; simp at h
    · next hq0 hq1 =>
      unfold delR at hr
      split at hr
      · next hg =>
        obtain ⟨h1, h2⟩ := get_may hg
        have h3 := del_may (k := k) h1
        subst hr
        refine ⟨h3, fun h => by omega, fun _ => ?_, fun o ho => ?_⟩
        · unfold getR
          simp only [h3, h2, Bool.and_self, if_true, get_del]
        · unfold getR
          simp only [h3, h1, get_del_other s.l ho]
      · next hg => subst hr; exact absurd h hg
theorem one_len {q : Nat} {s : SpZ} {k v : ByteArray} {r : SpZ × Int} (hr : oneR q s k v = r) : r.1.l.length ≤ 64 := by
  by_cases h : r.2 = 0
  · exact (may_parts (one_yes hr h).1).2.2.2.1
  · rw [(one_no hr h).1]; simp [sp0]
end Go.Proofs.Ytmlkcedhjnmfgaa
