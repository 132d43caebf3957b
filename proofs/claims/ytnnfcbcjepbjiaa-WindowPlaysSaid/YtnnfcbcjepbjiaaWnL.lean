/- What the laws of the window share. -/
import Derived.Test.YtnnfcbcjepbjiaaWnF
import Derived.Test.YtnnfcbcjepbjiaaIvM
namespace Go.Proofs.Ytnnfcbcjepbjiaa
open Go.ChangeShapes Go.WideShapes Go.ChangeAt Go.RowKit
set_option linter.unusedVariables false
set_option linter.unusedSimpArgs false
open Plain Sha Wn
theorem IsRow.each {w : World} {A : Option Addr} {zs : List Int} {len cap : Nat} (h : IsRow .i64 w A len cap zs) : ∀ x, x ∈ zs.take len → InI x := by
  rcases h with ⟨rfl, rfl, rfl, rfl⟩ | ⟨x, rfl, hl, hm, hz, hc, hw⟩
  · intro x hx; simp at hx
  · intro x hx
    have := hw x (List.mem_of_mem_take hx)
    simp [Lit.wf, IntKind.min, IntKind.max, IntKind.signed, IntKind.bits] at this
    exact this
/-- A number in the list, where it stands. -/
theorem Ir.step {w : World} {B n : Nat} {A : Option Addr} {zs : List Int} (h : Ir w B A n zs) {k : Nat} (hk : k < n) : ∃ b off z, A = some ⟨b, off, none⟩ ∧ b < B ∧ Hid (zs[k]? = some z) ∧ w.cell? ⟨b, off + k, none⟩ = some (.int .i64 z) := by
  obtain ⟨b, off, hA, hb, hc⟩ := h.at_ hk
  refine ⟨b, off, zs.getD k 0, hA, hb, Lib.hid ?_, hc⟩
  have hk' : k < zs.length := by rw [h.len]; exact hk
  rw [List.getElem?_eq_getElem hk', List.getD_eq_getElem?_getD, List.getElem?_eq_getElem hk']; rfl
theorem take_again {b : Int} {S : List Int} {n : Int} (hb : 0 ≤ b) (hn : 1 ≤ n) (h : n ∈ S) : takeZ b S b n = (180, b, S) := by
  unfold takeZ; rw [if_neg (by omega), if_neg (by omega), if_neg (by omega), if_pos (Or.inr h)]
/-- A number that is greater than all is taken. -/
theorem take_rise {a b : Int} {S : List Int} {n : Int} (ha : 0 ≤ a) (hn : topZ S < n) (h : b = -1 ∨ b = a) : ∃ S', takeZ b S a n = (0, a, S') ∧ topZ S' = n ∧ n ∈ S' := by
  have h0 := top_pos S
  by_cases hb : b < a
  · refine ⟨[n], ?_, ?_, by simp⟩
    · unfold takeZ; rw [if_neg (by omega), if_neg (by omega), if_pos hb]
    · show max 0 n = n; omega
  · have e : b = a := by omega
    subst e
    refine ⟨S ++ [n], ?_, by rw [topZ_snoc]; omega, by simp⟩
    have hns : ¬ n ∈ S := fun h => by have := top_le h; omega
    unfold takeZ; rw [if_neg (by omega), if_neg (by omega), if_neg (by omega), if_neg (by rintro (h | h); omega; exact hns h)]
/-- A boot's window: as at first, or of that boot. -/
def OfB (a b : Int) (S : List Int) : Prop := (b = -1 ∧ S = []) ∨ b = a
theorem ofB_take {a b : Int} {S : List Int} {n : Int} (h : OfB a b S) : OfB a (takeZ b S a n).2.1 (takeZ b S a n).2.2 := by
  unfold takeZ
  split
  · exact h
  split
  · exact h
  split
  · exact .inr rfl
  split
  · exact h
  · rcases h with ⟨rfl, rfl⟩ | h
    · next h1 h2 h3 h4 => exact absurd h3 (by omega)
    · exact .inr h
theorem take_less {a b : Int} {S : List Int} {n : Int} (ha : 0 ≤ a) (hn : 1 ≤ n) (h : a < b) : takeZ b S a n = (180, b, S) := by
  unfold takeZ; rw [if_neg (by omega), if_pos h]
theorem take_more {a b : Int} {S : List Int} {n : Int} (ha : 0 ≤ a) (hn : 1 ≤ n) (h : b < a) : takeZ b S a n = (0, a, [n]) := by
  unfold takeZ; rw [if_neg (by omega), if_neg (by omega), if_pos h]
/-- A number among those that are near. -/
theorem take_near {S : List Int} {least n : Int} (hS : ∀ x, x ∈ S → x ≤ least + 63) (hl : 1 ≤ least) (hn : least ≤ n) : takeZ 3 S 3 n = if n ∈ S then (180, 3, S) else (0, 3, S ++ [n]) := by
  have ht : topZ S ≤ least + 63 := by
    rcases top_in S with h | h
    · omega
    · exact hS _ h
  unfold takeZ
  rw [if_neg (by omega), if_neg (by omega), if_neg (by omega)]
  by_cases h : n ∈ S
  · rw [if_pos (Or.inr h), if_pos h]
  · rw [if_neg h, if_neg (by rintro (h' | h'); omega; exact h h')]
end Go.Proofs.Ytnnfcbcjepbjiaa
