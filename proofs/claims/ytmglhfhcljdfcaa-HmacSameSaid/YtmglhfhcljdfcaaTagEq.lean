/- Two tags are held against each other. -/
import Derived.Test.YtmglhfhcljdfcaaRow8
import Derived.ChangeKeysEq
namespace Go.Proofs.Ytmglhfhcljdfcaa
open Go.ChangeShapes Go.WideShapes Go.ChangeAt Go.RowKit
set_option linter.unusedVariables false
open Plain Sha
theorem run_part8 (a : List Int) (i : Nat) (hi : i < a.length) (w : World) : (part 5 (vals a).toArray (i * 1)).run Try.prog w = .ok (.int .u8 (a.getD i 0)) w := by
  have hx := vals_at a i hi
  simp [part, isAgg, run_underlying Try.underlying5, hx, go_sem]
theorem run_eqItems8 (d : Nat) (a b : List Int) (hl : a.length = b.length) (w : World) : ∀ (is : List Nat), (∀ i ∈ is, i < a.length) →
    (Op.eqItems (d + 1) 5 1 (vals a).toArray (vals b).toArray is).run Try.prog w = .ok (is.all fun i => a.getD i 0 == b.getD i 0) w
  | [], _ => by simp [Op.eqItems]
  | i :: is, h => by
    have hi := h i (by simp)
    simp only [Op.eqItems, Sem.run_bind, run_part8 a i hi w, run_part8 b i (by omega) w, Result.andThen_ok, run_equalIn_int w d 5 .u8 .u8 _ _ Try.underlying5, List.all_cons]
    have ih := run_eqItems8 d a b hl w is (fun j hj => h j (by simp [hj]))
    cases hc : (a.getD i 0 == b.getD i 0)
    · simp
    · simp only [Bool.not_true, Bool.false_eq_true, if_false, Bool.true_and]
      exact ih
theorem eqB_range (a b : List Int) (hl : a.length = b.length) : ((List.range a.length).all fun i => a.getD i 0 == b.getD i 0) = eqB a b := by
  rw [Bool.eq_iff_iff]
  simp only [List.all_eq_true, List.mem_range, beq_iff_eq, eqB, decide_eq_true_eq]
  exact ⟨fun h => list_ext_getD hl h, fun h _ _ => by rw [h]⟩
theorem u8_cells : Try.prog.cellsOf 5 = 1 := by kernel_rfl
theorem run_tagIn (a b : List Int) (ha : a.length = 32) (hb : b.length = 32) (w : World) : (Op.equalIn 10000 23 (.agg (vals a).toArray) (.agg (vals b).toArray)).run Try.prog w = .ok (eqB a b) w := by
  obtain ⟨i, z, hi, _⟩ := u8_info
  rw [run_equalIn_array w 9999 (vals a).toArray (vals b).toArray Try.underlying23 hi, u8_cells]
  have := run_eqItems8 9998 a b (by omega) w (List.range 32) (fun i hi => by rw [List.mem_range] at hi; omega)
  rw [this, ← eqB_range a b (by omega), ha]
theorem run_tagEq (a b : List Int) (ha : a.length = 32) (hb : b.length = 32) (w : World) : (binOp .eql 23 (.agg (vals a).toArray) (.agg (vals b).toArray)).run Try.prog w = .ok (.bool (eqB a b)) w := by
  rw [run_eql_struct, run_tagIn a b ha hb]; rfl
theorem run_tagNe (a b : List Int) (ha : a.length = 32) (hb : b.length = 32) (w : World) : (binOp .neq 23 (.agg (vals a).toArray) (.agg (vals b).toArray)).run Try.prog w = .ok (.bool (!eqB a b)) w := by
  rw [run_neq_struct, run_tagIn a b ha hb]; rfl
theorem shaZ_len (bs : List Int) : (shaZ bs).length = 32 := by unfold shaZ; exact tagZ_len _
end Go.Proofs.Ytmglhfhcljdfcaa
