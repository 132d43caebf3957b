/- The statement WireBad: the walk. -/
import Derived.Test.YtcihbkdpkhhhcaaBack
import Derived.Test.YtcihbkdpkhhhcaaWAwake
namespace Go.Proofs.Ytcihbkdpkhhhcaa
open Go.ChangeShapes Go.WideShapes Go.ChangeAt Go.RowKit
set_option linter.unusedVariables false
open Plain
/-- A reader of a few bytes is good, or bad by ErrWire; no more is left than there was. -/
def StOk (n : Nat) (s : Int × List Int) : Prop := (s.1 = 0 ∨ s.1 = 40) ∧ s.2.length ≤ n
theorem tk_st {α : Type} {n k : Nat} {okf : List Int → List Int → Bool} {val : List Int → α} {nv : α} {s : Int × List Int} (h : StOk n s) : StOk n (tk k okf val nv s).2 := by
  unfold tk
  split
  · exact ⟨.inl rfl, by simp only [List.length_drop]; have := h.2; omega⟩
  · refine ⟨?_, by simp⟩
    rcases h.1 with h1 | h1
    · right; simp only; rw [if_pos h1]
    · right; simp only; rw [if_neg (by omega), h1]
theorem back_st {n : Nat} {f : FieldZ} {s : Int × List Int} (h : StOk n s) : StOk n (backR f s).2 := by
  unfold backR rByte rInt rFlag rBytes rLen rTag
  repeat' split
  all_goals first | exact tk_st h | exact tk_st (tk_st h) | exact h
theorem field_info {f : FieldZ} (h : f.tag.length = 32) : (Try.prog.info? 30).map (·.size) = some (fCells f).length := by rw [fCells_len h]; kernel_rfl
/-- The one tag of noughts. -/
theorem zt_eq (W : World) : (binOp .eql 28 (.agg (vals ZT).toArray) (.agg #[.int .u8 0, .int .u8 0, .int .u8 0, .int .u8 0, .int .u8 0, .int .u8 0, .int .u8 0, .int .u8 0, .int .u8 0, .int .u8 0, .int .u8 0, .int .u8 0, .int .u8 0, .int .u8 0, .int .u8 0, .int .u8 0, .int .u8 0, .int .u8 0, .int .u8 0, .int .u8 0, .int .u8 0, .int .u8 0, .int .u8 0, .int .u8 0, .int .u8 0, .int .u8 0, .int .u8 0, .int .u8 0, .int .u8 0, .int .u8 0, .int .u8 0, .int .u8 0])).run Try.prog W = .ok (.bool true) W := by
  have := run_tagEq ZT ZT rfl rfl W
  rw [eqB_self] at this
  exact this
end Go.Proofs.Ytcihbkdpkhhhcaa
