/- What the functions that load numbers return: of a slice that reads as bytes, the number at the place, where it is there whole. -/
import Derived.Test.YtpnjojkjepblaaaDoorSame
namespace Go.Proofs.YtpnjojkjepblaaaDoor
open Go.ChangeShapes Go.WideShapes Go.ChangeAt Go.RowKit
set_option linter.unusedVariables false
open Plain
theorem Bs.rng' {w : World} {B n : Nat} {A : Option Addr} {zs : List Int} (h : Bs w B A n zs) : ∀ j, j < zs.length → 0 ≤ zs.getD j 0 ∧ zs.getD j 0 < 256 := fun j hj => h.rng j (by rw [← h.len]; exact hj)
theorem ret_load {a b : Int} {c d : Bool} (h : a = b) (h2 : c = d) : Ending.returned (.tuple #[.int .u64 a, .bool c]) = .returned (.tuple #[.int .u64 b, .bool d]) := by rw [h, h2]
theorem ret_load32 {a b : Int} {c d : Bool} (h : a = b) (h2 : c = d) : Ending.returned (.tuple #[.int .u32 a, .bool c]) = .returned (.tuple #[.int .u32 b, .bool d]) := by rw [h, h2]
end Go.Proofs.YtpnjojkjepblaaaDoor
