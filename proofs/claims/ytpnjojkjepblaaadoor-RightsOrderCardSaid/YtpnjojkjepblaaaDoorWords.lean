/- What the exported calls of words return that put and load numbers. -/
import Derived.Test.YtpnjojkjepblaaaDoorPut
import Derived.Test.YtpnjojkjepblaaaDoorLoad
import Derived.Test.YtpnjojkjepblaaaDoorBits
namespace Go.Proofs.YtpnjojkjepblaaaDoor
open Go.ChangeShapes Go.WideShapes Go.ChangeAt Go.RowKit
set_option linter.unusedVariables false
open Plain
theorem wf_i64 {x : Int} (h : (Lit.int .i64 x).wf = true) : -9223372036854775808 ≤ x ∧ x ≤ 9223372036854775807 := by
  simp [Lit.wf, IntKind.min, IntKind.max, IntKind.signed, IntKind.bits] at h; omega
theorem wf_u64 {x : Int} (h : (Lit.int .u64 x).wf = true) : 0 ≤ x ∧ x < 18446744073709551616 := by
  simp [Lit.wf, IntKind.min, IntKind.max, IntKind.signed, IntKind.bits] at h; omega
theorem wf_u32' {x : Int} (h : (Lit.int .u32 x).wf = true) : 0 ≤ x ∧ x < 4294967296 := by
  simp [Lit.wf, IntKind.min, IntKind.max, IntKind.signed, IntKind.bits] at h; omega
theorem wf_u8 {x : Int} (h : (Lit.int .u8 x).wf = true) : 0 ≤ x ∧ x < 256 := by
  simp [Lit.wf, IntKind.min, IntKind.max, IntKind.signed, IntKind.bits] at h; omega
theorem eqB_self (a : List Int) : eqB a a = true := by simp [eqB]
/-- What was made, and stands there still, reads as bytes. -/
theorem Made.bs {w w' : World} {A : Option Addr} {c n : Nat} {zs : List Int} (h : w'.ownsRow w.heap.size 5 1 (.slice A n c) n (vals zs)) (hb : IsBytes zs) : Bs w' w'.heap.size A n zs := bs_of_own h hb
theorem Made.n {w : World} {zs : List Int} {e : Ending} {w' : World} {n : Nat} (h : Made w zs e w') (hn : zs.length = n) :
    ∃ A c, e = .returned (.slice A n c) ∧ w'.ownsRow w.heap.size 5 1 (.slice A n c) n (vals zs) ∧ Below w.heap.size w w' ∧ n ≤ c ∧ c ≤ maxLen := by
  subst hn; exact h
theorem bs_new (w : World) (zs : List Int) (n : Nat) (hn : zs.length = n) (h : IsBytes zs) (t : TypeId) (g : Nat) (hg : w.heap.size = g) : Bs (w.alloc (.cells (vals zs).toArray t)) (g + 1) (some ⟨g, 0, none⟩) n zs := by
  subst hg
  exact ⟨hn, fun j hj => h j (by omega), fun _ => ⟨w.heap.size, 0, rfl, by omega, fun j hj => by
    have hh : (w.alloc (.cells (vals zs).toArray t)).cell? ⟨w.heap.size, 0 + j, none⟩ = (vals zs).toArray[0 + j]? := cell_of_row _ _ _ _ _ _ (heap_alloc_new w _)
    rw [hh, Nat.zero_add]
    simp [vals, List.getElem?_map, List.getD_eq_getElem?_getD, List.getElem?_eq_getElem (show j < zs.length by omega)]⟩⟩
end Go.Proofs.YtpnjojkjepblaaaDoor
