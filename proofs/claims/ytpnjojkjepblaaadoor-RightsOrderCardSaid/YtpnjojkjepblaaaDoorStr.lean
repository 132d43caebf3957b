/- A string's bytes; the slice that a string is turned into. -/
import Derived.Test.YtpnjojkjepblaaaDoorOwn
import Derived.Lib.ConvBytes
namespace Go.Proofs.YtpnjojkjepblaaaDoor
open Go.ChangeShapes Go.WideShapes Go.ChangeAt Go.RowKit
set_option linter.unusedVariables false
open Plain
/-- A string's bytes as numbers. -/
def strZ (s : ByteArray) : List Int := s.data.toList.map fun c => (c.toNat : Int)
theorem strZ_len (s : ByteArray) : (strZ s).length = s.size := by unfold strZ; rw [List.length_map]; rfl
theorem strZ_bytes (s : ByteArray) : IsBytes (strZ s) := by
  rw [isBytes_iff]
  intro z hz
  simp only [strZ, List.mem_map] at hz
  obtain ⟨c, _, rfl⟩ := hz
  have := c.toNat_lt
  omega
theorem bytesW_below (w : World) (s : ByteArray) : Below w.heap.size w (Go.Lib.bytesWorld w 5 s) :=
  ⟨rfl, rfl, rfl, by rw [Go.Lib.bytesWorld_size]; omega, fun k hk => Go.Lib.bytesWorld_at_old w _ s k hk⟩
theorem bytesW_bs (w : World) (s : ByteArray) : Bs (Go.Lib.bytesWorld w 5 s) (w.heap.size + 1) (some ⟨w.heap.size, 0, none⟩) s.size (strZ s) := by
  refine ⟨strZ_len s, fun j hj => strZ_bytes s j (by rw [strZ_len]; exact hj), fun _ => ⟨w.heap.size, 0, rfl, by omega, fun j hj => ?_⟩⟩
  rw [Nat.zero_add, Go.Lib.bytesWorld_cell w _ s j hj]
  have hj' : j < s.data.toList.length := hj
  simp [strZ, List.getD_eq_getElem?_getD, List.getElem?_map, List.getElem?_eq_getElem hj']
theorem run_toBytes (w : World) (s : ByteArray) : (convert 9 45 (.string s)).run Tryd.prog w = .ok (.slice (some ⟨w.heap.size, 0, none⟩) s.size (grownCap w s.size 0 5)) (Go.Lib.bytesWorld w 5 s) :=
  Go.Lib.run_convert_string_bytes w _ _ 5 s Tryd.underlying9 Tryd.underlying45 Tryd.underlying5
end Go.Proofs.YtpnjojkjepblaaaDoor
