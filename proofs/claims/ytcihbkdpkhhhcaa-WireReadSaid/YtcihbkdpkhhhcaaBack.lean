/- A field is read back. -/
import Derived.Test.YtcihbkdpkhhhcaaFields
namespace Go.Proofs.Ytcihbkdpkhhhcaa
open Go.ChangeShapes Go.WideShapes Go.ChangeAt Go.RowKit
set_option linter.unusedVariables false
open Plain
theorem Rd.drew {w : World} {b : Nat} {B : Span} {why : Int} {zs : List Int} (h : Rd w b B why zs) : Rd w.drew b B why zs := h.keep rfl (fun _ _ _ => rfl)
theorem rBytes_bytes {s : Int × List Int} (h : IsBytes s.2) : IsBytes (rBytes s).1 := by
  have h2 : IsBytes (rLen s).2.2 := by
    unfold rLen tk
    split
    · exact IsBytes.drop h
    · exact IsBytes.nil
  unfold rBytes tk
  split
  · exact IsBytes.take h2
  · exact IsBytes.nil
/-- Is a field told as it was written, and the reader behind it. -/
def backR (f : FieldZ) (s : Int × List Int) : Bool × Int × List Int :=
  if f.kind = 0 then ((rByte s).1 == f.n % 256, (rByte s).2) else if f.kind = 1 then ((rInt s).1 == f.n, (rInt s).2) else if f.kind = 2 then ((rFlag s).1 == oddB f.n, (rFlag s).2)
  else if f.kind = 3 then (eqB (rBytes s).1 f.zs, (rBytes s).2) else if f.kind = 4 then (eqB (rBytes s).1 f.zs, (rBytes s).2) else if f.kind = 5 then (eqB (rTag s).1 f.tag, (rTag s).2) else (true, s)
end Go.Proofs.Ytcihbkdpkhhhcaa
