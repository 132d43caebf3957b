/- Whether a request may be: the document's. -/
import Derived.Test.YtcgclaailhhbpaaRqEa
import Derived.Test.YtcgclaailhhbpaaRqEb
namespace Go.Proofs.Ytcgclaailhhbpaa
open Go.ChangeShapes Go.WideShapes Go.ChangeAt Go.RowKit
set_option linter.unusedVariables false
set_option maxRecDepth 100000
set_option linter.unusedSimpArgs false
open Plain Sha Au Rp Rq
theorem rmay_any {w : World} {x : QX} (q : Bool) (htl : x.tok.length = x.tl) (hrt : 0 ≤ x.rt ∧ x.rt < 256) (hq : mayB x.z = q) : Calls Try.prog 13 #[.agg (qc x).toArray] w (fun e w' => e = .returned (.bool q) ∧ Below w.heap.size w w') := by
  cases h : (x.ks == 0) with
  | false => exact rmay_no q h htl hrt hq
  | true => exact rmay_yes q h htl hrt hq
end Go.Proofs.Ytcgclaailhhbpaa
