/-
  NARROWER THAN 'FOR EVERY INPUT', by the rows' own cells (each row's printed sentence says how): RightsTexts: laid · RightsLines: laid · RightsWithin: laid · RightsNever: laid · RightsOrder: laid · RightsBack: laid.
  DERIVED. THE GIVEN ROWS OF THIS SEAT. 6 by the template 'for every input the law returns true; each argument reads behind the call as it read before'; 0 by the template 'total and deterministic' (their statements: YtpnjojkjepblaaaDoorTotals.lean).
  GIVEN WITH THE SEED: the statements are not yours to turn. If you find one false, say at which input.
  Laid BY PROGRAM, IN A SANDBOX (cutbox-rows.mjs): the forced cells as the released guide's own fill.sh prints them over the translation 2ef3dbc497d1305f… (all of the seat's roots in one cut). By AI agents, Wed Nov 11 2026. No macro, syntax, notation, axiom, sorry.
-/
import Derived.Test.YtpnjojkjepblaaaDoorChecked
import GoSem.Claim
import GoSem.ClaimJoined
import GoSem.ClaimMapViews
import Derived.JoinedTies
import Derived.KernelRfl
namespace Go.Proofs.YtpnjojkjepblaaaDoor
/- THE CELL 'sum', in the pinned program and in every row, IS THE sha256 OF THE DUMP (.gsa) THAT YtpnjojkjepblaaaDoorProg.lean LOADS. Nothing in Lean hashes anything: it is a label: what it is worth is what the hold of that sum in a sandbox is worth. -/
noncomputable def Tryd.pinned : Pinned := { name := "ytpnjojkjepblaaadoor", sum := "2ef3dbc497d1305fc98f7687579e7ddce12e0e709ff5d2cf075b1b8ea81e5460", checked := Tryd.checked }
namespace Rows
def none {H : Type} : Left H := { results := [], args := [] }

/- WHAT THE LISTED PACKAGE-LEVEL VARIABLES READ AS WHEN THE CALL BEGINS. Each datum BY PROGRAM (the guide's laid-datum.mjs) off the statement by which the dump's own 'gosem.cut.vars' lays the variable. In a bare row this is a premise. The card (YtpnjojkjepblaaaDoorCards.lean) ties it to the program's text. -/
def laid_seneschal_rights_letters {H : Type} : DataW H := .agg [.lit (.int .u8 114), .lit (.int .u8 119), .lit (.int .u8 108), .lit (.int .u8 97)]

/-- 'seneschallaw08.RightsTexts': WHATEVER THE INPUT: true; the input reads as it did. -/
def rightsTextsSpec : ChangeSpec := { name := "rightsTexts", fn := fun _ => fun
  | [d1, d2] => { results := [.lit (.bool true)], args := [d1, d2] }
  | _ => none }
def rightsTextsRow : OpenClaim := { program := "ytpnjojkjepblaaadoor", sum := "2ef3dbc497d1305fc98f7687579e7ddce12e0e709ff5d2cf075b1b8ea81e5460", func := "seneschal/seneschallaw08.RightsTexts", spec := "rightsTexts", named := ["seneschal/rights.letters"], apart := false, laid := [("seneschal/rights.letters", laid_seneschal_rights_letters)] }
def RightsTextsSaid : Prop := rightsTextsRow.holds Tryd.pinned (OpenSpec.ofChange rightsTextsSpec)

/-- ITS FALSE NEIGHBOUR: 'it returns false'. Refute it at one input. -/
def rightsTextsWrong : ChangeSpec := { name := "rightsTexts", fn := fun _ => fun
  | [d1, d2] => { results := [.lit (.bool false)], args := [d1, d2] }
  | _ => none }
def RightsTextsWrongFalsely : Prop := rightsTextsRow.holds Tryd.pinned (OpenSpec.ofChange rightsTextsWrong)

/-- 'seneschallaw08.RightsLines': WHATEVER THE INPUT: true; the input reads as it did. -/
def rightsLinesSpec : ChangeSpec := { name := "rightsLines", fn := fun _ => fun
  | [d] => { results := [.lit (.bool true)], args := [d] }
  | _ => none }
def rightsLinesRow : OpenClaim := { program := "ytpnjojkjepblaaadoor", sum := "2ef3dbc497d1305fc98f7687579e7ddce12e0e709ff5d2cf075b1b8ea81e5460", func := "seneschal/seneschallaw08.RightsLines", spec := "rightsLines", named := ["seneschal/rights.letters"], apart := false, laid := [("seneschal/rights.letters", laid_seneschal_rights_letters)] }
def RightsLinesSaid : Prop := rightsLinesRow.holds Tryd.pinned (OpenSpec.ofChange rightsLinesSpec)

/-- ITS FALSE NEIGHBOUR: 'it returns false'. Refute it at one input. -/
def rightsLinesWrong : ChangeSpec := { name := "rightsLines", fn := fun _ => fun
  | [d] => { results := [.lit (.bool false)], args := [d] }
  | _ => none }
def RightsLinesWrongFalsely : Prop := rightsLinesRow.holds Tryd.pinned (OpenSpec.ofChange rightsLinesWrong)

/-- 'seneschallaw08.RightsWithin': WHATEVER THE INPUT: true; the input reads as it did. -/
def rightsWithinSpec : ChangeSpec := { name := "rightsWithin", fn := fun _ => fun
  | [d1, d2, d3, d4] => { results := [.lit (.bool true)], args := [d1, d2, d3, d4] }
  | _ => none }
def rightsWithinRow : OpenClaim := { program := "ytpnjojkjepblaaadoor", sum := "2ef3dbc497d1305fc98f7687579e7ddce12e0e709ff5d2cf075b1b8ea81e5460", func := "seneschal/seneschallaw08.RightsWithin", spec := "rightsWithin", named := ["seneschal/rights.letters"], apart := false, laid := [("seneschal/rights.letters", laid_seneschal_rights_letters)] }
def RightsWithinSaid : Prop := rightsWithinRow.holds Tryd.pinned (OpenSpec.ofChange rightsWithinSpec)

/-- ITS FALSE NEIGHBOUR: 'it returns false'. Refute it at one input. -/
def rightsWithinWrong : ChangeSpec := { name := "rightsWithin", fn := fun _ => fun
  | [d1, d2, d3, d4] => { results := [.lit (.bool false)], args := [d1, d2, d3, d4] }
  | _ => none }
def RightsWithinWrongFalsely : Prop := rightsWithinRow.holds Tryd.pinned (OpenSpec.ofChange rightsWithinWrong)

/-- 'seneschallaw08.RightsNever': WHATEVER THE INPUT: true; the input reads as it did. -/
def rightsNeverSpec : ChangeSpec := { name := "rightsNever", fn := fun _ => fun
  | [d1, d2] => { results := [.lit (.bool true)], args := [d1, d2] }
  | _ => none }
def rightsNeverRow : OpenClaim := { program := "ytpnjojkjepblaaadoor", sum := "2ef3dbc497d1305fc98f7687579e7ddce12e0e709ff5d2cf075b1b8ea81e5460", func := "seneschal/seneschallaw08.RightsNever", spec := "rightsNever", named := ["seneschal/rights.letters"], apart := false, laid := [("seneschal/rights.letters", laid_seneschal_rights_letters)] }
def RightsNeverSaid : Prop := rightsNeverRow.holds Tryd.pinned (OpenSpec.ofChange rightsNeverSpec)

/-- ITS FALSE NEIGHBOUR: 'it returns false'. Refute it at one input. -/
def rightsNeverWrong : ChangeSpec := { name := "rightsNever", fn := fun _ => fun
  | [d1, d2] => { results := [.lit (.bool false)], args := [d1, d2] }
  | _ => none }
def RightsNeverWrongFalsely : Prop := rightsNeverRow.holds Tryd.pinned (OpenSpec.ofChange rightsNeverWrong)

/-- 'seneschallaw08.RightsOrder': WHATEVER THE INPUT: true; the input reads as it did. -/
def rightsOrderSpec : ChangeSpec := { name := "rightsOrder", fn := fun _ => fun
  | [d1, d2, d3] => { results := [.lit (.bool true)], args := [d1, d2, d3] }
  | _ => none }
def rightsOrderRow : OpenClaim := { program := "ytpnjojkjepblaaadoor", sum := "2ef3dbc497d1305fc98f7687579e7ddce12e0e709ff5d2cf075b1b8ea81e5460", func := "seneschal/seneschallaw08.RightsOrder", spec := "rightsOrder", named := ["seneschal/rights.letters"], apart := false, laid := [("seneschal/rights.letters", laid_seneschal_rights_letters)] }
def RightsOrderSaid : Prop := rightsOrderRow.holds Tryd.pinned (OpenSpec.ofChange rightsOrderSpec)

/-- ITS FALSE NEIGHBOUR: 'it returns false'. Refute it at one input. -/
def rightsOrderWrong : ChangeSpec := { name := "rightsOrder", fn := fun _ => fun
  | [d1, d2, d3] => { results := [.lit (.bool false)], args := [d1, d2, d3] }
  | _ => none }
def RightsOrderWrongFalsely : Prop := rightsOrderRow.holds Tryd.pinned (OpenSpec.ofChange rightsOrderWrong)

/-- 'seneschallaw08.RightsBack': WHATEVER THE INPUT: true; the input reads as it did. -/
def rightsBackSpec : ChangeSpec := { name := "rightsBack", fn := fun _ => fun
  | [d1, d2] => { results := [.lit (.bool true)], args := [d1, d2] }
  | _ => none }
def rightsBackRow : OpenClaim := { program := "ytpnjojkjepblaaadoor", sum := "2ef3dbc497d1305fc98f7687579e7ddce12e0e709ff5d2cf075b1b8ea81e5460", func := "seneschal/seneschallaw08.RightsBack", spec := "rightsBack", named := ["seneschal/rights.letters"], apart := false, laid := [("seneschal/rights.letters", laid_seneschal_rights_letters)] }
def RightsBackSaid : Prop := rightsBackRow.holds Tryd.pinned (OpenSpec.ofChange rightsBackSpec)

/-- ITS FALSE NEIGHBOUR: 'it returns false'. Refute it at one input. -/
def rightsBackWrong : ChangeSpec := { name := "rightsBack", fn := fun _ => fun
  | [d1, d2] => { results := [.lit (.bool false)], args := [d1, d2] }
  | _ => none }
def RightsBackWrongFalsely : Prop := rightsBackRow.holds Tryd.pinned (OpenSpec.ofChange rightsBackWrong)

/- THE SECOND FORM. 'bulk': how many values and letters a reading holds, each counted each time it is reached (what is shared counts as often as it is met; a slice's spare places count too). A statement '..UptoSaid' is the law's where the arguments, and the package variables that the reading takes, are together of bulk at most 1048576: NARROWER than '..Said'. Prove '..Said' where nothing that the law and all that it calls make is longer than what came in: it says more and counts as full. Else prove '..UptoSaid'. A law counts once. -/
mutual
def uptoBulk {H : Type} : DataW H → Nat
  | .lit (.string bytes) => bytes.length + 1
  | .lit _ => 1
  | .nil => 1
  | .ptr d => uptoBulk d + 1
  | .slice elems spare => uptoBulkAll elems + uptoBulkAll spare + 1
  | .agg parts => uptoBulkAll parts + 1
  | .iface _ d => uptoBulk d + 1
  | .map entries => uptoBulkEntries entries + 1
  | .held _ => 1
def uptoBulkAll {H : Type} : List (DataW H) → Nat
  | [] => 0
  | d :: r => uptoBulk d + uptoBulkAll r
def uptoBulkEntries {H : Type} : List (Lit × DataW H) → Nat
  | [] => 0
  | x :: r => uptoBulkEntry x + uptoBulkEntries r
def uptoBulkEntry {H : Type} : Lit × DataW H → Nat
  | (.string bytes, d) => bytes.length + uptoBulk d + 1
  | (_, d) => uptoBulk d + 1
 end
def uptoSmall : (H : Type) → List (DataW H) → Bool := fun _ ds => decide (uptoBulkAll ds ≤ 1048576)
def OpenSpec.upto (s : _root_.Go.ChangeSpec) : _root_.Go.OpenSpec := { _root_.Go.OpenSpec.ofChange s with cond := some uptoSmall }

/-- 'seneschallaw08.RightsTexts', WHERE WHAT IT READS IS OF BULK AT MOST 1048576: true; the input reads as it did. -/
def rightsTextsUptoRow : OpenClaim := { program := "ytpnjojkjepblaaadoor", sum := "2ef3dbc497d1305fc98f7687579e7ddce12e0e709ff5d2cf075b1b8ea81e5460", func := "seneschal/seneschallaw08.RightsTexts", spec := "rightsTexts", named := ["seneschal/rights.letters"], apart := false, laid := [("seneschal/rights.letters", laid_seneschal_rights_letters)], narrowed := true }
def RightsTextsUptoSaid : Prop := rightsTextsUptoRow.holds Tryd.pinned (OpenSpec.upto rightsTextsSpec)

/-- 'seneschallaw08.RightsLines', WHERE WHAT IT READS IS OF BULK AT MOST 1048576: true; the input reads as it did. -/
def rightsLinesUptoRow : OpenClaim := { program := "ytpnjojkjepblaaadoor", sum := "2ef3dbc497d1305fc98f7687579e7ddce12e0e709ff5d2cf075b1b8ea81e5460", func := "seneschal/seneschallaw08.RightsLines", spec := "rightsLines", named := ["seneschal/rights.letters"], apart := false, laid := [("seneschal/rights.letters", laid_seneschal_rights_letters)], narrowed := true }
def RightsLinesUptoSaid : Prop := rightsLinesUptoRow.holds Tryd.pinned (OpenSpec.upto rightsLinesSpec)

/-- 'seneschallaw08.RightsWithin', WHERE WHAT IT READS IS OF BULK AT MOST 1048576: true; the input reads as it did. -/
def rightsWithinUptoRow : OpenClaim := { program := "ytpnjojkjepblaaadoor", sum := "2ef3dbc497d1305fc98f7687579e7ddce12e0e709ff5d2cf075b1b8ea81e5460", func := "seneschal/seneschallaw08.RightsWithin", spec := "rightsWithin", named := ["seneschal/rights.letters"], apart := false, laid := [("seneschal/rights.letters", laid_seneschal_rights_letters)], narrowed := true }
def RightsWithinUptoSaid : Prop := rightsWithinUptoRow.holds Tryd.pinned (OpenSpec.upto rightsWithinSpec)

/-- 'seneschallaw08.RightsNever', WHERE WHAT IT READS IS OF BULK AT MOST 1048576: true; the input reads as it did. -/
def rightsNeverUptoRow : OpenClaim := { program := "ytpnjojkjepblaaadoor", sum := "2ef3dbc497d1305fc98f7687579e7ddce12e0e709ff5d2cf075b1b8ea81e5460", func := "seneschal/seneschallaw08.RightsNever", spec := "rightsNever", named := ["seneschal/rights.letters"], apart := false, laid := [("seneschal/rights.letters", laid_seneschal_rights_letters)], narrowed := true }
def RightsNeverUptoSaid : Prop := rightsNeverUptoRow.holds Tryd.pinned (OpenSpec.upto rightsNeverSpec)

/-- 'seneschallaw08.RightsOrder', WHERE WHAT IT READS IS OF BULK AT MOST 1048576: true; the input reads as it did. -/
def rightsOrderUptoRow : OpenClaim := { program := "ytpnjojkjepblaaadoor", sum := "2ef3dbc497d1305fc98f7687579e7ddce12e0e709ff5d2cf075b1b8ea81e5460", func := "seneschal/seneschallaw08.RightsOrder", spec := "rightsOrder", named := ["seneschal/rights.letters"], apart := false, laid := [("seneschal/rights.letters", laid_seneschal_rights_letters)], narrowed := true }
def RightsOrderUptoSaid : Prop := rightsOrderUptoRow.holds Tryd.pinned (OpenSpec.upto rightsOrderSpec)

/-- 'seneschallaw08.RightsBack', WHERE WHAT IT READS IS OF BULK AT MOST 1048576: true; the input reads as it did. -/
def rightsBackUptoRow : OpenClaim := { program := "ytpnjojkjepblaaadoor", sum := "2ef3dbc497d1305fc98f7687579e7ddce12e0e709ff5d2cf075b1b8ea81e5460", func := "seneschal/seneschallaw08.RightsBack", spec := "rightsBack", named := ["seneschal/rights.letters"], apart := false, laid := [("seneschal/rights.letters", laid_seneschal_rights_letters)], narrowed := true }
def RightsBackUptoSaid : Prop := rightsBackUptoRow.holds Tryd.pinned (OpenSpec.upto rightsBackSpec)

end Rows
end Go.Proofs.YtpnjojkjepblaaaDoor
