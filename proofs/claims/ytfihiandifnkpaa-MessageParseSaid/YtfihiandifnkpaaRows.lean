/-
  No cell of these rows narrows 'for every input' (looked for: loops, veiled, ifaces, maps, wideKeys, modest, calm, conditions, laid).
  DERIVED. THE GIVEN ROWS OF THIS SEAT. 7 by the template 'for every input the law returns true; each argument reads behind the call as it read before'; 0 by the template 'total and deterministic' (their statements: YtfihiandifnkpaaTotals.lean).
  GIVEN WITH THE SEED: the statements are not yours to turn. If you find one false, say at which input.
  Laid BY PROGRAM, IN A SANDBOX (cutbox-rows.mjs): the forced cells as the released guide's own fill.sh prints them over the translation b68fcf3f6c81974f… (all of the seat's roots in one cut). By AI agents, Wed Nov 11 2026. No macro, syntax, notation, axiom, sorry.
-/
import Derived.Test.YtfihiandifnkpaaChecked
import GoSem.Claim
import GoSem.ClaimJoined
import GoSem.ClaimMapViews
import Derived.JoinedTies
import Derived.KernelRfl
namespace Go.Proofs.Ytfihiandifnkpaa
/- THE CELL 'sum', in the pinned program and in every row, IS THE sha256 OF THE DUMP (.gsa) THAT YtfihiandifnkpaaProg.lean LOADS. Nothing in Lean hashes anything: it is a label: what it is worth is what the hold of that sum in a sandbox is worth. -/
noncomputable def Try.pinned : Pinned := { name := "ytfihiandifnkpaa", sum := "b68fcf3f6c81974f7b83ff60b8b1eb69f78479491ffa070f257e94d0b4e72b13", checked := Try.checked }
namespace Rows
def none {H : Type} : Left H := { results := [], args := [] }

/-- 'seneschallaw20.MessagePrint': WHATEVER THE INPUT: true; the input reads as it did. -/
def messagePrintSpec : ChangeSpec := { name := "messagePrint", fn := fun _ => fun
  | [d] => { results := [.lit (.bool true)], args := [d] }
  | _ => none }
def messagePrintRow : OpenClaim := { program := "ytfihiandifnkpaa", sum := "b68fcf3f6c81974f7b83ff60b8b1eb69f78479491ffa070f257e94d0b4e72b13", func := "seneschal/seneschallaw20.MessagePrint", spec := "messagePrint", unfollowed := true, recurses := true, apart := false }
def MessagePrintSaid : Prop := messagePrintRow.holds Try.pinned (OpenSpec.ofChange messagePrintSpec)

/-- ITS FALSE NEIGHBOUR: 'it returns false'. Refute it at one input. -/
def messagePrintWrong : ChangeSpec := { name := "messagePrint", fn := fun _ => fun
  | [d] => { results := [.lit (.bool false)], args := [d] }
  | _ => none }
def MessagePrintWrongFalsely : Prop := messagePrintRow.holds Try.pinned (OpenSpec.ofChange messagePrintWrong)

/-- 'seneschallaw20.MessageParse': WHATEVER THE INPUT: true; the input reads as it did. -/
def messageParseSpec : ChangeSpec := { name := "messageParse", fn := fun _ => fun
  | [d] => { results := [.lit (.bool true)], args := [d] }
  | _ => none }
def messageParseRow : OpenClaim := { program := "ytfihiandifnkpaa", sum := "b68fcf3f6c81974f7b83ff60b8b1eb69f78479491ffa070f257e94d0b4e72b13", func := "seneschal/seneschallaw20.MessageParse", spec := "messageParse", unfollowed := true, recurses := true, apart := false }
def MessageParseSaid : Prop := messageParseRow.holds Try.pinned (OpenSpec.ofChange messageParseSpec)

/-- ITS FALSE NEIGHBOUR: 'it returns false'. Refute it at one input. -/
def messageParseWrong : ChangeSpec := { name := "messageParse", fn := fun _ => fun
  | [d] => { results := [.lit (.bool false)], args := [d] }
  | _ => none }
def MessageParseWrongFalsely : Prop := messageParseRow.holds Try.pinned (OpenSpec.ofChange messageParseWrong)

/-- 'seneschallaw20.MessageParts': WHATEVER THE INPUT: true; the input reads as it did. -/
def messagePartsSpec : ChangeSpec := { name := "messageParts", fn := fun _ => fun
  | [d1, d2] => { results := [.lit (.bool true)], args := [d1, d2] }
  | _ => none }
def messagePartsRow : OpenClaim := { program := "ytfihiandifnkpaa", sum := "b68fcf3f6c81974f7b83ff60b8b1eb69f78479491ffa070f257e94d0b4e72b13", func := "seneschal/seneschallaw20.MessageParts", spec := "messageParts", unfollowed := true, recurses := true, apart := false }
def MessagePartsSaid : Prop := messagePartsRow.holds Try.pinned (OpenSpec.ofChange messagePartsSpec)

/-- ITS FALSE NEIGHBOUR: 'it returns false'. Refute it at one input. -/
def messagePartsWrong : ChangeSpec := { name := "messageParts", fn := fun _ => fun
  | [d1, d2] => { results := [.lit (.bool false)], args := [d1, d2] }
  | _ => none }
def MessagePartsWrongFalsely : Prop := messagePartsRow.holds Try.pinned (OpenSpec.ofChange messagePartsWrong)

/-- 'seneschallaw20.MessageBack': WHATEVER THE INPUT: true; the input reads as it did. -/
def messageBackSpec : ChangeSpec := { name := "messageBack", fn := fun _ => fun
  | [d1, d2] => { results := [.lit (.bool true)], args := [d1, d2] }
  | _ => none }
def messageBackRow : OpenClaim := { program := "ytfihiandifnkpaa", sum := "b68fcf3f6c81974f7b83ff60b8b1eb69f78479491ffa070f257e94d0b4e72b13", func := "seneschal/seneschallaw20.MessageBack", spec := "messageBack", unfollowed := true, recurses := true, apart := false }
def MessageBackSaid : Prop := messageBackRow.holds Try.pinned (OpenSpec.ofChange messageBackSpec)

/-- ITS FALSE NEIGHBOUR: 'it returns false'. Refute it at one input. -/
def messageBackWrong : ChangeSpec := { name := "messageBack", fn := fun _ => fun
  | [d1, d2] => { results := [.lit (.bool false)], args := [d1, d2] }
  | _ => none }
def MessageBackWrongFalsely : Prop := messageBackRow.holds Try.pinned (OpenSpec.ofChange messageBackWrong)

/-- 'seneschallaw20.MessageCut': WHATEVER THE INPUT: true; the input reads as it did. -/
def messageCutSpec : ChangeSpec := { name := "messageCut", fn := fun _ => fun
  | [d1, d2, d3] => { results := [.lit (.bool true)], args := [d1, d2, d3] }
  | _ => none }
def messageCutRow : OpenClaim := { program := "ytfihiandifnkpaa", sum := "b68fcf3f6c81974f7b83ff60b8b1eb69f78479491ffa070f257e94d0b4e72b13", func := "seneschal/seneschallaw20.MessageCut", spec := "messageCut", unfollowed := true, recurses := true, apart := false }
def MessageCutSaid : Prop := messageCutRow.holds Try.pinned (OpenSpec.ofChange messageCutSpec)

/-- ITS FALSE NEIGHBOUR: 'it returns false'. Refute it at one input. -/
def messageCutWrong : ChangeSpec := { name := "messageCut", fn := fun _ => fun
  | [d1, d2, d3] => { results := [.lit (.bool false)], args := [d1, d2, d3] }
  | _ => none }
def MessageCutWrongFalsely : Prop := messageCutRow.holds Try.pinned (OpenSpec.ofChange messageCutWrong)

/-- 'seneschallaw20.MessageRow': WHATEVER THE INPUT: true; the input reads as it did. -/
def messageRowSpec : ChangeSpec := { name := "messageRow", fn := fun _ => fun
  | [d1, d2, d3] => { results := [.lit (.bool true)], args := [d1, d2, d3] }
  | _ => none }
def messageRowRow : OpenClaim := { program := "ytfihiandifnkpaa", sum := "b68fcf3f6c81974f7b83ff60b8b1eb69f78479491ffa070f257e94d0b4e72b13", func := "seneschal/seneschallaw20.MessageRow", spec := "messageRow", unfollowed := true, recurses := true, apart := false }
def MessageRowSaid : Prop := messageRowRow.holds Try.pinned (OpenSpec.ofChange messageRowSpec)

/-- ITS FALSE NEIGHBOUR: 'it returns false'. Refute it at one input. -/
def messageRowWrong : ChangeSpec := { name := "messageRow", fn := fun _ => fun
  | [d1, d2, d3] => { results := [.lit (.bool false)], args := [d1, d2, d3] }
  | _ => none }
def MessageRowWrongFalsely : Prop := messageRowRow.holds Try.pinned (OpenSpec.ofChange messageRowWrong)

/-- 'seneschallaw20.MessageParted': WHATEVER THE INPUT: true; the input reads as it did. -/
def messagePartedSpec : ChangeSpec := { name := "messageParted", fn := fun _ => fun
  | [d1, d2] => { results := [.lit (.bool true)], args := [d1, d2] }
  | _ => none }
def messagePartedRow : OpenClaim := { program := "ytfihiandifnkpaa", sum := "b68fcf3f6c81974f7b83ff60b8b1eb69f78479491ffa070f257e94d0b4e72b13", func := "seneschal/seneschallaw20.MessageParted", spec := "messageParted", unfollowed := true, recurses := true, apart := false }
def MessagePartedSaid : Prop := messagePartedRow.holds Try.pinned (OpenSpec.ofChange messagePartedSpec)

/-- ITS FALSE NEIGHBOUR: 'it returns false'. Refute it at one input. -/
def messagePartedWrong : ChangeSpec := { name := "messageParted", fn := fun _ => fun
  | [d1, d2] => { results := [.lit (.bool false)], args := [d1, d2] }
  | _ => none }
def MessagePartedWrongFalsely : Prop := messagePartedRow.holds Try.pinned (OpenSpec.ofChange messagePartedWrong)

/- THE SECOND FORM. 'bulk': how many values and letters a reading holds, each counted each time it is reached (what is shared counts as often as it is met; a slice's spare places count too). A statement '..UptoSaid' is the law's where the arguments, and the package variables that the reading takes, are together of bulk at most 1048576: NARROWER than '..Said'. Prove '..Said' where nothing that the law and all that it calls make is longer than what came in: it says more and counts as full. Else prove '..UptoSaid'. A law counts once. -/
mutual
def uptoBulk {H : Type} : DataW H → Nat
  | .lit (.string bytes) => bytes.length + 1
  | .lit _ => 1
  | .nil => 1
  | .ptr d => uptoBulk d + 1
  | .slice elems spare => uptoBulkAll elems + uptoBulkAll spare + 1
  | .agg parts => uptoBulkAll parts + 1
  | .iface _ d => uptoBulk d + 1
  | .map entries => uptoBulkEntries entries + 1
  | .held _ => 1
def uptoBulkAll {H : Type} : List (DataW H) → Nat
  | [] => 0
  | d :: r => uptoBulk d + uptoBulkAll r
def uptoBulkEntries {H : Type} : List (Lit × DataW H) → Nat
  | [] => 0
  | x :: r => uptoBulkEntry x + uptoBulkEntries r
def uptoBulkEntry {H : Type} : Lit × DataW H → Nat
  | (.string bytes, d) => bytes.length + uptoBulk d + 1
  | (_, d) => uptoBulk d + 1
 end
def uptoSmall : (H : Type) → List (DataW H) → Bool := fun _ ds => decide (uptoBulkAll ds ≤ 1048576)
def OpenSpec.upto (s : _root_.Go.ChangeSpec) : _root_.Go.OpenSpec := { _root_.Go.OpenSpec.ofChange s with cond := some uptoSmall }

/-- 'seneschallaw20.MessagePrint', WHERE WHAT IT READS IS OF BULK AT MOST 1048576: true; the input reads as it did. -/
def messagePrintUptoRow : OpenClaim := { program := "ytfihiandifnkpaa", sum := "b68fcf3f6c81974f7b83ff60b8b1eb69f78479491ffa070f257e94d0b4e72b13", func := "seneschal/seneschallaw20.MessagePrint", spec := "messagePrint", unfollowed := true, recurses := true, apart := false, narrowed := true }
def MessagePrintUptoSaid : Prop := messagePrintUptoRow.holds Try.pinned (OpenSpec.upto messagePrintSpec)

/-- 'seneschallaw20.MessageParse', WHERE WHAT IT READS IS OF BULK AT MOST 1048576: true; the input reads as it did. -/
def messageParseUptoRow : OpenClaim := { program := "ytfihiandifnkpaa", sum := "b68fcf3f6c81974f7b83ff60b8b1eb69f78479491ffa070f257e94d0b4e72b13", func := "seneschal/seneschallaw20.MessageParse", spec := "messageParse", unfollowed := true, recurses := true, apart := false, narrowed := true }
def MessageParseUptoSaid : Prop := messageParseUptoRow.holds Try.pinned (OpenSpec.upto messageParseSpec)

/-- 'seneschallaw20.MessageParts', WHERE WHAT IT READS IS OF BULK AT MOST 1048576: true; the input reads as it did. -/
def messagePartsUptoRow : OpenClaim := { program := "ytfihiandifnkpaa", sum := "b68fcf3f6c81974f7b83ff60b8b1eb69f78479491ffa070f257e94d0b4e72b13", func := "seneschal/seneschallaw20.MessageParts", spec := "messageParts", unfollowed := true, recurses := true, apart := false, narrowed := true }
def MessagePartsUptoSaid : Prop := messagePartsUptoRow.holds Try.pinned (OpenSpec.upto messagePartsSpec)

/-- 'seneschallaw20.MessageBack', WHERE WHAT IT READS IS OF BULK AT MOST 1048576: true; the input reads as it did. -/
def messageBackUptoRow : OpenClaim := { program := "ytfihiandifnkpaa", sum := "b68fcf3f6c81974f7b83ff60b8b1eb69f78479491ffa070f257e94d0b4e72b13", func := "seneschal/seneschallaw20.MessageBack", spec := "messageBack", unfollowed := true, recurses := true, apart := false, narrowed := true }
def MessageBackUptoSaid : Prop := messageBackUptoRow.holds Try.pinned (OpenSpec.upto messageBackSpec)

/-- 'seneschallaw20.MessageCut', WHERE WHAT IT READS IS OF BULK AT MOST 1048576: true; the input reads as it did. -/
def messageCutUptoRow : OpenClaim := { program := "ytfihiandifnkpaa", sum := "b68fcf3f6c81974f7b83ff60b8b1eb69f78479491ffa070f257e94d0b4e72b13", func := "seneschal/seneschallaw20.MessageCut", spec := "messageCut", unfollowed := true, recurses := true, apart := false, narrowed := true }
def MessageCutUptoSaid : Prop := messageCutUptoRow.holds Try.pinned (OpenSpec.upto messageCutSpec)

/-- 'seneschallaw20.MessageRow', WHERE WHAT IT READS IS OF BULK AT MOST 1048576: true; the input reads as it did. -/
def messageRowUptoRow : OpenClaim := { program := "ytfihiandifnkpaa", sum := "b68fcf3f6c81974f7b83ff60b8b1eb69f78479491ffa070f257e94d0b4e72b13", func := "seneschal/seneschallaw20.MessageRow", spec := "messageRow", unfollowed := true, recurses := true, apart := false, narrowed := true }
def MessageRowUptoSaid : Prop := messageRowUptoRow.holds Try.pinned (OpenSpec.upto messageRowSpec)

/-- 'seneschallaw20.MessageParted', WHERE WHAT IT READS IS OF BULK AT MOST 1048576: true; the input reads as it did. -/
def messagePartedUptoRow : OpenClaim := { program := "ytfihiandifnkpaa", sum := "b68fcf3f6c81974f7b83ff60b8b1eb69f78479491ffa070f257e94d0b4e72b13", func := "seneschal/seneschallaw20.MessageParted", spec := "messageParted", unfollowed := true, recurses := true, apart := false, narrowed := true }
def MessagePartedUptoSaid : Prop := messagePartedUptoRow.holds Try.pinned (OpenSpec.upto messagePartedSpec)

end Rows
end Go.Proofs.Ytfihiandifnkpaa
