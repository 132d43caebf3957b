/-
  No cell of these rows narrows 'for every input' (looked for: loops, veiled, ifaces, maps, wideKeys, modest, calm, conditions, laid).
  DERIVED. THE GIVEN ROWS OF THIS SEAT. 5 by the template 'for every input the law returns true; each argument reads behind the call as it read before'; 0 by the template 'total and deterministic' (their statements: YtpodpbhbagkblaaTotals.lean).
  GIVEN WITH THE SEED: the statements are not yours to turn. If you find one false, say at which input.
  Laid BY PROGRAM, IN A SANDBOX (cutbox-rows.mjs): the forced cells as the released guide's own fill.sh prints them over the translation a890c9abd8862f5f… (all of the seat's roots in one cut). By AI agents, Wed Nov 11 2026. No macro, syntax, notation, axiom, sorry.
-/
import Derived.Test.YtpodpbhbagkblaaChecked
import GoSem.Claim
import GoSem.ClaimJoined
import GoSem.ClaimMapViews
import Derived.JoinedTies
import Derived.KernelRfl
namespace Go.Proofs.Ytpodpbhbagkblaa
/- THE CELL 'sum', in the pinned program and in every row, IS THE sha256 OF THE DUMP (.gsa) THAT YtpodpbhbagkblaaProg.lean LOADS. Nothing in Lean hashes anything: it is a label: what it is worth is what the hold of that sum in a sandbox is worth. -/
noncomputable def Try.pinned : Pinned := { name := "ytpodpbhbagkblaa", sum := "a890c9abd8862f5fcfad34fc58897ea5a0d5ad8d51c64a0b72483d5739127dbc", checked := Try.checked }
namespace Rows
def none {H : Type} : Left H := { results := [], args := [] }

/-- 'seneschallaw12.QuotaPuts': WHATEVER THE INPUT: true; the input reads as it did. -/
def quotaPutsSpec : ChangeSpec := { name := "quotaPuts", fn := fun _ => fun
  | [d1, d2, d3] => { results := [.lit (.bool true)], args := [d1, d2, d3] }
  | _ => none }
def quotaPutsRow : OpenClaim := { program := "ytpodpbhbagkblaa", sum := "a890c9abd8862f5fcfad34fc58897ea5a0d5ad8d51c64a0b72483d5739127dbc", func := "seneschal/seneschallaw12.QuotaPuts", spec := "quotaPuts", inPlace := ["slices.overlaps[seneschal/quota.Share]"], unfollowed := true, recurses := true, apart := false }
def QuotaPutsSaid : Prop := quotaPutsRow.holds Try.pinned (OpenSpec.ofChange quotaPutsSpec)

/-- ITS FALSE NEIGHBOUR: 'it returns false'. Refute it at one input. -/
def quotaPutsWrong : ChangeSpec := { name := "quotaPuts", fn := fun _ => fun
  | [d1, d2, d3] => { results := [.lit (.bool false)], args := [d1, d2, d3] }
  | _ => none }
def QuotaPutsWrongFalsely : Prop := quotaPutsRow.holds Try.pinned (OpenSpec.ofChange quotaPutsWrong)

/-- 'seneschallaw12.QuotaTells': WHATEVER THE INPUT: true; the input reads as it did. -/
def quotaTellsSpec : ChangeSpec := { name := "quotaTells", fn := fun _ => fun
  | [d1, d2] => { results := [.lit (.bool true)], args := [d1, d2] }
  | _ => none }
def quotaTellsRow : OpenClaim := { program := "ytpodpbhbagkblaa", sum := "a890c9abd8862f5fcfad34fc58897ea5a0d5ad8d51c64a0b72483d5739127dbc", func := "seneschal/seneschallaw12.QuotaTells", spec := "quotaTells", inPlace := ["slices.overlaps[seneschal/quota.Share]"], unfollowed := true, recurses := true, apart := false }
def QuotaTellsSaid : Prop := quotaTellsRow.holds Try.pinned (OpenSpec.ofChange quotaTellsSpec)

/-- ITS FALSE NEIGHBOUR: 'it returns false'. Refute it at one input. -/
def quotaTellsWrong : ChangeSpec := { name := "quotaTells", fn := fun _ => fun
  | [d1, d2] => { results := [.lit (.bool false)], args := [d1, d2] }
  | _ => none }
def QuotaTellsWrongFalsely : Prop := quotaTellsRow.holds Try.pinned (OpenSpec.ofChange quotaTellsWrong)

/-- 'seneschallaw12.QuotaOthers': WHATEVER THE INPUT: true; the input reads as it did. -/
def quotaOthersSpec : ChangeSpec := { name := "quotaOthers", fn := fun _ => fun
  | [d1, d2, d3] => { results := [.lit (.bool true)], args := [d1, d2, d3] }
  | _ => none }
def quotaOthersRow : OpenClaim := { program := "ytpodpbhbagkblaa", sum := "a890c9abd8862f5fcfad34fc58897ea5a0d5ad8d51c64a0b72483d5739127dbc", func := "seneschal/seneschallaw12.QuotaOthers", spec := "quotaOthers", inPlace := ["slices.overlaps[seneschal/quota.Share]"], unfollowed := true, recurses := true, apart := false }
def QuotaOthersSaid : Prop := quotaOthersRow.holds Try.pinned (OpenSpec.ofChange quotaOthersSpec)

/-- ITS FALSE NEIGHBOUR: 'it returns false'. Refute it at one input. -/
def quotaOthersWrong : ChangeSpec := { name := "quotaOthers", fn := fun _ => fun
  | [d1, d2, d3] => { results := [.lit (.bool false)], args := [d1, d2, d3] }
  | _ => none }
def QuotaOthersWrongFalsely : Prop := quotaOthersRow.holds Try.pinned (OpenSpec.ofChange quotaOthersWrong)

/-- 'seneschallaw12.QuotaEnough': WHATEVER THE INPUT: true; the input reads as it did. -/
def quotaEnoughSpec : ChangeSpec := { name := "quotaEnough", fn := fun _ => fun
  | [d1, d2, d3, d4] => { results := [.lit (.bool true)], args := [d1, d2, d3, d4] }
  | _ => none }
def quotaEnoughRow : OpenClaim := { program := "ytpodpbhbagkblaa", sum := "a890c9abd8862f5fcfad34fc58897ea5a0d5ad8d51c64a0b72483d5739127dbc", func := "seneschal/seneschallaw12.QuotaEnough", spec := "quotaEnough", inPlace := ["slices.overlaps[seneschal/quota.Share]"], unfollowed := true, recurses := true, apart := false }
def QuotaEnoughSaid : Prop := quotaEnoughRow.holds Try.pinned (OpenSpec.ofChange quotaEnoughSpec)

/-- ITS FALSE NEIGHBOUR: 'it returns false'. Refute it at one input. -/
def quotaEnoughWrong : ChangeSpec := { name := "quotaEnough", fn := fun _ => fun
  | [d1, d2, d3, d4] => { results := [.lit (.bool false)], args := [d1, d2, d3, d4] }
  | _ => none }
def QuotaEnoughWrongFalsely : Prop := quotaEnoughRow.holds Try.pinned (OpenSpec.ofChange quotaEnoughWrong)

/-- 'seneschallaw12.QuotaBack': WHATEVER THE INPUT: true; the input reads as it did. -/
def quotaBackSpec : ChangeSpec := { name := "quotaBack", fn := fun _ => fun
  | [d1, d2, d3, d4] => { results := [.lit (.bool true)], args := [d1, d2, d3, d4] }
  | _ => none }
def quotaBackRow : OpenClaim := { program := "ytpodpbhbagkblaa", sum := "a890c9abd8862f5fcfad34fc58897ea5a0d5ad8d51c64a0b72483d5739127dbc", func := "seneschal/seneschallaw12.QuotaBack", spec := "quotaBack", inPlace := ["slices.overlaps[seneschal/quota.Share]"], unfollowed := true, recurses := true, apart := false }
def QuotaBackSaid : Prop := quotaBackRow.holds Try.pinned (OpenSpec.ofChange quotaBackSpec)

/-- ITS FALSE NEIGHBOUR: 'it returns false'. Refute it at one input. -/
def quotaBackWrong : ChangeSpec := { name := "quotaBack", fn := fun _ => fun
  | [d1, d2, d3, d4] => { results := [.lit (.bool false)], args := [d1, d2, d3, d4] }
  | _ => none }
def QuotaBackWrongFalsely : Prop := quotaBackRow.holds Try.pinned (OpenSpec.ofChange quotaBackWrong)

/- THE SECOND FORM. 'bulk': how many values and letters a reading holds, each counted each time it is reached (what is shared counts as often as it is met; a slice's spare places count too). A statement '..UptoSaid' is the law's where the arguments, and the package variables that the reading takes, are together of bulk at most 1048576: NARROWER than '..Said'. Prove '..Said' where nothing that the law and all that it calls make is longer than what came in: it says more and counts as full. Else prove '..UptoSaid'. A law counts once. -/
mutual
def uptoBulk {H : Type} : DataW H → Nat
  | .lit (.string bytes) => bytes.length + 1
  | .lit _ => 1
  | .nil => 1
  | .ptr d => uptoBulk d + 1
  | .slice elems spare => uptoBulkAll elems + uptoBulkAll spare + 1
  | .agg parts => uptoBulkAll parts + 1
  | .iface _ d => uptoBulk d + 1
  | .map entries => uptoBulkEntries entries + 1
  | .held _ => 1
def uptoBulkAll {H : Type} : List (DataW H) → Nat
  | [] => 0
  | d :: r => uptoBulk d + uptoBulkAll r
def uptoBulkEntries {H : Type} : List (Lit × DataW H) → Nat
  | [] => 0
  | x :: r => uptoBulkEntry x + uptoBulkEntries r
def uptoBulkEntry {H : Type} : Lit × DataW H → Nat
  | (.string bytes, d) => bytes.length + uptoBulk d + 1
  | (_, d) => uptoBulk d + 1
 end
def uptoSmall : (H : Type) → List (DataW H) → Bool := fun _ ds => decide (uptoBulkAll ds ≤ 1048576)
def OpenSpec.upto (s : _root_.Go.ChangeSpec) : _root_.Go.OpenSpec := { _root_.Go.OpenSpec.ofChange s with cond := some uptoSmall }

/-- 'seneschallaw12.QuotaPuts', WHERE WHAT IT READS IS OF BULK AT MOST 1048576: true; the input reads as it did. -/
def quotaPutsUptoRow : OpenClaim := { program := "ytpodpbhbagkblaa", sum := "a890c9abd8862f5fcfad34fc58897ea5a0d5ad8d51c64a0b72483d5739127dbc", func := "seneschal/seneschallaw12.QuotaPuts", spec := "quotaPuts", inPlace := ["slices.overlaps[seneschal/quota.Share]"], unfollowed := true, recurses := true, apart := false, narrowed := true }
def QuotaPutsUptoSaid : Prop := quotaPutsUptoRow.holds Try.pinned (OpenSpec.upto quotaPutsSpec)

/-- 'seneschallaw12.QuotaTells', WHERE WHAT IT READS IS OF BULK AT MOST 1048576: true; the input reads as it did. -/
def quotaTellsUptoRow : OpenClaim := { program := "ytpodpbhbagkblaa", sum := "a890c9abd8862f5fcfad34fc58897ea5a0d5ad8d51c64a0b72483d5739127dbc", func := "seneschal/seneschallaw12.QuotaTells", spec := "quotaTells", inPlace := ["slices.overlaps[seneschal/quota.Share]"], unfollowed := true, recurses := true, apart := false, narrowed := true }
def QuotaTellsUptoSaid : Prop := quotaTellsUptoRow.holds Try.pinned (OpenSpec.upto quotaTellsSpec)

/-- 'seneschallaw12.QuotaOthers', WHERE WHAT IT READS IS OF BULK AT MOST 1048576: true; the input reads as it did. -/
def quotaOthersUptoRow : OpenClaim := { program := "ytpodpbhbagkblaa", sum := "a890c9abd8862f5fcfad34fc58897ea5a0d5ad8d51c64a0b72483d5739127dbc", func := "seneschal/seneschallaw12.QuotaOthers", spec := "quotaOthers", inPlace := ["slices.overlaps[seneschal/quota.Share]"], unfollowed := true, recurses := true, apart := false, narrowed := true }
def QuotaOthersUptoSaid : Prop := quotaOthersUptoRow.holds Try.pinned (OpenSpec.upto quotaOthersSpec)

/-- 'seneschallaw12.QuotaEnough', WHERE WHAT IT READS IS OF BULK AT MOST 1048576: true; the input reads as it did. -/
def quotaEnoughUptoRow : OpenClaim := { program := "ytpodpbhbagkblaa", sum := "a890c9abd8862f5fcfad34fc58897ea5a0d5ad8d51c64a0b72483d5739127dbc", func := "seneschal/seneschallaw12.QuotaEnough", spec := "quotaEnough", inPlace := ["slices.overlaps[seneschal/quota.Share]"], unfollowed := true, recurses := true, apart := false, narrowed := true }
def QuotaEnoughUptoSaid : Prop := quotaEnoughUptoRow.holds Try.pinned (OpenSpec.upto quotaEnoughSpec)

/-- 'seneschallaw12.QuotaBack', WHERE WHAT IT READS IS OF BULK AT MOST 1048576: true; the input reads as it did. -/
def quotaBackUptoRow : OpenClaim := { program := "ytpodpbhbagkblaa", sum := "a890c9abd8862f5fcfad34fc58897ea5a0d5ad8d51c64a0b72483d5739127dbc", func := "seneschal/seneschallaw12.QuotaBack", spec := "quotaBack", inPlace := ["slices.overlaps[seneschal/quota.Share]"], unfollowed := true, recurses := true, apart := false, narrowed := true }
def QuotaBackUptoSaid : Prop := quotaBackUptoRow.holds Try.pinned (OpenSpec.upto quotaBackSpec)

end Rows
end Go.Proofs.Ytpodpbhbagkblaa
