/-
  NARROWER THAN 'FOR EVERY INPUT', by the rows' own cells (each row's printed sentence says how): FrameSeal: laid · FrameNext: laid · FrameAll: laid · FrameLimits: laid · FrameBack: laid · FrameBehind: laid.
  DERIVED. THE GIVEN ROWS OF THIS SEAT. 6 by the template 'for every input the law returns true; each argument reads behind the call as it read before'; 0 by the template 'total and deterministic' (their statements: YtcihbkdpkhhhcaaDoorTotals.lean).
  GIVEN WITH THE SEED: the statements are not yours to turn. If you find one false, say at which input.
  Laid BY PROGRAM, IN A SANDBOX (cutbox-rows.mjs): the forced cells as the released guide's own fill.sh prints them over the translation d54db503ef0e3bec… (all of the seat's roots in one cut). By AI agents, Wed Nov 11 2026. No macro, syntax, notation, axiom, sorry.
-/
import Derived.Test.YtcihbkdpkhhhcaaDoorChecked
import GoSem.Claim
import GoSem.ClaimJoined
import GoSem.ClaimMapViews
import Derived.JoinedTies
import Derived.KernelRfl
namespace Go.Proofs.YtcihbkdpkhhhcaaDoor
/- THE CELL 'sum', in the pinned program and in every row, IS THE sha256 OF THE DUMP (.gsa) THAT YtcihbkdpkhhhcaaDoorProg.lean LOADS. Nothing in Lean hashes anything: it is a label: what it is worth is what the hold of that sum in a sandbox is worth. -/
noncomputable def Tryd.pinned : Pinned := { name := "ytcihbkdpkhhhcaadoor", sum := "d54db503ef0e3becce8a0b68d578b7f0213b6feb612ce736ee3d5060b075b59b", checked := Tryd.checked }
namespace Rows
def none {H : Type} : Left H := { results := [], args := [] }

/- WHAT THE LISTED PACKAGE-LEVEL VARIABLES READ AS WHEN THE CALL BEGINS. Each datum BY PROGRAM (the guide's laid-datum.mjs) off the statement by which the dump's own 'gosem.cut.vars' lays the variable. In a bare row this is a premise. The card (YtcihbkdpkhhhcaaDoorCards.lean) ties it to the program's text. -/
def laid_seneschal_sha_first {H : Type} : DataW H := .agg [.lit (.int .u32 1779033703), .lit (.int .u32 3144134277), .lit (.int .u32 1013904242), .lit (.int .u32 2773480762), .lit (.int .u32 1359893119), .lit (.int .u32 2600822924), .lit (.int .u32 528734635), .lit (.int .u32 1541459225)]
def laid_seneschal_sha_constants {H : Type} : DataW H := .agg [.lit (.int .u32 1116352408), .lit (.int .u32 1899447441), .lit (.int .u32 3049323471), .lit (.int .u32 3921009573), .lit (.int .u32 961987163), .lit (.int .u32 1508970993), .lit (.int .u32 2453635748), .lit (.int .u32 2870763221), .lit (.int .u32 3624381080), .lit (.int .u32 310598401), .lit (.int .u32 607225278), .lit (.int .u32 1426881987), .lit (.int .u32 1925078388), .lit (.int .u32 2162078206), .lit (.int .u32 2614888103), .lit (.int .u32 3248222580), .lit (.int .u32 3835390401), .lit (.int .u32 4022224774), .lit (.int .u32 264347078), .lit (.int .u32 604807628), .lit (.int .u32 770255983), .lit (.int .u32 1249150122), .lit (.int .u32 1555081692), .lit (.int .u32 1996064986), .lit (.int .u32 2554220882), .lit (.int .u32 2821834349), .lit (.int .u32 2952996808), .lit (.int .u32 3210313671), .lit (.int .u32 3336571891), .lit (.int .u32 3584528711), .lit (.int .u32 113926993), .lit (.int .u32 338241895), .lit (.int .u32 666307205), .lit (.int .u32 773529912), .lit (.int .u32 1294757372), .lit (.int .u32 1396182291), .lit (.int .u32 1695183700), .lit (.int .u32 1986661051), .lit (.int .u32 2177026350), .lit (.int .u32 2456956037), .lit (.int .u32 2730485921), .lit (.int .u32 2820302411), .lit (.int .u32 3259730800), .lit (.int .u32 3345764771), .lit (.int .u32 3516065817), .lit (.int .u32 3600352804), .lit (.int .u32 4094571909), .lit (.int .u32 275423344), .lit (.int .u32 430227734), .lit (.int .u32 506948616), .lit (.int .u32 659060556), .lit (.int .u32 883997877), .lit (.int .u32 958139571), .lit (.int .u32 1322822218), .lit (.int .u32 1537002063), .lit (.int .u32 1747873779), .lit (.int .u32 1955562222), .lit (.int .u32 2024104815), .lit (.int .u32 2227730452), .lit (.int .u32 2361852424), .lit (.int .u32 2428436474), .lit (.int .u32 2756734187), .lit (.int .u32 3204031479), .lit (.int .u32 3329325298)]

/-- 'seneschallaw05.FrameSeal': WHATEVER THE INPUT: true; the input reads as it did. -/
def frameSealSpec : ChangeSpec := { name := "frameSeal", fn := fun _ => fun
  | [d] => { results := [.lit (.bool true)], args := [d] }
  | _ => none }
def frameSealRow : OpenClaim := { program := "ytcihbkdpkhhhcaadoor", sum := "d54db503ef0e3becce8a0b68d578b7f0213b6feb612ce736ee3d5060b075b59b", func := "seneschal/seneschallaw05.FrameSeal", spec := "frameSeal", unfollowed := true, recurses := true, named := ["seneschal/sha.first", "seneschal/sha.constants"], apart := false, laid := [("seneschal/sha.first", laid_seneschal_sha_first), ("seneschal/sha.constants", laid_seneschal_sha_constants)] }
def FrameSealSaid : Prop := frameSealRow.holds Tryd.pinned (OpenSpec.ofChange frameSealSpec)

/-- ITS FALSE NEIGHBOUR: 'it returns false'. Refute it at one input. -/
def frameSealWrong : ChangeSpec := { name := "frameSeal", fn := fun _ => fun
  | [d] => { results := [.lit (.bool false)], args := [d] }
  | _ => none }
def FrameSealWrongFalsely : Prop := frameSealRow.holds Tryd.pinned (OpenSpec.ofChange frameSealWrong)

/-- 'seneschallaw05.FrameNext': WHATEVER THE INPUT: true; the input reads as it did. -/
def frameNextSpec : ChangeSpec := { name := "frameNext", fn := fun _ => fun
  | [d] => { results := [.lit (.bool true)], args := [d] }
  | _ => none }
def frameNextRow : OpenClaim := { program := "ytcihbkdpkhhhcaadoor", sum := "d54db503ef0e3becce8a0b68d578b7f0213b6feb612ce736ee3d5060b075b59b", func := "seneschal/seneschallaw05.FrameNext", spec := "frameNext", unfollowed := true, recurses := true, named := ["seneschal/sha.first", "seneschal/sha.constants"], apart := false, laid := [("seneschal/sha.first", laid_seneschal_sha_first), ("seneschal/sha.constants", laid_seneschal_sha_constants)] }
def FrameNextSaid : Prop := frameNextRow.holds Tryd.pinned (OpenSpec.ofChange frameNextSpec)

/-- ITS FALSE NEIGHBOUR: 'it returns false'. Refute it at one input. -/
def frameNextWrong : ChangeSpec := { name := "frameNext", fn := fun _ => fun
  | [d] => { results := [.lit (.bool false)], args := [d] }
  | _ => none }
def FrameNextWrongFalsely : Prop := frameNextRow.holds Tryd.pinned (OpenSpec.ofChange frameNextWrong)

/-- 'seneschallaw05.FrameAll': WHATEVER THE INPUT: true; the input reads as it did. -/
def frameAllSpec : ChangeSpec := { name := "frameAll", fn := fun _ => fun
  | [d] => { results := [.lit (.bool true)], args := [d] }
  | _ => none }
def frameAllRow : OpenClaim := { program := "ytcihbkdpkhhhcaadoor", sum := "d54db503ef0e3becce8a0b68d578b7f0213b6feb612ce736ee3d5060b075b59b", func := "seneschal/seneschallaw05.FrameAll", spec := "frameAll", unfollowed := true, recurses := true, named := ["seneschal/sha.first", "seneschal/sha.constants"], apart := false, laid := [("seneschal/sha.first", laid_seneschal_sha_first), ("seneschal/sha.constants", laid_seneschal_sha_constants)] }
def FrameAllSaid : Prop := frameAllRow.holds Tryd.pinned (OpenSpec.ofChange frameAllSpec)

/-- ITS FALSE NEIGHBOUR: 'it returns false'. Refute it at one input. -/
def frameAllWrong : ChangeSpec := { name := "frameAll", fn := fun _ => fun
  | [d] => { results := [.lit (.bool false)], args := [d] }
  | _ => none }
def FrameAllWrongFalsely : Prop := frameAllRow.holds Tryd.pinned (OpenSpec.ofChange frameAllWrong)

/-- 'seneschallaw05.FrameLimits': WHATEVER THE INPUT: true; the input reads as it did. -/
def frameLimitsSpec : ChangeSpec := { name := "frameLimits", fn := fun _ => fun
  | [d] => { results := [.lit (.bool true)], args := [d] }
  | _ => none }
def frameLimitsRow : OpenClaim := { program := "ytcihbkdpkhhhcaadoor", sum := "d54db503ef0e3becce8a0b68d578b7f0213b6feb612ce736ee3d5060b075b59b", func := "seneschal/seneschallaw05.FrameLimits", spec := "frameLimits", unfollowed := true, recurses := true, named := ["seneschal/sha.first", "seneschal/sha.constants"], apart := false, laid := [("seneschal/sha.first", laid_seneschal_sha_first), ("seneschal/sha.constants", laid_seneschal_sha_constants)] }
def FrameLimitsSaid : Prop := frameLimitsRow.holds Tryd.pinned (OpenSpec.ofChange frameLimitsSpec)

/-- ITS FALSE NEIGHBOUR: 'it returns false'. Refute it at one input. -/
def frameLimitsWrong : ChangeSpec := { name := "frameLimits", fn := fun _ => fun
  | [d] => { results := [.lit (.bool false)], args := [d] }
  | _ => none }
def FrameLimitsWrongFalsely : Prop := frameLimitsRow.holds Tryd.pinned (OpenSpec.ofChange frameLimitsWrong)

/-- 'seneschallaw05.FrameBack': WHATEVER THE INPUT: true; the input reads as it did. -/
def frameBackSpec : ChangeSpec := { name := "frameBack", fn := fun _ => fun
  | [d1, d2] => { results := [.lit (.bool true)], args := [d1, d2] }
  | _ => none }
def frameBackRow : OpenClaim := { program := "ytcihbkdpkhhhcaadoor", sum := "d54db503ef0e3becce8a0b68d578b7f0213b6feb612ce736ee3d5060b075b59b", func := "seneschal/seneschallaw05.FrameBack", spec := "frameBack", unfollowed := true, recurses := true, named := ["seneschal/sha.first", "seneschal/sha.constants"], apart := false, laid := [("seneschal/sha.first", laid_seneschal_sha_first), ("seneschal/sha.constants", laid_seneschal_sha_constants)] }
def FrameBackSaid : Prop := frameBackRow.holds Tryd.pinned (OpenSpec.ofChange frameBackSpec)

/-- ITS FALSE NEIGHBOUR: 'it returns false'. Refute it at one input. -/
def frameBackWrong : ChangeSpec := { name := "frameBack", fn := fun _ => fun
  | [d1, d2] => { results := [.lit (.bool false)], args := [d1, d2] }
  | _ => none }
def FrameBackWrongFalsely : Prop := frameBackRow.holds Tryd.pinned (OpenSpec.ofChange frameBackWrong)

/-- 'seneschallaw05.FrameBehind': WHATEVER THE INPUT: true; the input reads as it did. -/
def frameBehindSpec : ChangeSpec := { name := "frameBehind", fn := fun _ => fun
  | [d1, d2] => { results := [.lit (.bool true)], args := [d1, d2] }
  | _ => none }
def frameBehindRow : OpenClaim := { program := "ytcihbkdpkhhhcaadoor", sum := "d54db503ef0e3becce8a0b68d578b7f0213b6feb612ce736ee3d5060b075b59b", func := "seneschal/seneschallaw05.FrameBehind", spec := "frameBehind", unfollowed := true, recurses := true, named := ["seneschal/sha.first", "seneschal/sha.constants"], apart := false, laid := [("seneschal/sha.first", laid_seneschal_sha_first), ("seneschal/sha.constants", laid_seneschal_sha_constants)] }
def FrameBehindSaid : Prop := frameBehindRow.holds Tryd.pinned (OpenSpec.ofChange frameBehindSpec)

/-- ITS FALSE NEIGHBOUR: 'it returns false'. Refute it at one input. -/
def frameBehindWrong : ChangeSpec := { name := "frameBehind", fn := fun _ => fun
  | [d1, d2] => { results := [.lit (.bool false)], args := [d1, d2] }
  | _ => none }
def FrameBehindWrongFalsely : Prop := frameBehindRow.holds Tryd.pinned (OpenSpec.ofChange frameBehindWrong)

/- THE SECOND FORM. 'bulk': how many values and letters a reading holds, each counted each time it is reached (what is shared counts as often as it is met; a slice's spare places count too). A statement '..UptoSaid' is the law's where the arguments, and the package variables that the reading takes, are together of bulk at most 1048576: NARROWER than '..Said'. Prove '..Said' where nothing that the law and all that it calls make is longer than what came in: it says more and counts as full. Else prove '..UptoSaid'. A law counts once. -/
mutual
def uptoBulk {H : Type} : DataW H → Nat
  | .lit (.string bytes) => bytes.length + 1
  | .lit _ => 1
  | .nil => 1
  | .ptr d => uptoBulk d + 1
  | .slice elems spare => uptoBulkAll elems + uptoBulkAll spare + 1
  | .agg parts => uptoBulkAll parts + 1
  | .iface _ d => uptoBulk d + 1
  | .map entries => uptoBulkEntries entries + 1
  | .held _ => 1
def uptoBulkAll {H : Type} : List (DataW H) → Nat
  | [] => 0
  | d :: r => uptoBulk d + uptoBulkAll r
def uptoBulkEntries {H : Type} : List (Lit × DataW H) → Nat
  | [] => 0
  | x :: r => uptoBulkEntry x + uptoBulkEntries r
def uptoBulkEntry {H : Type} : Lit × DataW H → Nat
  | (.string bytes, d) => bytes.length + uptoBulk d + 1
  | (_, d) => uptoBulk d + 1
 end
def uptoSmall : (H : Type) → List (DataW H) → Bool := fun _ ds => decide (uptoBulkAll ds ≤ 1048576)
def OpenSpec.upto (s : _root_.Go.ChangeSpec) : _root_.Go.OpenSpec := { _root_.Go.OpenSpec.ofChange s with cond := some uptoSmall }

/-- 'seneschallaw05.FrameSeal', WHERE WHAT IT READS IS OF BULK AT MOST 1048576: true; the input reads as it did. -/
def frameSealUptoRow : OpenClaim := { program := "ytcihbkdpkhhhcaadoor", sum := "d54db503ef0e3becce8a0b68d578b7f0213b6feb612ce736ee3d5060b075b59b", func := "seneschal/seneschallaw05.FrameSeal", spec := "frameSeal", unfollowed := true, recurses := true, named := ["seneschal/sha.first", "seneschal/sha.constants"], apart := false, laid := [("seneschal/sha.first", laid_seneschal_sha_first), ("seneschal/sha.constants", laid_seneschal_sha_constants)], narrowed := true }
def FrameSealUptoSaid : Prop := frameSealUptoRow.holds Tryd.pinned (OpenSpec.upto frameSealSpec)

/-- 'seneschallaw05.FrameNext', WHERE WHAT IT READS IS OF BULK AT MOST 1048576: true; the input reads as it did. -/
def frameNextUptoRow : OpenClaim := { program := "ytcihbkdpkhhhcaadoor", sum := "d54db503ef0e3becce8a0b68d578b7f0213b6feb612ce736ee3d5060b075b59b", func := "seneschal/seneschallaw05.FrameNext", spec := "frameNext", unfollowed := true, recurses := true, named := ["seneschal/sha.first", "seneschal/sha.constants"], apart := false, laid := [("seneschal/sha.first", laid_seneschal_sha_first), ("seneschal/sha.constants", laid_seneschal_sha_constants)], narrowed := true }
def FrameNextUptoSaid : Prop := frameNextUptoRow.holds Tryd.pinned (OpenSpec.upto frameNextSpec)

/-- 'seneschallaw05.FrameAll', WHERE WHAT IT READS IS OF BULK AT MOST 1048576: true; the input reads as it did. -/
def frameAllUptoRow : OpenClaim := { program := "ytcihbkdpkhhhcaadoor", sum := "d54db503ef0e3becce8a0b68d578b7f0213b6feb612ce736ee3d5060b075b59b", func := "seneschal/seneschallaw05.FrameAll", spec := "frameAll", unfollowed := true, recurses := true, named := ["seneschal/sha.first", "seneschal/sha.constants"], apart := false, laid := [("seneschal/sha.first", laid_seneschal_sha_first), ("seneschal/sha.constants", laid_seneschal_sha_constants)], narrowed := true }
def FrameAllUptoSaid : Prop := frameAllUptoRow.holds Tryd.pinned (OpenSpec.upto frameAllSpec)

/-- 'seneschallaw05.FrameLimits', WHERE WHAT IT READS IS OF BULK AT MOST 1048576: true; the input reads as it did. -/
def frameLimitsUptoRow : OpenClaim := { program := "ytcihbkdpkhhhcaadoor", sum := "d54db503ef0e3becce8a0b68d578b7f0213b6feb612ce736ee3d5060b075b59b", func := "seneschal/seneschallaw05.FrameLimits", spec := "frameLimits", unfollowed := true, recurses := true, named := ["seneschal/sha.first", "seneschal/sha.constants"], apart := false, laid := [("seneschal/sha.first", laid_seneschal_sha_first), ("seneschal/sha.constants", laid_seneschal_sha_constants)], narrowed := true }
def FrameLimitsUptoSaid : Prop := frameLimitsUptoRow.holds Tryd.pinned (OpenSpec.upto frameLimitsSpec)

/-- 'seneschallaw05.FrameBack', WHERE WHAT IT READS IS OF BULK AT MOST 1048576: true; the input reads as it did. -/
def frameBackUptoRow : OpenClaim := { program := "ytcihbkdpkhhhcaadoor", sum := "d54db503ef0e3becce8a0b68d578b7f0213b6feb612ce736ee3d5060b075b59b", func := "seneschal/seneschallaw05.FrameBack", spec := "frameBack", unfollowed := true, recurses := true, named := ["seneschal/sha.first", "seneschal/sha.constants"], apart := false, laid := [("seneschal/sha.first", laid_seneschal_sha_first), ("seneschal/sha.constants", laid_seneschal_sha_constants)], narrowed := true }
def FrameBackUptoSaid : Prop := frameBackUptoRow.holds Tryd.pinned (OpenSpec.upto frameBackSpec)

/-- 'seneschallaw05.FrameBehind', WHERE WHAT IT READS IS OF BULK AT MOST 1048576: true; the input reads as it did. -/
def frameBehindUptoRow : OpenClaim := { program := "ytcihbkdpkhhhcaadoor", sum := "d54db503ef0e3becce8a0b68d578b7f0213b6feb612ce736ee3d5060b075b59b", func := "seneschal/seneschallaw05.FrameBehind", spec := "frameBehind", unfollowed := true, recurses := true, named := ["seneschal/sha.first", "seneschal/sha.constants"], apart := false, laid := [("seneschal/sha.first", laid_seneschal_sha_first), ("seneschal/sha.constants", laid_seneschal_sha_constants)], narrowed := true }
def FrameBehindUptoSaid : Prop := frameBehindUptoRow.holds Tryd.pinned (OpenSpec.upto frameBehindSpec)

end Rows
end Go.Proofs.YtcihbkdpkhhhcaaDoor
