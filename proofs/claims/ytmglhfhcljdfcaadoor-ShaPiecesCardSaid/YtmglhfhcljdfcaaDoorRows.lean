/-
  NARROWER THAN 'FOR EVERY INPUT', by the rows' own cells (each row's printed sentence says how): ShaSum: laid · ShaPieces: laid · ShaCut: laid · ShaAsked: laid · HmacSum: laid · HmacDerive: laid · HmacKeys: laid · HmacTwice: laid · HmacDerived: laid · HmacUnlike: laid.
  DERIVED. THE GIVEN ROWS OF THIS SEAT. 10 by the template 'for every input the law returns true; each argument reads behind the call as it read before'; 0 by the template 'total and deterministic' (their statements: YtmglhfhcljdfcaaDoorTotals.lean).
  GIVEN WITH THE SEED: the statements are not yours to turn. If you find one false, say at which input.
  Laid BY PROGRAM, IN A SANDBOX (cutbox-rows.mjs): the forced cells as the released guide's own fill.sh prints them over the translation ec64d2fab5e5a75f… (all of the seat's roots in one cut). By AI agents, Wed Nov 11 2026. No macro, syntax, notation, axiom, sorry.
-/
import Derived.Test.YtmglhfhcljdfcaaDoorChecked
import GoSem.Claim
import GoSem.ClaimJoined
import GoSem.ClaimMapViews
import Derived.JoinedTies
import Derived.KernelRfl
namespace Go.Proofs.YtmglhfhcljdfcaaDoor
/- THE CELL 'sum', in the pinned program and in every row, IS THE sha256 OF THE DUMP (.gsa) THAT YtmglhfhcljdfcaaDoorProg.lean LOADS. Nothing in Lean hashes anything: it is a label: what it is worth is what the hold of that sum in a sandbox is worth. -/
noncomputable def Tryd.pinned : Pinned := { name := "ytmglhfhcljdfcaadoor", sum := "ec64d2fab5e5a75fc593d02d7f3aba90cc6f07d44c59f473f137fd7f71632427", checked := Tryd.checked }
namespace Rows
def none {H : Type} : Left H := { results := [], args := [] }

/- WHAT THE LISTED PACKAGE-LEVEL VARIABLES READ AS WHEN THE CALL BEGINS. Each datum BY PROGRAM (the guide's laid-datum.mjs) off the statement by which the dump's own 'gosem.cut.vars' lays the variable. In a bare row this is a premise. The card (YtmglhfhcljdfcaaDoorCards.lean) ties it to the program's text. -/
def laid_seneschal_sha_first {H : Type} : DataW H := .agg [.lit (.int .u32 1779033703), .lit (.int .u32 3144134277), .lit (.int .u32 1013904242), .lit (.int .u32 2773480762), .lit (.int .u32 1359893119), .lit (.int .u32 2600822924), .lit (.int .u32 528734635), .lit (.int .u32 1541459225)]
def laid_seneschal_sha_constants {H : Type} : DataW H := .agg [.lit (.int .u32 1116352408), .lit (.int .u32 1899447441), .lit (.int .u32 3049323471), .lit (.int .u32 3921009573), .lit (.int .u32 961987163), .lit (.int .u32 1508970993), .lit (.int .u32 2453635748), .lit (.int .u32 2870763221), .lit (.int .u32 3624381080), .lit (.int .u32 310598401), .lit (.int .u32 607225278), .lit (.int .u32 1426881987), .lit (.int .u32 1925078388), .lit (.int .u32 2162078206), .lit (.int .u32 2614888103), .lit (.int .u32 3248222580), .lit (.int .u32 3835390401), .lit (.int .u32 4022224774), .lit (.int .u32 264347078), .lit (.int .u32 604807628), .lit (.int .u32 770255983), .lit (.int .u32 1249150122), .lit (.int .u32 1555081692), .lit (.int .u32 1996064986), .lit (.int .u32 2554220882), .lit (.int .u32 2821834349), .lit (.int .u32 2952996808), .lit (.int .u32 3210313671), .lit (.int .u32 3336571891), .lit (.int .u32 3584528711), .lit (.int .u32 113926993), .lit (.int .u32 338241895), .lit (.int .u32 666307205), .lit (.int .u32 773529912), .lit (.int .u32 1294757372), .lit (.int .u32 1396182291), .lit (.int .u32 1695183700), .lit (.int .u32 1986661051), .lit (.int .u32 2177026350), .lit (.int .u32 2456956037), .lit (.int .u32 2730485921), .lit (.int .u32 2820302411), .lit (.int .u32 3259730800), .lit (.int .u32 3345764771), .lit (.int .u32 3516065817), .lit (.int .u32 3600352804), .lit (.int .u32 4094571909), .lit (.int .u32 275423344), .lit (.int .u32 430227734), .lit (.int .u32 506948616), .lit (.int .u32 659060556), .lit (.int .u32 883997877), .lit (.int .u32 958139571), .lit (.int .u32 1322822218), .lit (.int .u32 1537002063), .lit (.int .u32 1747873779), .lit (.int .u32 1955562222), .lit (.int .u32 2024104815), .lit (.int .u32 2227730452), .lit (.int .u32 2361852424), .lit (.int .u32 2428436474), .lit (.int .u32 2756734187), .lit (.int .u32 3204031479), .lit (.int .u32 3329325298)]

/-- 'seneschallaw02.ShaSum': WHATEVER THE INPUT: true; the input reads as it did. -/
def shaSumSpec : ChangeSpec := { name := "shaSum", fn := fun _ => fun
  | [d] => { results := [.lit (.bool true)], args := [d] }
  | _ => none }
def shaSumRow : OpenClaim := { program := "ytmglhfhcljdfcaadoor", sum := "ec64d2fab5e5a75fc593d02d7f3aba90cc6f07d44c59f473f137fd7f71632427", func := "seneschal/seneschallaw02.ShaSum", spec := "shaSum", unfollowed := true, recurses := true, named := ["seneschal/sha.first", "seneschal/sha.constants"], apart := false, laid := [("seneschal/sha.first", laid_seneschal_sha_first), ("seneschal/sha.constants", laid_seneschal_sha_constants)] }
def ShaSumSaid : Prop := shaSumRow.holds Tryd.pinned (OpenSpec.ofChange shaSumSpec)

/-- ITS FALSE NEIGHBOUR: 'it returns false'. Refute it at one input. -/
def shaSumWrong : ChangeSpec := { name := "shaSum", fn := fun _ => fun
  | [d] => { results := [.lit (.bool false)], args := [d] }
  | _ => none }
def ShaSumWrongFalsely : Prop := shaSumRow.holds Tryd.pinned (OpenSpec.ofChange shaSumWrong)

/-- 'seneschallaw02.ShaPieces': WHATEVER THE INPUT: true; the input reads as it did. -/
def shaPiecesSpec : ChangeSpec := { name := "shaPieces", fn := fun _ => fun
  | [d] => { results := [.lit (.bool true)], args := [d] }
  | _ => none }
def shaPiecesRow : OpenClaim := { program := "ytmglhfhcljdfcaadoor", sum := "ec64d2fab5e5a75fc593d02d7f3aba90cc6f07d44c59f473f137fd7f71632427", func := "seneschal/seneschallaw02.ShaPieces", spec := "shaPieces", unfollowed := true, recurses := true, named := ["seneschal/sha.first", "seneschal/sha.constants"], apart := false, laid := [("seneschal/sha.first", laid_seneschal_sha_first), ("seneschal/sha.constants", laid_seneschal_sha_constants)] }
def ShaPiecesSaid : Prop := shaPiecesRow.holds Tryd.pinned (OpenSpec.ofChange shaPiecesSpec)

/-- ITS FALSE NEIGHBOUR: 'it returns false'. Refute it at one input. -/
def shaPiecesWrong : ChangeSpec := { name := "shaPieces", fn := fun _ => fun
  | [d] => { results := [.lit (.bool false)], args := [d] }
  | _ => none }
def ShaPiecesWrongFalsely : Prop := shaPiecesRow.holds Tryd.pinned (OpenSpec.ofChange shaPiecesWrong)

/-- 'seneschallaw02.ShaCut': WHATEVER THE INPUT: true; the input reads as it did. -/
def shaCutSpec : ChangeSpec := { name := "shaCut", fn := fun _ => fun
  | [d1, d2] => { results := [.lit (.bool true)], args := [d1, d2] }
  | _ => none }
def shaCutRow : OpenClaim := { program := "ytmglhfhcljdfcaadoor", sum := "ec64d2fab5e5a75fc593d02d7f3aba90cc6f07d44c59f473f137fd7f71632427", func := "seneschal/seneschallaw02.ShaCut", spec := "shaCut", unfollowed := true, recurses := true, named := ["seneschal/sha.first", "seneschal/sha.constants"], apart := false, laid := [("seneschal/sha.first", laid_seneschal_sha_first), ("seneschal/sha.constants", laid_seneschal_sha_constants)] }
def ShaCutSaid : Prop := shaCutRow.holds Tryd.pinned (OpenSpec.ofChange shaCutSpec)

/-- ITS FALSE NEIGHBOUR: 'it returns false'. Refute it at one input. -/
def shaCutWrong : ChangeSpec := { name := "shaCut", fn := fun _ => fun
  | [d1, d2] => { results := [.lit (.bool false)], args := [d1, d2] }
  | _ => none }
def ShaCutWrongFalsely : Prop := shaCutRow.holds Tryd.pinned (OpenSpec.ofChange shaCutWrong)

/-- 'seneschallaw02.ShaAsked': WHATEVER THE INPUT: true; the input reads as it did. -/
def shaAskedSpec : ChangeSpec := { name := "shaAsked", fn := fun _ => fun
  | [d1, d2, d3] => { results := [.lit (.bool true)], args := [d1, d2, d3] }
  | _ => none }
def shaAskedRow : OpenClaim := { program := "ytmglhfhcljdfcaadoor", sum := "ec64d2fab5e5a75fc593d02d7f3aba90cc6f07d44c59f473f137fd7f71632427", func := "seneschal/seneschallaw02.ShaAsked", spec := "shaAsked", unfollowed := true, recurses := true, named := ["seneschal/sha.first", "seneschal/sha.constants"], apart := false, laid := [("seneschal/sha.first", laid_seneschal_sha_first), ("seneschal/sha.constants", laid_seneschal_sha_constants)] }
def ShaAskedSaid : Prop := shaAskedRow.holds Tryd.pinned (OpenSpec.ofChange shaAskedSpec)

/-- ITS FALSE NEIGHBOUR: 'it returns false'. Refute it at one input. -/
def shaAskedWrong : ChangeSpec := { name := "shaAsked", fn := fun _ => fun
  | [d1, d2, d3] => { results := [.lit (.bool false)], args := [d1, d2, d3] }
  | _ => none }
def ShaAskedWrongFalsely : Prop := shaAskedRow.holds Tryd.pinned (OpenSpec.ofChange shaAskedWrong)

/-- 'seneschallaw03.HmacSum': WHATEVER THE INPUT: true; the input reads as it did. -/
def hmacSumSpec : ChangeSpec := { name := "hmacSum", fn := fun _ => fun
  | [d1, d2] => { results := [.lit (.bool true)], args := [d1, d2] }
  | _ => none }
def hmacSumRow : OpenClaim := { program := "ytmglhfhcljdfcaadoor", sum := "ec64d2fab5e5a75fc593d02d7f3aba90cc6f07d44c59f473f137fd7f71632427", func := "seneschal/seneschallaw03.HmacSum", spec := "hmacSum", inPlace := ["internal/bytealg.MakeNoZero"], unfollowed := true, recurses := true, named := ["seneschal/sha.first", "seneschal/sha.constants"], apart := false, laid := [("seneschal/sha.first", laid_seneschal_sha_first), ("seneschal/sha.constants", laid_seneschal_sha_constants)] }
def HmacSumSaid : Prop := hmacSumRow.holds Tryd.pinned (OpenSpec.ofChange hmacSumSpec)

/-- ITS FALSE NEIGHBOUR: 'it returns false'. Refute it at one input. -/
def hmacSumWrong : ChangeSpec := { name := "hmacSum", fn := fun _ => fun
  | [d1, d2] => { results := [.lit (.bool false)], args := [d1, d2] }
  | _ => none }
def HmacSumWrongFalsely : Prop := hmacSumRow.holds Tryd.pinned (OpenSpec.ofChange hmacSumWrong)

/-- 'seneschallaw03.HmacDerive': WHATEVER THE INPUT: true; the input reads as it did. -/
def hmacDeriveSpec : ChangeSpec := { name := "hmacDerive", fn := fun _ => fun
  | [d1, d2, d3] => { results := [.lit (.bool true)], args := [d1, d2, d3] }
  | _ => none }
def hmacDeriveRow : OpenClaim := { program := "ytmglhfhcljdfcaadoor", sum := "ec64d2fab5e5a75fc593d02d7f3aba90cc6f07d44c59f473f137fd7f71632427", func := "seneschal/seneschallaw03.HmacDerive", spec := "hmacDerive", inPlace := ["internal/bytealg.MakeNoZero"], unfollowed := true, recurses := true, named := ["seneschal/sha.first", "seneschal/sha.constants"], apart := false, laid := [("seneschal/sha.first", laid_seneschal_sha_first), ("seneschal/sha.constants", laid_seneschal_sha_constants)] }
def HmacDeriveSaid : Prop := hmacDeriveRow.holds Tryd.pinned (OpenSpec.ofChange hmacDeriveSpec)

/-- ITS FALSE NEIGHBOUR: 'it returns false'. Refute it at one input. -/
def hmacDeriveWrong : ChangeSpec := { name := "hmacDerive", fn := fun _ => fun
  | [d1, d2, d3] => { results := [.lit (.bool false)], args := [d1, d2, d3] }
  | _ => none }
def HmacDeriveWrongFalsely : Prop := hmacDeriveRow.holds Tryd.pinned (OpenSpec.ofChange hmacDeriveWrong)

/-- 'seneschallaw03.HmacKeys': WHATEVER THE INPUT: true; the input reads as it did. -/
def hmacKeysSpec : ChangeSpec := { name := "hmacKeys", fn := fun _ => fun
  | [d1, d2, d3] => { results := [.lit (.bool true)], args := [d1, d2, d3] }
  | _ => none }
def hmacKeysRow : OpenClaim := { program := "ytmglhfhcljdfcaadoor", sum := "ec64d2fab5e5a75fc593d02d7f3aba90cc6f07d44c59f473f137fd7f71632427", func := "seneschal/seneschallaw03.HmacKeys", spec := "hmacKeys", inPlace := ["internal/bytealg.MakeNoZero"], unfollowed := true, recurses := true, named := ["seneschal/sha.first", "seneschal/sha.constants"], apart := false, laid := [("seneschal/sha.first", laid_seneschal_sha_first), ("seneschal/sha.constants", laid_seneschal_sha_constants)] }
def HmacKeysSaid : Prop := hmacKeysRow.holds Tryd.pinned (OpenSpec.ofChange hmacKeysSpec)

/-- ITS FALSE NEIGHBOUR: 'it returns false'. Refute it at one input. -/
def hmacKeysWrong : ChangeSpec := { name := "hmacKeys", fn := fun _ => fun
  | [d1, d2, d3] => { results := [.lit (.bool false)], args := [d1, d2, d3] }
  | _ => none }
def HmacKeysWrongFalsely : Prop := hmacKeysRow.holds Tryd.pinned (OpenSpec.ofChange hmacKeysWrong)

/-- 'seneschallaw03.HmacTwice': WHATEVER THE INPUT: true; the input reads as it did. -/
def hmacTwiceSpec : ChangeSpec := { name := "hmacTwice", fn := fun _ => fun
  | [d1, d2] => { results := [.lit (.bool true)], args := [d1, d2] }
  | _ => none }
def hmacTwiceRow : OpenClaim := { program := "ytmglhfhcljdfcaadoor", sum := "ec64d2fab5e5a75fc593d02d7f3aba90cc6f07d44c59f473f137fd7f71632427", func := "seneschal/seneschallaw03.HmacTwice", spec := "hmacTwice", inPlace := ["internal/bytealg.MakeNoZero"], unfollowed := true, recurses := true, named := ["seneschal/sha.first", "seneschal/sha.constants"], apart := false, laid := [("seneschal/sha.first", laid_seneschal_sha_first), ("seneschal/sha.constants", laid_seneschal_sha_constants)] }
def HmacTwiceSaid : Prop := hmacTwiceRow.holds Tryd.pinned (OpenSpec.ofChange hmacTwiceSpec)

/-- ITS FALSE NEIGHBOUR: 'it returns false'. Refute it at one input. -/
def hmacTwiceWrong : ChangeSpec := { name := "hmacTwice", fn := fun _ => fun
  | [d1, d2] => { results := [.lit (.bool false)], args := [d1, d2] }
  | _ => none }
def HmacTwiceWrongFalsely : Prop := hmacTwiceRow.holds Tryd.pinned (OpenSpec.ofChange hmacTwiceWrong)

/-- 'seneschallaw03.HmacDerived': WHATEVER THE INPUT: true; the input reads as it did. -/
def hmacDerivedSpec : ChangeSpec := { name := "hmacDerived", fn := fun _ => fun
  | [d1, d2, d3, d4, d5] => { results := [.lit (.bool true)], args := [d1, d2, d3, d4, d5] }
  | _ => none }
def hmacDerivedRow : OpenClaim := { program := "ytmglhfhcljdfcaadoor", sum := "ec64d2fab5e5a75fc593d02d7f3aba90cc6f07d44c59f473f137fd7f71632427", func := "seneschal/seneschallaw03.HmacDerived", spec := "hmacDerived", inPlace := ["internal/bytealg.MakeNoZero"], unfollowed := true, recurses := true, named := ["seneschal/sha.first", "seneschal/sha.constants"], apart := false, laid := [("seneschal/sha.first", laid_seneschal_sha_first), ("seneschal/sha.constants", laid_seneschal_sha_constants)] }
def HmacDerivedSaid : Prop := hmacDerivedRow.holds Tryd.pinned (OpenSpec.ofChange hmacDerivedSpec)

/-- ITS FALSE NEIGHBOUR: 'it returns false'. Refute it at one input. -/
def hmacDerivedWrong : ChangeSpec := { name := "hmacDerived", fn := fun _ => fun
  | [d1, d2, d3, d4, d5] => { results := [.lit (.bool false)], args := [d1, d2, d3, d4, d5] }
  | _ => none }
def HmacDerivedWrongFalsely : Prop := hmacDerivedRow.holds Tryd.pinned (OpenSpec.ofChange hmacDerivedWrong)

/-- 'seneschallaw03.HmacUnlike': WHATEVER THE INPUT: true; the input reads as it did. -/
def hmacUnlikeSpec : ChangeSpec := { name := "hmacUnlike", fn := fun _ => fun
  | [d1, d2, d3, d4] => { results := [.lit (.bool true)], args := [d1, d2, d3, d4] }
  | _ => none }
def hmacUnlikeRow : OpenClaim := { program := "ytmglhfhcljdfcaadoor", sum := "ec64d2fab5e5a75fc593d02d7f3aba90cc6f07d44c59f473f137fd7f71632427", func := "seneschal/seneschallaw03.HmacUnlike", spec := "hmacUnlike", inPlace := ["internal/bytealg.MakeNoZero"], unfollowed := true, recurses := true, named := ["seneschal/sha.first", "seneschal/sha.constants"], apart := false, laid := [("seneschal/sha.first", laid_seneschal_sha_first), ("seneschal/sha.constants", laid_seneschal_sha_constants)] }
def HmacUnlikeSaid : Prop := hmacUnlikeRow.holds Tryd.pinned (OpenSpec.ofChange hmacUnlikeSpec)

/-- ITS FALSE NEIGHBOUR: 'it returns false'. Refute it at one input. -/
def hmacUnlikeWrong : ChangeSpec := { name := "hmacUnlike", fn := fun _ => fun
  | [d1, d2, d3, d4] => { results := [.lit (.bool false)], args := [d1, d2, d3, d4] }
  | _ => none }
def HmacUnlikeWrongFalsely : Prop := hmacUnlikeRow.holds Tryd.pinned (OpenSpec.ofChange hmacUnlikeWrong)

/- THE SECOND FORM. 'bulk': how many values and letters a reading holds, each counted each time it is reached (what is shared counts as often as it is met; a slice's spare places count too). A statement '..UptoSaid' is the law's where the arguments, and the package variables that the reading takes, are together of bulk at most 1048576: NARROWER than '..Said'. Prove '..Said' where nothing that the law and all that it calls make is longer than what came in: it says more and counts as full. Else prove '..UptoSaid'. A law counts once. -/
mutual
def uptoBulk {H : Type} : DataW H → Nat
  | .lit (.string bytes) => bytes.length + 1
  | .lit _ => 1
  | .nil => 1
  | .ptr d => uptoBulk d + 1
  | .slice elems spare => uptoBulkAll elems + uptoBulkAll spare + 1
  | .agg parts => uptoBulkAll parts + 1
  | .iface _ d => uptoBulk d + 1
  | .map entries => uptoBulkEntries entries + 1
  | .held _ => 1
def uptoBulkAll {H : Type} : List (DataW H) → Nat
  | [] => 0
  | d :: r => uptoBulk d + uptoBulkAll r
def uptoBulkEntries {H : Type} : List (Lit × DataW H) → Nat
  | [] => 0
  | x :: r => uptoBulkEntry x + uptoBulkEntries r
def uptoBulkEntry {H : Type} : Lit × DataW H → Nat
  | (.string bytes, d) => bytes.length + uptoBulk d + 1
  | (_, d) => uptoBulk d + 1
 end
def uptoSmall : (H : Type) → List (DataW H) → Bool := fun _ ds => decide (uptoBulkAll ds ≤ 1048576)
def OpenSpec.upto (s : _root_.Go.ChangeSpec) : _root_.Go.OpenSpec := { _root_.Go.OpenSpec.ofChange s with cond := some uptoSmall }

/-- 'seneschallaw02.ShaSum', WHERE WHAT IT READS IS OF BULK AT MOST 1048576: true; the input reads as it did. -/
def shaSumUptoRow : OpenClaim := { program := "ytmglhfhcljdfcaadoor", sum := "ec64d2fab5e5a75fc593d02d7f3aba90cc6f07d44c59f473f137fd7f71632427", func := "seneschal/seneschallaw02.ShaSum", spec := "shaSum", unfollowed := true, recurses := true, named := ["seneschal/sha.first", "seneschal/sha.constants"], apart := false, laid := [("seneschal/sha.first", laid_seneschal_sha_first), ("seneschal/sha.constants", laid_seneschal_sha_constants)], narrowed := true }
def ShaSumUptoSaid : Prop := shaSumUptoRow.holds Tryd.pinned (OpenSpec.upto shaSumSpec)

/-- 'seneschallaw02.ShaPieces', WHERE WHAT IT READS IS OF BULK AT MOST 1048576: true; the input reads as it did. -/
def shaPiecesUptoRow : OpenClaim := { program := "ytmglhfhcljdfcaadoor", sum := "ec64d2fab5e5a75fc593d02d7f3aba90cc6f07d44c59f473f137fd7f71632427", func := "seneschal/seneschallaw02.ShaPieces", spec := "shaPieces", unfollowed := true, recurses := true, named := ["seneschal/sha.first", "seneschal/sha.constants"], apart := false, laid := [("seneschal/sha.first", laid_seneschal_sha_first), ("seneschal/sha.constants", laid_seneschal_sha_constants)], narrowed := true }
def ShaPiecesUptoSaid : Prop := shaPiecesUptoRow.holds Tryd.pinned (OpenSpec.upto shaPiecesSpec)

/-- 'seneschallaw02.ShaCut', WHERE WHAT IT READS IS OF BULK AT MOST 1048576: true; the input reads as it did. -/
def shaCutUptoRow : OpenClaim := { program := "ytmglhfhcljdfcaadoor", sum := "ec64d2fab5e5a75fc593d02d7f3aba90cc6f07d44c59f473f137fd7f71632427", func := "seneschal/seneschallaw02.ShaCut", spec := "shaCut", unfollowed := true, recurses := true, named := ["seneschal/sha.first", "seneschal/sha.constants"], apart := false, laid := [("seneschal/sha.first", laid_seneschal_sha_first), ("seneschal/sha.constants", laid_seneschal_sha_constants)], narrowed := true }
def ShaCutUptoSaid : Prop := shaCutUptoRow.holds Tryd.pinned (OpenSpec.upto shaCutSpec)

/-- 'seneschallaw02.ShaAsked', WHERE WHAT IT READS IS OF BULK AT MOST 1048576: true; the input reads as it did. -/
def shaAskedUptoRow : OpenClaim := { program := "ytmglhfhcljdfcaadoor", sum := "ec64d2fab5e5a75fc593d02d7f3aba90cc6f07d44c59f473f137fd7f71632427", func := "seneschal/seneschallaw02.ShaAsked", spec := "shaAsked", unfollowed := true, recurses := true, named := ["seneschal/sha.first", "seneschal/sha.constants"], apart := false, laid := [("seneschal/sha.first", laid_seneschal_sha_first), ("seneschal/sha.constants", laid_seneschal_sha_constants)], narrowed := true }
def ShaAskedUptoSaid : Prop := shaAskedUptoRow.holds Tryd.pinned (OpenSpec.upto shaAskedSpec)

/-- 'seneschallaw03.HmacSum', WHERE WHAT IT READS IS OF BULK AT MOST 1048576: true; the input reads as it did. -/
def hmacSumUptoRow : OpenClaim := { program := "ytmglhfhcljdfcaadoor", sum := "ec64d2fab5e5a75fc593d02d7f3aba90cc6f07d44c59f473f137fd7f71632427", func := "seneschal/seneschallaw03.HmacSum", spec := "hmacSum", inPlace := ["internal/bytealg.MakeNoZero"], unfollowed := true, recurses := true, named := ["seneschal/sha.first", "seneschal/sha.constants"], apart := false, laid := [("seneschal/sha.first", laid_seneschal_sha_first), ("seneschal/sha.constants", laid_seneschal_sha_constants)], narrowed := true }
def HmacSumUptoSaid : Prop := hmacSumUptoRow.holds Tryd.pinned (OpenSpec.upto hmacSumSpec)

/-- 'seneschallaw03.HmacDerive', WHERE WHAT IT READS IS OF BULK AT MOST 1048576: true; the input reads as it did. -/
def hmacDeriveUptoRow : OpenClaim := { program := "ytmglhfhcljdfcaadoor", sum := "ec64d2fab5e5a75fc593d02d7f3aba90cc6f07d44c59f473f137fd7f71632427", func := "seneschal/seneschallaw03.HmacDerive", spec := "hmacDerive", inPlace := ["internal/bytealg.MakeNoZero"], unfollowed := true, recurses := true, named := ["seneschal/sha.first", "seneschal/sha.constants"], apart := false, laid := [("seneschal/sha.first", laid_seneschal_sha_first), ("seneschal/sha.constants", laid_seneschal_sha_constants)], narrowed := true }
def HmacDeriveUptoSaid : Prop := hmacDeriveUptoRow.holds Tryd.pinned (OpenSpec.upto hmacDeriveSpec)

/-- 'seneschallaw03.HmacKeys', WHERE WHAT IT READS IS OF BULK AT MOST 1048576: true; the input reads as it did. -/
def hmacKeysUptoRow : OpenClaim := { program := "ytmglhfhcljdfcaadoor", sum := "ec64d2fab5e5a75fc593d02d7f3aba90cc6f07d44c59f473f137fd7f71632427", func := "seneschal/seneschallaw03.HmacKeys", spec := "hmacKeys", inPlace := ["internal/bytealg.MakeNoZero"], unfollowed := true, recurses := true, named := ["seneschal/sha.first", "seneschal/sha.constants"], apart := false, laid := [("seneschal/sha.first", laid_seneschal_sha_first), ("seneschal/sha.constants", laid_seneschal_sha_constants)], narrowed := true }
def HmacKeysUptoSaid : Prop := hmacKeysUptoRow.holds Tryd.pinned (OpenSpec.upto hmacKeysSpec)

/-- 'seneschallaw03.HmacTwice', WHERE WHAT IT READS IS OF BULK AT MOST 1048576: true; the input reads as it did. -/
def hmacTwiceUptoRow : OpenClaim := { program := "ytmglhfhcljdfcaadoor", sum := "ec64d2fab5e5a75fc593d02d7f3aba90cc6f07d44c59f473f137fd7f71632427", func := "seneschal/seneschallaw03.HmacTwice", spec := "hmacTwice", inPlace := ["internal/bytealg.MakeNoZero"], unfollowed := true, recurses := true, named := ["seneschal/sha.first", "seneschal/sha.constants"], apart := false, laid := [("seneschal/sha.first", laid_seneschal_sha_first), ("seneschal/sha.constants", laid_seneschal_sha_constants)], narrowed := true }
def HmacTwiceUptoSaid : Prop := hmacTwiceUptoRow.holds Tryd.pinned (OpenSpec.upto hmacTwiceSpec)

/-- 'seneschallaw03.HmacDerived', WHERE WHAT IT READS IS OF BULK AT MOST 1048576: true; the input reads as it did. -/
def hmacDerivedUptoRow : OpenClaim := { program := "ytmglhfhcljdfcaadoor", sum := "ec64d2fab5e5a75fc593d02d7f3aba90cc6f07d44c59f473f137fd7f71632427", func := "seneschal/seneschallaw03.HmacDerived", spec := "hmacDerived", inPlace := ["internal/bytealg.MakeNoZero"], unfollowed := true, recurses := true, named := ["seneschal/sha.first", "seneschal/sha.constants"], apart := false, laid := [("seneschal/sha.first", laid_seneschal_sha_first), ("seneschal/sha.constants", laid_seneschal_sha_constants)], narrowed := true }
def HmacDerivedUptoSaid : Prop := hmacDerivedUptoRow.holds Tryd.pinned (OpenSpec.upto hmacDerivedSpec)

/-- 'seneschallaw03.HmacUnlike', WHERE WHAT IT READS IS OF BULK AT MOST 1048576: true; the input reads as it did. -/
def hmacUnlikeUptoRow : OpenClaim := { program := "ytmglhfhcljdfcaadoor", sum := "ec64d2fab5e5a75fc593d02d7f3aba90cc6f07d44c59f473f137fd7f71632427", func := "seneschal/seneschallaw03.HmacUnlike", spec := "hmacUnlike", inPlace := ["internal/bytealg.MakeNoZero"], unfollowed := true, recurses := true, named := ["seneschal/sha.first", "seneschal/sha.constants"], apart := false, laid := [("seneschal/sha.first", laid_seneschal_sha_first), ("seneschal/sha.constants", laid_seneschal_sha_constants)], narrowed := true }
def HmacUnlikeUptoSaid : Prop := hmacUnlikeUptoRow.holds Tryd.pinned (OpenSpec.upto hmacUnlikeSpec)

end Rows
end Go.Proofs.YtmglhfhcljdfcaaDoor
