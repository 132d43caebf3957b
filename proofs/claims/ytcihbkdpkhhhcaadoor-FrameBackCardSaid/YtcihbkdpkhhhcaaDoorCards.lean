/-
  DERIVED. GIVEN WITH THE SEED: THE CARDS: each row of YtcihbkdpkhhhcaaDoorRows.lean that lists a variable, with what it lists TIED to the program's text (the seventh form; the later family's looks); each row that meets fmt, with fmt's text TOLD by the authors' own Lean function (tested against real Go, not proved from fmt's source: count such statements apart). THE CARD IS WHAT COUNTS. Prove the row's statement (the work); the ties are given (YtcihbkdpkhhhcaaDoorTie.lean); close each card by the builder's one call (the guide's Derived/Test/ToyasCard.lean, 'card_holds'). Laid BY PROGRAM, IN A SANDBOX (cutbox-door.mjs). By AI agents, Wed Nov 11 2026. No macro, syntax, notation, axiom, sorry.
-/
import Derived.Test.YtcihbkdpkhhhcaaDoorRows
import GoSem.ClaimSeven
namespace Go.Proofs.YtcihbkdpkhhhcaaDoor
namespace Rows

/-- THE TIED CARD OF 'seneschallaw05.FrameSeal'. -/
def frameSealCard : Claim7 := { stood := { row := frameSealRow, standIns := [], harness := (true, "41cab67323c1fd03c540d259679155c0d4967b5829d64f6dbdde04f8d55b60a9"), looks := false }, kinds := [], alts := [], laidByText := true, laidKinds := [.data, .data], laidTests := true, laidLooks := .later }
def FrameSealCardSaid : Prop := Claim7.holds Tryd.pinned (.plain (OpenSpec.ofChange frameSealSpec)) frameSealCard

/-- THE TIED CARD OF 'seneschallaw05.FrameNext'. -/
def frameNextCard : Claim7 := { stood := { row := frameNextRow, standIns := [], harness := (true, "41cab67323c1fd03c540d259679155c0d4967b5829d64f6dbdde04f8d55b60a9"), looks := false }, kinds := [], alts := [], laidByText := true, laidKinds := [.data, .data], laidTests := true, laidLooks := .later }
def FrameNextCardSaid : Prop := Claim7.holds Tryd.pinned (.plain (OpenSpec.ofChange frameNextSpec)) frameNextCard

/-- THE TIED CARD OF 'seneschallaw05.FrameAll'. -/
def frameAllCard : Claim7 := { stood := { row := frameAllRow, standIns := [], harness := (true, "41cab67323c1fd03c540d259679155c0d4967b5829d64f6dbdde04f8d55b60a9"), looks := false }, kinds := [], alts := [], laidByText := true, laidKinds := [.data, .data], laidTests := true, laidLooks := .later }
def FrameAllCardSaid : Prop := Claim7.holds Tryd.pinned (.plain (OpenSpec.ofChange frameAllSpec)) frameAllCard

/-- THE TIED CARD OF 'seneschallaw05.FrameLimits'. -/
def frameLimitsCard : Claim7 := { stood := { row := frameLimitsRow, standIns := [], harness := (true, "41cab67323c1fd03c540d259679155c0d4967b5829d64f6dbdde04f8d55b60a9"), looks := false }, kinds := [], alts := [], laidByText := true, laidKinds := [.data, .data], laidTests := true, laidLooks := .later }
def FrameLimitsCardSaid : Prop := Claim7.holds Tryd.pinned (.plain (OpenSpec.ofChange frameLimitsSpec)) frameLimitsCard

/-- THE TIED CARD OF 'seneschallaw05.FrameBack'. -/
def frameBackCard : Claim7 := { stood := { row := frameBackRow, standIns := [], harness := (true, "41cab67323c1fd03c540d259679155c0d4967b5829d64f6dbdde04f8d55b60a9"), looks := false }, kinds := [], alts := [], laidByText := true, laidKinds := [.data, .data], laidTests := true, laidLooks := .later }
def FrameBackCardSaid : Prop := Claim7.holds Tryd.pinned (.plain (OpenSpec.ofChange frameBackSpec)) frameBackCard

/-- THE TIED CARD OF 'seneschallaw05.FrameBehind'. -/
def frameBehindCard : Claim7 := { stood := { row := frameBehindRow, standIns := [], harness := (true, "41cab67323c1fd03c540d259679155c0d4967b5829d64f6dbdde04f8d55b60a9"), looks := false }, kinds := [], alts := [], laidByText := true, laidKinds := [.data, .data], laidTests := true, laidLooks := .later }
def FrameBehindCardSaid : Prop := Claim7.holds Tryd.pinned (.plain (OpenSpec.ofChange frameBehindSpec)) frameBehindCard

/-- THE SECOND FORM's CARD OF 'seneschallaw05.FrameSeal'. -/
def frameSealUptoCard : Claim7 := { stood := { row := frameSealUptoRow, standIns := [], harness := (true, "41cab67323c1fd03c540d259679155c0d4967b5829d64f6dbdde04f8d55b60a9"), looks := false }, kinds := [], alts := [], laidByText := true, laidKinds := [.data, .data], laidTests := true, laidLooks := .later }
def FrameSealUptoCardSaid : Prop := Claim7.holds Tryd.pinned (.plain (OpenSpec.upto frameSealSpec)) frameSealUptoCard

/-- THE SECOND FORM's CARD OF 'seneschallaw05.FrameNext'. -/
def frameNextUptoCard : Claim7 := { stood := { row := frameNextUptoRow, standIns := [], harness := (true, "41cab67323c1fd03c540d259679155c0d4967b5829d64f6dbdde04f8d55b60a9"), looks := false }, kinds := [], alts := [], laidByText := true, laidKinds := [.data, .data], laidTests := true, laidLooks := .later }
def FrameNextUptoCardSaid : Prop := Claim7.holds Tryd.pinned (.plain (OpenSpec.upto frameNextSpec)) frameNextUptoCard

/-- THE SECOND FORM's CARD OF 'seneschallaw05.FrameAll'. -/
def frameAllUptoCard : Claim7 := { stood := { row := frameAllUptoRow, standIns := [], harness := (true, "41cab67323c1fd03c540d259679155c0d4967b5829d64f6dbdde04f8d55b60a9"), looks := false }, kinds := [], alts := [], laidByText := true, laidKinds := [.data, .data], laidTests := true, laidLooks := .later }
def FrameAllUptoCardSaid : Prop := Claim7.holds Tryd.pinned (.plain (OpenSpec.upto frameAllSpec)) frameAllUptoCard

/-- THE SECOND FORM's CARD OF 'seneschallaw05.FrameLimits'. -/
def frameLimitsUptoCard : Claim7 := { stood := { row := frameLimitsUptoRow, standIns := [], harness := (true, "41cab67323c1fd03c540d259679155c0d4967b5829d64f6dbdde04f8d55b60a9"), looks := false }, kinds := [], alts := [], laidByText := true, laidKinds := [.data, .data], laidTests := true, laidLooks := .later }
def FrameLimitsUptoCardSaid : Prop := Claim7.holds Tryd.pinned (.plain (OpenSpec.upto frameLimitsSpec)) frameLimitsUptoCard

/-- THE SECOND FORM's CARD OF 'seneschallaw05.FrameBack'. -/
def frameBackUptoCard : Claim7 := { stood := { row := frameBackUptoRow, standIns := [], harness := (true, "41cab67323c1fd03c540d259679155c0d4967b5829d64f6dbdde04f8d55b60a9"), looks := false }, kinds := [], alts := [], laidByText := true, laidKinds := [.data, .data], laidTests := true, laidLooks := .later }
def FrameBackUptoCardSaid : Prop := Claim7.holds Tryd.pinned (.plain (OpenSpec.upto frameBackSpec)) frameBackUptoCard

/-- THE SECOND FORM's CARD OF 'seneschallaw05.FrameBehind'. -/
def frameBehindUptoCard : Claim7 := { stood := { row := frameBehindUptoRow, standIns := [], harness := (true, "41cab67323c1fd03c540d259679155c0d4967b5829d64f6dbdde04f8d55b60a9"), looks := false }, kinds := [], alts := [], laidByText := true, laidKinds := [.data, .data], laidTests := true, laidLooks := .later }
def FrameBehindUptoCardSaid : Prop := Claim7.holds Tryd.pinned (.plain (OpenSpec.upto frameBehindSpec)) frameBehindUptoCard
end Rows
end Go.Proofs.YtcihbkdpkhhhcaaDoor
