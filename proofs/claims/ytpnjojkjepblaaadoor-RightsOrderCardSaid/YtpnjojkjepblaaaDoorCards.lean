/-
  DERIVED. GIVEN WITH THE SEED: THE CARDS: each row of YtpnjojkjepblaaaDoorRows.lean that lists a variable, with what it lists TIED to the program's text (the seventh form; the later family's looks); each row that meets fmt, with fmt's text TOLD by the authors' own Lean function (tested against real Go, not proved from fmt's source: count such statements apart). THE CARD IS WHAT COUNTS. Prove the row's statement (the work); the ties are given (YtpnjojkjepblaaaDoorTie.lean); close each card by the builder's one call (the guide's Derived/Test/ToyasCard.lean, 'card_holds'). Laid BY PROGRAM, IN A SANDBOX (cutbox-door.mjs). By AI agents, Wed Nov 11 2026. No macro, syntax, notation, axiom, sorry.
-/
import Derived.Test.YtpnjojkjepblaaaDoorRows
import GoSem.ClaimSeven
namespace Go.Proofs.YtpnjojkjepblaaaDoor
namespace Rows

/-- THE TIED CARD OF 'seneschallaw08.RightsTexts'. -/
def rightsTextsCard : Claim7 := { stood := { row := rightsTextsRow, standIns := [], harness := (true, "83acddec494b1b26dc8137a49a74086577d7482e1b3a0a0a9e849d28151bdeed"), looks := false }, kinds := [], alts := [], laidByText := true, laidKinds := [.data], laidTests := true, laidLooks := .later }
def RightsTextsCardSaid : Prop := Claim7.holds Tryd.pinned (.plain (OpenSpec.ofChange rightsTextsSpec)) rightsTextsCard

/-- THE TIED CARD OF 'seneschallaw08.RightsLines'. -/
def rightsLinesCard : Claim7 := { stood := { row := rightsLinesRow, standIns := [], harness := (true, "83acddec494b1b26dc8137a49a74086577d7482e1b3a0a0a9e849d28151bdeed"), looks := false }, kinds := [], alts := [], laidByText := true, laidKinds := [.data], laidTests := true, laidLooks := .later }
def RightsLinesCardSaid : Prop := Claim7.holds Tryd.pinned (.plain (OpenSpec.ofChange rightsLinesSpec)) rightsLinesCard

/-- THE TIED CARD OF 'seneschallaw08.RightsWithin'. -/
def rightsWithinCard : Claim7 := { stood := { row := rightsWithinRow, standIns := [], harness := (true, "83acddec494b1b26dc8137a49a74086577d7482e1b3a0a0a9e849d28151bdeed"), looks := false }, kinds := [], alts := [], laidByText := true, laidKinds := [.data], laidTests := true, laidLooks := .later }
def RightsWithinCardSaid : Prop := Claim7.holds Tryd.pinned (.plain (OpenSpec.ofChange rightsWithinSpec)) rightsWithinCard

/-- THE TIED CARD OF 'seneschallaw08.RightsNever'. -/
def rightsNeverCard : Claim7 := { stood := { row := rightsNeverRow, standIns := [], harness := (true, "83acddec494b1b26dc8137a49a74086577d7482e1b3a0a0a9e849d28151bdeed"), looks := false }, kinds := [], alts := [], laidByText := true, laidKinds := [.data], laidTests := true, laidLooks := .later }
def RightsNeverCardSaid : Prop := Claim7.holds Tryd.pinned (.plain (OpenSpec.ofChange rightsNeverSpec)) rightsNeverCard

/-- THE TIED CARD OF 'seneschallaw08.RightsOrder'. -/
def rightsOrderCard : Claim7 := { stood := { row := rightsOrderRow, standIns := [], harness := (true, "83acddec494b1b26dc8137a49a74086577d7482e1b3a0a0a9e849d28151bdeed"), looks := false }, kinds := [], alts := [], laidByText := true, laidKinds := [.data], laidTests := true, laidLooks := .later }
def RightsOrderCardSaid : Prop := Claim7.holds Tryd.pinned (.plain (OpenSpec.ofChange rightsOrderSpec)) rightsOrderCard

/-- THE TIED CARD OF 'seneschallaw08.RightsBack'. -/
def rightsBackCard : Claim7 := { stood := { row := rightsBackRow, standIns := [], harness := (true, "83acddec494b1b26dc8137a49a74086577d7482e1b3a0a0a9e849d28151bdeed"), looks := false }, kinds := [], alts := [], laidByText := true, laidKinds := [.data], laidTests := true, laidLooks := .later }
def RightsBackCardSaid : Prop := Claim7.holds Tryd.pinned (.plain (OpenSpec.ofChange rightsBackSpec)) rightsBackCard

/-- THE SECOND FORM's CARD OF 'seneschallaw08.RightsTexts'. -/
def rightsTextsUptoCard : Claim7 := { stood := { row := rightsTextsUptoRow, standIns := [], harness := (true, "83acddec494b1b26dc8137a49a74086577d7482e1b3a0a0a9e849d28151bdeed"), looks := false }, kinds := [], alts := [], laidByText := true, laidKinds := [.data], laidTests := true, laidLooks := .later }
def RightsTextsUptoCardSaid : Prop := Claim7.holds Tryd.pinned (.plain (OpenSpec.upto rightsTextsSpec)) rightsTextsUptoCard

/-- THE SECOND FORM's CARD OF 'seneschallaw08.RightsLines'. -/
def rightsLinesUptoCard : Claim7 := { stood := { row := rightsLinesUptoRow, standIns := [], harness := (true, "83acddec494b1b26dc8137a49a74086577d7482e1b3a0a0a9e849d28151bdeed"), looks := false }, kinds := [], alts := [], laidByText := true, laidKinds := [.data], laidTests := true, laidLooks := .later }
def RightsLinesUptoCardSaid : Prop := Claim7.holds Tryd.pinned (.plain (OpenSpec.upto rightsLinesSpec)) rightsLinesUptoCard

/-- THE SECOND FORM's CARD OF 'seneschallaw08.RightsWithin'. -/
def rightsWithinUptoCard : Claim7 := { stood := { row := rightsWithinUptoRow, standIns := [], harness := (true, "83acddec494b1b26dc8137a49a74086577d7482e1b3a0a0a9e849d28151bdeed"), looks := false }, kinds := [], alts := [], laidByText := true, laidKinds := [.data], laidTests := true, laidLooks := .later }
def RightsWithinUptoCardSaid : Prop := Claim7.holds Tryd.pinned (.plain (OpenSpec.upto rightsWithinSpec)) rightsWithinUptoCard

/-- THE SECOND FORM's CARD OF 'seneschallaw08.RightsNever'. -/
def rightsNeverUptoCard : Claim7 := { stood := { row := rightsNeverUptoRow, standIns := [], harness := (true, "83acddec494b1b26dc8137a49a74086577d7482e1b3a0a0a9e849d28151bdeed"), looks := false }, kinds := [], alts := [], laidByText := true, laidKinds := [.data], laidTests := true, laidLooks := .later }
def RightsNeverUptoCardSaid : Prop := Claim7.holds Tryd.pinned (.plain (OpenSpec.upto rightsNeverSpec)) rightsNeverUptoCard

/-- THE SECOND FORM's CARD OF 'seneschallaw08.RightsOrder'. -/
def rightsOrderUptoCard : Claim7 := { stood := { row := rightsOrderUptoRow, standIns := [], harness := (true, "83acddec494b1b26dc8137a49a74086577d7482e1b3a0a0a9e849d28151bdeed"), looks := false }, kinds := [], alts := [], laidByText := true, laidKinds := [.data], laidTests := true, laidLooks := .later }
def RightsOrderUptoCardSaid : Prop := Claim7.holds Tryd.pinned (.plain (OpenSpec.upto rightsOrderSpec)) rightsOrderUptoCard

/-- THE SECOND FORM's CARD OF 'seneschallaw08.RightsBack'. -/
def rightsBackUptoCard : Claim7 := { stood := { row := rightsBackUptoRow, standIns := [], harness := (true, "83acddec494b1b26dc8137a49a74086577d7482e1b3a0a0a9e849d28151bdeed"), looks := false }, kinds := [], alts := [], laidByText := true, laidKinds := [.data], laidTests := true, laidLooks := .later }
def RightsBackUptoCardSaid : Prop := Claim7.holds Tryd.pinned (.plain (OpenSpec.upto rightsBackSpec)) rightsBackUptoCard
end Rows
end Go.Proofs.YtpnjojkjepblaaaDoor
