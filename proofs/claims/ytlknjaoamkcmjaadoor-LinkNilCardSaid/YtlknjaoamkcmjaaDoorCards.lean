/-
  DERIVED. GIVEN WITH THE SEED: THE CARDS: each row of YtlknjaoamkcmjaaDoorRows.lean that lists a variable, with what it lists TIED to the program's text (the seventh form; the later family's looks); each row that meets fmt, with fmt's text TOLD by the authors' own Lean function (tested against real Go, not proved from fmt's source: count such statements apart). THE CARD IS WHAT COUNTS. Prove the row's statement (the work); the ties are given (YtlknjaoamkcmjaaDoorTie.lean); close each card by the builder's one call (the guide's Derived/Test/ToyasCard.lean, 'card_holds'). Laid BY PROGRAM, IN A SANDBOX (cutbox-door.mjs). By AI agents, Wed Nov 11 2026. No macro, syntax, notation, axiom, sorry.
-/
import Derived.Test.YtlknjaoamkcmjaaDoorRows
import GoSem.ClaimSeven
namespace Go.Proofs.YtlknjaoamkcmjaaDoor
namespace Rows

/-- THE TIED CARD OF 'seneschallaw19.LinkSeal'. -/
def linkSealCard : Claim7 := { stood := { row := linkSealRow, standIns := [], harness := (true, "e1f4bf0391375f6469a6f9fe85de91d6466293dcb0ba7378d43a9318a7ce66ff"), looks := false }, kinds := [], alts := [], laidByText := true, laidKinds := [.data, .data], laidTests := true, laidLooks := .later }
def LinkSealCardSaid : Prop := Claim7.holds Tryd.pinned (.plain (OpenSpec.ofChange linkSealSpec)) linkSealCard

/-- THE TIED CARD OF 'seneschallaw19.LinkNil'. -/
def linkNilCard : Claim7 := { stood := { row := linkNilRow, standIns := [], harness := (true, "e1f4bf0391375f6469a6f9fe85de91d6466293dcb0ba7378d43a9318a7ce66ff"), looks := false }, kinds := [], alts := [], laidByText := true, laidKinds := [.data, .data], laidTests := true, laidLooks := .later }
def LinkNilCardSaid : Prop := Claim7.holds Tryd.pinned (.plain (OpenSpec.ofChange linkNilSpec)) linkNilCard

/-- THE TIED CARD OF 'seneschallaw19.LinkOnce'. -/
def linkOnceCard : Claim7 := { stood := { row := linkOnceRow, standIns := [], harness := (true, "e1f4bf0391375f6469a6f9fe85de91d6466293dcb0ba7378d43a9318a7ce66ff"), looks := false }, kinds := [], alts := [], laidByText := true, laidKinds := [.data, .data], laidTests := true, laidLooks := .later }
def LinkOnceCardSaid : Prop := Claim7.holds Tryd.pinned (.plain (OpenSpec.ofChange linkOnceSpec)) linkOnceCard

/-- THE TIED CARD OF 'seneschallaw19.LinkBack'. -/
def linkBackCard : Claim7 := { stood := { row := linkBackRow, standIns := [], harness := (true, "e1f4bf0391375f6469a6f9fe85de91d6466293dcb0ba7378d43a9318a7ce66ff"), looks := false }, kinds := [], alts := [], laidByText := true, laidKinds := [.data, .data], laidTests := true, laidLooks := .later }
def LinkBackCardSaid : Prop := Claim7.holds Tryd.pinned (.plain (OpenSpec.ofChange linkBackSpec)) linkBackCard

/-- THE TIED CARD OF 'seneschallaw19.LinkBoots'. -/
def linkBootsCard : Claim7 := { stood := { row := linkBootsRow, standIns := [], harness := (true, "e1f4bf0391375f6469a6f9fe85de91d6466293dcb0ba7378d43a9318a7ce66ff"), looks := false }, kinds := [], alts := [], laidByText := true, laidKinds := [.data, .data], laidTests := true, laidLooks := .later }
def LinkBootsCardSaid : Prop := Claim7.holds Tryd.pinned (.plain (OpenSpec.ofChange linkBootsSpec)) linkBootsCard

/-- THE SECOND FORM's CARD OF 'seneschallaw19.LinkSeal'. -/
def linkSealUptoCard : Claim7 := { stood := { row := linkSealUptoRow, standIns := [], harness := (true, "e1f4bf0391375f6469a6f9fe85de91d6466293dcb0ba7378d43a9318a7ce66ff"), looks := false }, kinds := [], alts := [], laidByText := true, laidKinds := [.data, .data], laidTests := true, laidLooks := .later }
def LinkSealUptoCardSaid : Prop := Claim7.holds Tryd.pinned (.plain (OpenSpec.upto linkSealSpec)) linkSealUptoCard

/-- THE SECOND FORM's CARD OF 'seneschallaw19.LinkNil'. -/
def linkNilUptoCard : Claim7 := { stood := { row := linkNilUptoRow, standIns := [], harness := (true, "e1f4bf0391375f6469a6f9fe85de91d6466293dcb0ba7378d43a9318a7ce66ff"), looks := false }, kinds := [], alts := [], laidByText := true, laidKinds := [.data, .data], laidTests := true, laidLooks := .later }
def LinkNilUptoCardSaid : Prop := Claim7.holds Tryd.pinned (.plain (OpenSpec.upto linkNilSpec)) linkNilUptoCard

/-- THE SECOND FORM's CARD OF 'seneschallaw19.LinkOnce'. -/
def linkOnceUptoCard : Claim7 := { stood := { row := linkOnceUptoRow, standIns := [], harness := (true, "e1f4bf0391375f6469a6f9fe85de91d6466293dcb0ba7378d43a9318a7ce66ff"), looks := false }, kinds := [], alts := [], laidByText := true, laidKinds := [.data, .data], laidTests := true, laidLooks := .later }
def LinkOnceUptoCardSaid : Prop := Claim7.holds Tryd.pinned (.plain (OpenSpec.upto linkOnceSpec)) linkOnceUptoCard

/-- THE SECOND FORM's CARD OF 'seneschallaw19.LinkBack'. -/
def linkBackUptoCard : Claim7 := { stood := { row := linkBackUptoRow, standIns := [], harness := (true, "e1f4bf0391375f6469a6f9fe85de91d6466293dcb0ba7378d43a9318a7ce66ff"), looks := false }, kinds := [], alts := [], laidByText := true, laidKinds := [.data, .data], laidTests := true, laidLooks := .later }
def LinkBackUptoCardSaid : Prop := Claim7.holds Tryd.pinned (.plain (OpenSpec.upto linkBackSpec)) linkBackUptoCard

/-- THE SECOND FORM's CARD OF 'seneschallaw19.LinkBoots'. -/
def linkBootsUptoCard : Claim7 := { stood := { row := linkBootsUptoRow, standIns := [], harness := (true, "e1f4bf0391375f6469a6f9fe85de91d6466293dcb0ba7378d43a9318a7ce66ff"), looks := false }, kinds := [], alts := [], laidByText := true, laidKinds := [.data, .data], laidTests := true, laidLooks := .later }
def LinkBootsUptoCardSaid : Prop := Claim7.holds Tryd.pinned (.plain (OpenSpec.upto linkBootsSpec)) linkBootsUptoCard
end Rows
end Go.Proofs.YtlknjaoamkcmjaaDoor
