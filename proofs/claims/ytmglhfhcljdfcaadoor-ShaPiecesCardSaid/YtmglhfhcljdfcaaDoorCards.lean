/-
  DERIVED. GIVEN WITH THE SEED: THE CARDS: each row of YtmglhfhcljdfcaaDoorRows.lean that lists a variable, with what it lists TIED to the program's text (the seventh form; the later family's looks); each row that meets fmt, with fmt's text TOLD by the authors' own Lean function (tested against real Go, not proved from fmt's source: count such statements apart). THE CARD IS WHAT COUNTS. Prove the row's statement (the work); the ties are given (YtmglhfhcljdfcaaDoorTie.lean); close each card by the builder's one call (the guide's Derived/Test/ToyasCard.lean, 'card_holds'). Laid BY PROGRAM, IN A SANDBOX (cutbox-door.mjs). By AI agents, Wed Nov 11 2026. No macro, syntax, notation, axiom, sorry.
-/
import Derived.Test.YtmglhfhcljdfcaaDoorRows
import GoSem.ClaimSeven
namespace Go.Proofs.YtmglhfhcljdfcaaDoor
namespace Rows

/-- THE TIED CARD OF 'seneschallaw02.ShaSum'. -/
def shaSumCard : Claim7 := { stood := { row := shaSumRow, standIns := [], harness := (true, "60cc89ec81d426a21b6de713dcc3786baf383cb4398e91f502c7adde99436cbc"), looks := false }, kinds := [], alts := [], laidByText := true, laidKinds := [.data, .data], laidTests := true, laidLooks := .later }
def ShaSumCardSaid : Prop := Claim7.holds Tryd.pinned (.plain (OpenSpec.ofChange shaSumSpec)) shaSumCard

/-- THE TIED CARD OF 'seneschallaw02.ShaPieces'. -/
def shaPiecesCard : Claim7 := { stood := { row := shaPiecesRow, standIns := [], harness := (true, "60cc89ec81d426a21b6de713dcc3786baf383cb4398e91f502c7adde99436cbc"), looks := false }, kinds := [], alts := [], laidByText := true, laidKinds := [.data, .data], laidTests := true, laidLooks := .later }
def ShaPiecesCardSaid : Prop := Claim7.holds Tryd.pinned (.plain (OpenSpec.ofChange shaPiecesSpec)) shaPiecesCard

/-- THE TIED CARD OF 'seneschallaw02.ShaCut'. -/
def shaCutCard : Claim7 := { stood := { row := shaCutRow, standIns := [], harness := (true, "60cc89ec81d426a21b6de713dcc3786baf383cb4398e91f502c7adde99436cbc"), looks := false }, kinds := [], alts := [], laidByText := true, laidKinds := [.data, .data], laidTests := true, laidLooks := .later }
def ShaCutCardSaid : Prop := Claim7.holds Tryd.pinned (.plain (OpenSpec.ofChange shaCutSpec)) shaCutCard

/-- THE TIED CARD OF 'seneschallaw02.ShaAsked'. -/
def shaAskedCard : Claim7 := { stood := { row := shaAskedRow, standIns := [], harness := (true, "60cc89ec81d426a21b6de713dcc3786baf383cb4398e91f502c7adde99436cbc"), looks := false }, kinds := [], alts := [], laidByText := true, laidKinds := [.data, .data], laidTests := true, laidLooks := .later }
def ShaAskedCardSaid : Prop := Claim7.holds Tryd.pinned (.plain (OpenSpec.ofChange shaAskedSpec)) shaAskedCard

/-- THE TIED CARD OF 'seneschallaw03.HmacSum'. -/
def hmacSumCard : Claim7 := { stood := { row := hmacSumRow, standIns := [], harness := (true, "60cc89ec81d426a21b6de713dcc3786baf383cb4398e91f502c7adde99436cbc"), looks := false }, kinds := [], alts := [], laidByText := true, laidKinds := [.data, .data], laidTests := true, laidLooks := .later }
def HmacSumCardSaid : Prop := Claim7.holds Tryd.pinned (.plain (OpenSpec.ofChange hmacSumSpec)) hmacSumCard

/-- THE TIED CARD OF 'seneschallaw03.HmacDerive'. -/
def hmacDeriveCard : Claim7 := { stood := { row := hmacDeriveRow, standIns := [], harness := (true, "60cc89ec81d426a21b6de713dcc3786baf383cb4398e91f502c7adde99436cbc"), looks := false }, kinds := [], alts := [], laidByText := true, laidKinds := [.data, .data], laidTests := true, laidLooks := .later }
def HmacDeriveCardSaid : Prop := Claim7.holds Tryd.pinned (.plain (OpenSpec.ofChange hmacDeriveSpec)) hmacDeriveCard

/-- THE TIED CARD OF 'seneschallaw03.HmacKeys'. -/
def hmacKeysCard : Claim7 := { stood := { row := hmacKeysRow, standIns := [], harness := (true, "60cc89ec81d426a21b6de713dcc3786baf383cb4398e91f502c7adde99436cbc"), looks := false }, kinds := [], alts := [], laidByText := true, laidKinds := [.data, .data], laidTests := true, laidLooks := .later }
def HmacKeysCardSaid : Prop := Claim7.holds Tryd.pinned (.plain (OpenSpec.ofChange hmacKeysSpec)) hmacKeysCard

/-- THE TIED CARD OF 'seneschallaw03.HmacTwice'. -/
def hmacTwiceCard : Claim7 := { stood := { row := hmacTwiceRow, standIns := [], harness := (true, "60cc89ec81d426a21b6de713dcc3786baf383cb4398e91f502c7adde99436cbc"), looks := false }, kinds := [], alts := [], laidByText := true, laidKinds := [.data, .data], laidTests := true, laidLooks := .later }
def HmacTwiceCardSaid : Prop := Claim7.holds Tryd.pinned (.plain (OpenSpec.ofChange hmacTwiceSpec)) hmacTwiceCard

/-- THE TIED CARD OF 'seneschallaw03.HmacDerived'. -/
def hmacDerivedCard : Claim7 := { stood := { row := hmacDerivedRow, standIns := [], harness := (true, "60cc89ec81d426a21b6de713dcc3786baf383cb4398e91f502c7adde99436cbc"), looks := false }, kinds := [], alts := [], laidByText := true, laidKinds := [.data, .data], laidTests := true, laidLooks := .later }
def HmacDerivedCardSaid : Prop := Claim7.holds Tryd.pinned (.plain (OpenSpec.ofChange hmacDerivedSpec)) hmacDerivedCard

/-- THE TIED CARD OF 'seneschallaw03.HmacUnlike'. -/
def hmacUnlikeCard : Claim7 := { stood := { row := hmacUnlikeRow, standIns := [], harness := (true, "60cc89ec81d426a21b6de713dcc3786baf383cb4398e91f502c7adde99436cbc"), looks := false }, kinds := [], alts := [], laidByText := true, laidKinds := [.data, .data], laidTests := true, laidLooks := .later }
def HmacUnlikeCardSaid : Prop := Claim7.holds Tryd.pinned (.plain (OpenSpec.ofChange hmacUnlikeSpec)) hmacUnlikeCard

/-- THE SECOND FORM's CARD OF 'seneschallaw02.ShaSum'. -/
def shaSumUptoCard : Claim7 := { stood := { row := shaSumUptoRow, standIns := [], harness := (true, "60cc89ec81d426a21b6de713dcc3786baf383cb4398e91f502c7adde99436cbc"), looks := false }, kinds := [], alts := [], laidByText := true, laidKinds := [.data, .data], laidTests := true, laidLooks := .later }
def ShaSumUptoCardSaid : Prop := Claim7.holds Tryd.pinned (.plain (OpenSpec.upto shaSumSpec)) shaSumUptoCard

/-- THE SECOND FORM's CARD OF 'seneschallaw02.ShaPieces'. -/
def shaPiecesUptoCard : Claim7 := { stood := { row := shaPiecesUptoRow, standIns := [], harness := (true, "60cc89ec81d426a21b6de713dcc3786baf383cb4398e91f502c7adde99436cbc"), looks := false }, kinds := [], alts := [], laidByText := true, laidKinds := [.data, .data], laidTests := true, laidLooks := .later }
def ShaPiecesUptoCardSaid : Prop := Claim7.holds Tryd.pinned (.plain (OpenSpec.upto shaPiecesSpec)) shaPiecesUptoCard

/-- THE SECOND FORM's CARD OF 'seneschallaw02.ShaCut'. -/
def shaCutUptoCard : Claim7 := { stood := { row := shaCutUptoRow, standIns := [], harness := (true, "60cc89ec81d426a21b6de713dcc3786baf383cb4398e91f502c7adde99436cbc"), looks := false }, kinds := [], alts := [], laidByText := true, laidKinds := [.data, .data], laidTests := true, laidLooks := .later }
def ShaCutUptoCardSaid : Prop := Claim7.holds Tryd.pinned (.plain (OpenSpec.upto shaCutSpec)) shaCutUptoCard

/-- THE SECOND FORM's CARD OF 'seneschallaw02.ShaAsked'. -/
def shaAskedUptoCard : Claim7 := { stood := { row := shaAskedUptoRow, standIns := [], harness := (true, "60cc89ec81d426a21b6de713dcc3786baf383cb4398e91f502c7adde99436cbc"), looks := false }, kinds := [], alts := [], laidByText := true, laidKinds := [.data, .data], laidTests := true, laidLooks := .later }
def ShaAskedUptoCardSaid : Prop := Claim7.holds Tryd.pinned (.plain (OpenSpec.upto shaAskedSpec)) shaAskedUptoCard

/-- THE SECOND FORM's CARD OF 'seneschallaw03.HmacSum'. -/
def hmacSumUptoCard : Claim7 := { stood := { row := hmacSumUptoRow, standIns := [], harness := (true, "60cc89ec81d426a21b6de713dcc3786baf383cb4398e91f502c7adde99436cbc"), looks := false }, kinds := [], alts := [], laidByText := true, laidKinds := [.data, .data], laidTests := true, laidLooks := .later }
def HmacSumUptoCardSaid : Prop := Claim7.holds Tryd.pinned (.plain (OpenSpec.upto hmacSumSpec)) hmacSumUptoCard

/-- THE SECOND FORM's CARD OF 'seneschallaw03.HmacDerive'. -/
def hmacDeriveUptoCard : Claim7 := { stood := { row := hmacDeriveUptoRow, standIns := [], harness := (true, "60cc89ec81d426a21b6de713dcc3786baf383cb4398e91f502c7adde99436cbc"), looks := false }, kinds := [], alts := [], laidByText := true, laidKinds := [.data, .data], laidTests := true, laidLooks := .later }
def HmacDeriveUptoCardSaid : Prop := Claim7.holds Tryd.pinned (.plain (OpenSpec.upto hmacDeriveSpec)) hmacDeriveUptoCard

/-- THE SECOND FORM's CARD OF 'seneschallaw03.HmacKeys'. -/
def hmacKeysUptoCard : Claim7 := { stood := { row := hmacKeysUptoRow, standIns := [], harness := (true, "60cc89ec81d426a21b6de713dcc3786baf383cb4398e91f502c7adde99436cbc"), looks := false }, kinds := [], alts := [], laidByText := true, laidKinds := [.data, .data], laidTests := true, laidLooks := .later }
def HmacKeysUptoCardSaid : Prop := Claim7.holds Tryd.pinned (.plain (OpenSpec.upto hmacKeysSpec)) hmacKeysUptoCard

/-- THE SECOND FORM's CARD OF 'seneschallaw03.HmacTwice'. -/
def hmacTwiceUptoCard : Claim7 := { stood := { row := hmacTwiceUptoRow, standIns := [], harness := (true, "60cc89ec81d426a21b6de713dcc3786baf383cb4398e91f502c7adde99436cbc"), looks := false }, kinds := [], alts := [], laidByText := true, laidKinds := [.data, .data], laidTests := true, laidLooks := .later }
def HmacTwiceUptoCardSaid : Prop := Claim7.holds Tryd.pinned (.plain (OpenSpec.upto hmacTwiceSpec)) hmacTwiceUptoCard

/-- THE SECOND FORM's CARD OF 'seneschallaw03.HmacDerived'. -/
def hmacDerivedUptoCard : Claim7 := { stood := { row := hmacDerivedUptoRow, standIns := [], harness := (true, "60cc89ec81d426a21b6de713dcc3786baf383cb4398e91f502c7adde99436cbc"), looks := false }, kinds := [], alts := [], laidByText := true, laidKinds := [.data, .data], laidTests := true, laidLooks := .later }
def HmacDerivedUptoCardSaid : Prop := Claim7.holds Tryd.pinned (.plain (OpenSpec.upto hmacDerivedSpec)) hmacDerivedUptoCard

/-- THE SECOND FORM's CARD OF 'seneschallaw03.HmacUnlike'. -/
def hmacUnlikeUptoCard : Claim7 := { stood := { row := hmacUnlikeUptoRow, standIns := [], harness := (true, "60cc89ec81d426a21b6de713dcc3786baf383cb4398e91f502c7adde99436cbc"), looks := false }, kinds := [], alts := [], laidByText := true, laidKinds := [.data, .data], laidTests := true, laidLooks := .later }
def HmacUnlikeUptoCardSaid : Prop := Claim7.holds Tryd.pinned (.plain (OpenSpec.upto hmacUnlikeSpec)) hmacUnlikeUptoCard
end Rows
end Go.Proofs.YtmglhfhcljdfcaaDoor
