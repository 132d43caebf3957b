/-
  DERIVED. GIVEN WITH THE SEED: THE CARDS: each row of YtpamgeenknkjcaaDoorRows.lean that lists a variable, with what it lists TIED to the program's text (the seventh form; the later family's looks); each row that meets fmt, with fmt's text TOLD by the authors' own Lean function (tested against real Go, not proved from fmt's source: count such statements apart). THE CARD IS WHAT COUNTS. Prove the row's statement (the work); the ties are given (YtpamgeenknkjcaaDoorTie.lean); close each card by the builder's one call (the guide's Derived/Test/ToyasCard.lean, 'card_holds'). Laid BY PROGRAM, IN A SANDBOX (cutbox-door.mjs). By AI agents, Wed Nov 11 2026. No macro, syntax, notation, axiom, sorry.
-/
import Derived.Test.YtpamgeenknkjcaaDoorRows
import GoSem.ClaimSeven
namespace Go.Proofs.YtpamgeenknkjcaaDoor
namespace Rows

/-- THE TIED CARD OF 'seneschallaw09.TokenMints'. -/
def tokenMintsCard : Claim7 := { stood := { row := tokenMintsRow, standIns := [], harness := (true, "5260e10de32231f37acd9c3f0db6c7786efe231a2f4f4c7be5ebcb85fe192848"), looks := false }, kinds := [], alts := [], laidByText := true, laidKinds := [.data, .data], laidTests := true, laidLooks := .later }
def TokenMintsCardSaid : Prop := Claim7.holds Tryd.pinned (.plain (OpenSpec.ofChange tokenMintsSpec)) tokenMintsCard

/-- THE TIED CARD OF 'seneschallaw09.TokenBytes'. -/
def tokenBytesCard : Claim7 := { stood := { row := tokenBytesRow, standIns := [], harness := (true, "5260e10de32231f37acd9c3f0db6c7786efe231a2f4f4c7be5ebcb85fe192848"), looks := false }, kinds := [], alts := [], laidByText := true, laidKinds := [.data, .data], laidTests := true, laidLooks := .later }
def TokenBytesCardSaid : Prop := Claim7.holds Tryd.pinned (.plain (OpenSpec.ofChange tokenBytesSpec)) tokenBytesCard

/-- THE TIED CARD OF 'seneschallaw09.TokenVerifies'. -/
def tokenVerifiesCard : Claim7 := { stood := { row := tokenVerifiesRow, standIns := [], harness := (true, "5260e10de32231f37acd9c3f0db6c7786efe231a2f4f4c7be5ebcb85fe192848"), looks := false }, kinds := [], alts := [], laidByText := true, laidKinds := [.data, .data], laidTests := true, laidLooks := .later }
def TokenVerifiesCardSaid : Prop := Claim7.holds Tryd.pinned (.plain (OpenSpec.ofChange tokenVerifiesSpec)) tokenVerifiesCard

/-- THE TIED CARD OF 'seneschallaw09.TokenMinted'. -/
def tokenMintedCard : Claim7 := { stood := { row := tokenMintedRow, standIns := [], harness := (true, "5260e10de32231f37acd9c3f0db6c7786efe231a2f4f4c7be5ebcb85fe192848"), looks := false }, kinds := [], alts := [], laidByText := true, laidKinds := [.data, .data], laidTests := true, laidLooks := .later }
def TokenMintedCardSaid : Prop := Claim7.holds Tryd.pinned (.plain (OpenSpec.ofChange tokenMintedSpec)) tokenMintedCard

/-- THE TIED CARD OF 'seneschallaw09.TokenHolder'. -/
def tokenHolderCard : Claim7 := { stood := { row := tokenHolderRow, standIns := [], harness := (true, "5260e10de32231f37acd9c3f0db6c7786efe231a2f4f4c7be5ebcb85fe192848"), looks := false }, kinds := [], alts := [], laidByText := true, laidKinds := [.data, .data], laidTests := true, laidLooks := .later }
def TokenHolderCardSaid : Prop := Claim7.holds Tryd.pinned (.plain (OpenSpec.ofChange tokenHolderSpec)) tokenHolderCard

/-- THE SECOND FORM's CARD OF 'seneschallaw09.TokenMints'. -/
def tokenMintsUptoCard : Claim7 := { stood := { row := tokenMintsUptoRow, standIns := [], harness := (true, "5260e10de32231f37acd9c3f0db6c7786efe231a2f4f4c7be5ebcb85fe192848"), looks := false }, kinds := [], alts := [], laidByText := true, laidKinds := [.data, .data], laidTests := true, laidLooks := .later }
def TokenMintsUptoCardSaid : Prop := Claim7.holds Tryd.pinned (.plain (OpenSpec.upto tokenMintsSpec)) tokenMintsUptoCard

/-- THE SECOND FORM's CARD OF 'seneschallaw09.TokenBytes'. -/
def tokenBytesUptoCard : Claim7 := { stood := { row := tokenBytesUptoRow, standIns := [], harness := (true, "5260e10de32231f37acd9c3f0db6c7786efe231a2f4f4c7be5ebcb85fe192848"), looks := false }, kinds := [], alts := [], laidByText := true, laidKinds := [.data, .data], laidTests := true, laidLooks := .later }
def TokenBytesUptoCardSaid : Prop := Claim7.holds Tryd.pinned (.plain (OpenSpec.upto tokenBytesSpec)) tokenBytesUptoCard

/-- THE SECOND FORM's CARD OF 'seneschallaw09.TokenVerifies'. -/
def tokenVerifiesUptoCard : Claim7 := { stood := { row := tokenVerifiesUptoRow, standIns := [], harness := (true, "5260e10de32231f37acd9c3f0db6c7786efe231a2f4f4c7be5ebcb85fe192848"), looks := false }, kinds := [], alts := [], laidByText := true, laidKinds := [.data, .data], laidTests := true, laidLooks := .later }
def TokenVerifiesUptoCardSaid : Prop := Claim7.holds Tryd.pinned (.plain (OpenSpec.upto tokenVerifiesSpec)) tokenVerifiesUptoCard

/-- THE SECOND FORM's CARD OF 'seneschallaw09.TokenMinted'. -/
def tokenMintedUptoCard : Claim7 := { stood := { row := tokenMintedUptoRow, standIns := [], harness := (true, "5260e10de32231f37acd9c3f0db6c7786efe231a2f4f4c7be5ebcb85fe192848"), looks := false }, kinds := [], alts := [], laidByText := true, laidKinds := [.data, .data], laidTests := true, laidLooks := .later }
def TokenMintedUptoCardSaid : Prop := Claim7.holds Tryd.pinned (.plain (OpenSpec.upto tokenMintedSpec)) tokenMintedUptoCard

/-- THE SECOND FORM's CARD OF 'seneschallaw09.TokenHolder'. -/
def tokenHolderUptoCard : Claim7 := { stood := { row := tokenHolderUptoRow, standIns := [], harness := (true, "5260e10de32231f37acd9c3f0db6c7786efe231a2f4f4c7be5ebcb85fe192848"), looks := false }, kinds := [], alts := [], laidByText := true, laidKinds := [.data, .data], laidTests := true, laidLooks := .later }
def TokenHolderUptoCardSaid : Prop := Claim7.holds Tryd.pinned (.plain (OpenSpec.upto tokenHolderSpec)) tokenHolderUptoCard
end Rows
end Go.Proofs.YtpamgeenknkjcaaDoor
