/-
  DERIVED. GIVEN WITH THE SEED: THE CARDS: each row of YtjfeepmjebdahaaDoorRows.lean that lists a variable, with what it lists TIED to the program's text (the seventh form; the later family's looks); each row that meets fmt, with fmt's text TOLD by the authors' own Lean function (tested against real Go, not proved from fmt's source: count such statements apart). THE CARD IS WHAT COUNTS. Prove the row's statement (the work); the ties are given (YtjfeepmjebdahaaDoorTie.lean); close each card by the builder's one call (the guide's Derived/Test/ToyasCard.lean, 'card_holds'). Laid BY PROGRAM, IN A SANDBOX (cutbox-door.mjs). By AI agents, Wed Nov 11 2026. No macro, syntax, notation, axiom, sorry.
-/
import Derived.Test.YtjfeepmjebdahaaDoorRows
import GoSem.ClaimSeven
namespace Go.Proofs.YtjfeepmjebdahaaDoor
namespace Rows

/-- THE TIED CARD OF 'seneschallaw07.WalPlays'. -/
def walPlaysCard : Claim7 := { stood := { row := walPlaysRow, standIns := [], harness := (true, "1b3457e65627155400ea17cc8e5c3e3ce944ca7ce24f7a284f97f02ac31fe471"), looks := false }, kinds := [], alts := [], laidByText := true, laidKinds := [.data, .data], laidTests := true, laidLooks := .later }
def WalPlaysCardSaid : Prop := Claim7.holds Tryd.pinned (.plain (OpenSpec.ofChange walPlaysSpec)) walPlaysCard

/-- THE TIED CARD OF 'seneschallaw07.WalNil'. -/
def walNilCard : Claim7 := { stood := { row := walNilRow, standIns := [], harness := (true, "1b3457e65627155400ea17cc8e5c3e3ce944ca7ce24f7a284f97f02ac31fe471"), looks := false }, kinds := [], alts := [], laidByText := true, laidKinds := [.data, .data], laidTests := true, laidLooks := .later }
def WalNilCardSaid : Prop := Claim7.holds Tryd.pinned (.plain (OpenSpec.ofChange walNilSpec)) walNilCard

/-- THE TIED CARD OF 'seneschallaw07.WalBegins'. -/
def walBeginsCard : Claim7 := { stood := { row := walBeginsRow, standIns := [], harness := (true, "1b3457e65627155400ea17cc8e5c3e3ce944ca7ce24f7a284f97f02ac31fe471"), looks := false }, kinds := [], alts := [], laidByText := true, laidKinds := [.data, .data], laidTests := true, laidLooks := .later }
def WalBeginsCardSaid : Prop := Claim7.holds Tryd.pinned (.plain (OpenSpec.ofChange walBeginsSpec)) walBeginsCard

/-- THE TIED CARD OF 'seneschallaw07.WalAdds'. -/
def walAddsCard : Claim7 := { stood := { row := walAddsRow, standIns := [], harness := (true, "1b3457e65627155400ea17cc8e5c3e3ce944ca7ce24f7a284f97f02ac31fe471"), looks := false }, kinds := [], alts := [], laidByText := true, laidKinds := [.data, .data], laidTests := true, laidLooks := .later }
def WalAddsCardSaid : Prop := Claim7.holds Tryd.pinned (.plain (OpenSpec.ofChange walAddsSpec)) walAddsCard

/-- THE TIED CARD OF 'seneschallaw07.WalTorn'. -/
def walTornCard : Claim7 := { stood := { row := walTornRow, standIns := [], harness := (true, "1b3457e65627155400ea17cc8e5c3e3ce944ca7ce24f7a284f97f02ac31fe471"), looks := false }, kinds := [], alts := [], laidByText := true, laidKinds := [.data, .data], laidTests := true, laidLooks := .later }
def WalTornCardSaid : Prop := Claim7.holds Tryd.pinned (.plain (OpenSpec.ofChange walTornSpec)) walTornCard

/-- THE SECOND FORM's CARD OF 'seneschallaw07.WalPlays'. -/
def walPlaysUptoCard : Claim7 := { stood := { row := walPlaysUptoRow, standIns := [], harness := (true, "1b3457e65627155400ea17cc8e5c3e3ce944ca7ce24f7a284f97f02ac31fe471"), looks := false }, kinds := [], alts := [], laidByText := true, laidKinds := [.data, .data], laidTests := true, laidLooks := .later }
def WalPlaysUptoCardSaid : Prop := Claim7.holds Tryd.pinned (.plain (OpenSpec.upto walPlaysSpec)) walPlaysUptoCard

/-- THE SECOND FORM's CARD OF 'seneschallaw07.WalNil'. -/
def walNilUptoCard : Claim7 := { stood := { row := walNilUptoRow, standIns := [], harness := (true, "1b3457e65627155400ea17cc8e5c3e3ce944ca7ce24f7a284f97f02ac31fe471"), looks := false }, kinds := [], alts := [], laidByText := true, laidKinds := [.data, .data], laidTests := true, laidLooks := .later }
def WalNilUptoCardSaid : Prop := Claim7.holds Tryd.pinned (.plain (OpenSpec.upto walNilSpec)) walNilUptoCard

/-- THE SECOND FORM's CARD OF 'seneschallaw07.WalBegins'. -/
def walBeginsUptoCard : Claim7 := { stood := { row := walBeginsUptoRow, standIns := [], harness := (true, "1b3457e65627155400ea17cc8e5c3e3ce944ca7ce24f7a284f97f02ac31fe471"), looks := false }, kinds := [], alts := [], laidByText := true, laidKinds := [.data, .data], laidTests := true, laidLooks := .later }
def WalBeginsUptoCardSaid : Prop := Claim7.holds Tryd.pinned (.plain (OpenSpec.upto walBeginsSpec)) walBeginsUptoCard

/-- THE SECOND FORM's CARD OF 'seneschallaw07.WalAdds'. -/
def walAddsUptoCard : Claim7 := { stood := { row := walAddsUptoRow, standIns := [], harness := (true, "1b3457e65627155400ea17cc8e5c3e3ce944ca7ce24f7a284f97f02ac31fe471"), looks := false }, kinds := [], alts := [], laidByText := true, laidKinds := [.data, .data], laidTests := true, laidLooks := .later }
def WalAddsUptoCardSaid : Prop := Claim7.holds Tryd.pinned (.plain (OpenSpec.upto walAddsSpec)) walAddsUptoCard

/-- THE SECOND FORM's CARD OF 'seneschallaw07.WalTorn'. -/
def walTornUptoCard : Claim7 := { stood := { row := walTornUptoRow, standIns := [], harness := (true, "1b3457e65627155400ea17cc8e5c3e3ce944ca7ce24f7a284f97f02ac31fe471"), looks := false }, kinds := [], alts := [], laidByText := true, laidKinds := [.data, .data], laidTests := true, laidLooks := .later }
def WalTornUptoCardSaid : Prop := Claim7.holds Tryd.pinned (.plain (OpenSpec.upto walTornSpec)) walTornUptoCard
end Rows
end Go.Proofs.YtjfeepmjebdahaaDoor
