/-
  DERIVED. GIVEN WITH THE SEED: THE CARDS: each row of YtmhmmpicedlcpaaGreatDoorRows.lean that lists a variable, with what it lists TIED to the program's text (the seventh form; the later family's looks); each row that meets fmt, with fmt's text TOLD by the authors' own Lean function (tested against real Go, not proved from fmt's source: count such statements apart). THE CARD IS WHAT COUNTS. Prove the row's statement (the work); the ties are given (YtmhmmpicedlcpaaGreatDoorTie.lean); close each card by the builder's one call (the guide's Derived/Test/ToyasCard.lean, 'card_holds'). Laid BY PROGRAM, IN A SANDBOX (cutbox-door.mjs). By AI agents, Wed Nov 11 2026. No macro, syntax, notation, axiom, sorry.
-/
import Derived.Test.YtmhmmpicedlcpaaGreatDoorRows
import GoSem.ClaimSeven
namespace Go.Proofs.YtmhmmpicedlcpaaGreatDoor
namespace Rows

/-- THE TIED CARD OF 'trellislaw.MoveRows'. -/
def moveRowsCard : Claim7 := { stood := { row := moveRowsRow, standIns := [], harness := (true, "1a33982480e23ccc160731abe6823c500600e8a54ccaec5314f9fb2c1229d7d6"), looks := false }, kinds := [], alts := [], laidByText := true, laidKinds := [.data], laidTests := true, laidLooks := .later }
def MoveRowsCardSaid : Prop := Claim7.holds Tryz.pinned (.plain (OpenSpec.ofChange moveRowsSpec)) moveRowsCard

/-- THE TIED CARD OF 'trellislaw.MoveTabs'. -/
def moveTabsCard : Claim7 := { stood := { row := moveTabsRow, standIns := [], harness := (true, "1a33982480e23ccc160731abe6823c500600e8a54ccaec5314f9fb2c1229d7d6"), looks := false }, kinds := [], alts := [], laidByText := true, laidKinds := [.data], laidTests := true, laidLooks := .later }
def MoveTabsCardSaid : Prop := Claim7.holds Tryz.pinned (.plain (OpenSpec.ofChange moveTabsSpec)) moveTabsCard

/-- THE TIED CARD OF 'trellislaw.MoveTo'. -/
def moveToCard : Claim7 := { stood := { row := moveToRow, standIns := [], harness := (true, "1a33982480e23ccc160731abe6823c500600e8a54ccaec5314f9fb2c1229d7d6"), looks := false }, kinds := [], alts := [], laidByText := true, laidKinds := [.data], laidTests := true, laidLooks := .later }
def MoveToCardSaid : Prop := Claim7.holds Tryz.pinned (.plain (OpenSpec.ofChange moveToSpec)) moveToCard

/-- THE TIED CARD OF 'trellislaw.ShiftRegion'. -/
def shiftRegionCard : Claim7 := { stood := { row := shiftRegionRow, standIns := [], harness := (true, "1a33982480e23ccc160731abe6823c500600e8a54ccaec5314f9fb2c1229d7d6"), looks := false }, kinds := [], alts := [], laidByText := true, laidKinds := [.data], laidTests := true, laidLooks := .later }
def ShiftRegionCardSaid : Prop := Claim7.holds Tryz.pinned (.plain (OpenSpec.ofChange shiftRegionSpec)) shiftRegionCard

/-- THE TIED CARD OF 'trellislaw.ShiftFeed'. -/
def shiftFeedCard : Claim7 := { stood := { row := shiftFeedRow, standIns := [], harness := (true, "1a33982480e23ccc160731abe6823c500600e8a54ccaec5314f9fb2c1229d7d6"), looks := false }, kinds := [], alts := [], laidByText := true, laidKinds := [.data], laidTests := true, laidLooks := .later }
def ShiftFeedCardSaid : Prop := Claim7.holds Tryz.pinned (.plain (OpenSpec.ofChange shiftFeedSpec)) shiftFeedCard

/-- THE TIED CARD OF 'trellislaw.ShiftLines'. -/
def shiftLinesCard : Claim7 := { stood := { row := shiftLinesRow, standIns := [], harness := (true, "1a33982480e23ccc160731abe6823c500600e8a54ccaec5314f9fb2c1229d7d6"), looks := false }, kinds := [], alts := [], laidByText := true, laidKinds := [.data], laidTests := true, laidLooks := .later }
def ShiftLinesCardSaid : Prop := Claim7.holds Tryz.pinned (.plain (OpenSpec.ofChange shiftLinesSpec)) shiftLinesCard

/-- THE SECOND FORM's CARD OF 'trellislaw.MoveRows'. -/
def moveRowsUptoCard : Claim7 := { stood := { row := moveRowsUptoRow, standIns := [], harness := (true, "1a33982480e23ccc160731abe6823c500600e8a54ccaec5314f9fb2c1229d7d6"), looks := false }, kinds := [], alts := [], laidByText := true, laidKinds := [.data], laidTests := true, laidLooks := .later }
def MoveRowsUptoCardSaid : Prop := Claim7.holds Tryz.pinned (.plain (OpenSpec.upto moveRowsSpec)) moveRowsUptoCard

/-- THE SECOND FORM's CARD OF 'trellislaw.MoveTabs'. -/
def moveTabsUptoCard : Claim7 := { stood := { row := moveTabsUptoRow, standIns := [], harness := (true, "1a33982480e23ccc160731abe6823c500600e8a54ccaec5314f9fb2c1229d7d6"), looks := false }, kinds := [], alts := [], laidByText := true, laidKinds := [.data], laidTests := true, laidLooks := .later }
def MoveTabsUptoCardSaid : Prop := Claim7.holds Tryz.pinned (.plain (OpenSpec.upto moveTabsSpec)) moveTabsUptoCard

/-- THE SECOND FORM's CARD OF 'trellislaw.MoveTo'. -/
def moveToUptoCard : Claim7 := { stood := { row := moveToUptoRow, standIns := [], harness := (true, "1a33982480e23ccc160731abe6823c500600e8a54ccaec5314f9fb2c1229d7d6"), looks := false }, kinds := [], alts := [], laidByText := true, laidKinds := [.data], laidTests := true, laidLooks := .later }
def MoveToUptoCardSaid : Prop := Claim7.holds Tryz.pinned (.plain (OpenSpec.upto moveToSpec)) moveToUptoCard

/-- THE SECOND FORM's CARD OF 'trellislaw.ShiftRegion'. -/
def shiftRegionUptoCard : Claim7 := { stood := { row := shiftRegionUptoRow, standIns := [], harness := (true, "1a33982480e23ccc160731abe6823c500600e8a54ccaec5314f9fb2c1229d7d6"), looks := false }, kinds := [], alts := [], laidByText := true, laidKinds := [.data], laidTests := true, laidLooks := .later }
def ShiftRegionUptoCardSaid : Prop := Claim7.holds Tryz.pinned (.plain (OpenSpec.upto shiftRegionSpec)) shiftRegionUptoCard

/-- THE SECOND FORM's CARD OF 'trellislaw.ShiftFeed'. -/
def shiftFeedUptoCard : Claim7 := { stood := { row := shiftFeedUptoRow, standIns := [], harness := (true, "1a33982480e23ccc160731abe6823c500600e8a54ccaec5314f9fb2c1229d7d6"), looks := false }, kinds := [], alts := [], laidByText := true, laidKinds := [.data], laidTests := true, laidLooks := .later }
def ShiftFeedUptoCardSaid : Prop := Claim7.holds Tryz.pinned (.plain (OpenSpec.upto shiftFeedSpec)) shiftFeedUptoCard

/-- THE SECOND FORM's CARD OF 'trellislaw.ShiftLines'. -/
def shiftLinesUptoCard : Claim7 := { stood := { row := shiftLinesUptoRow, standIns := [], harness := (true, "1a33982480e23ccc160731abe6823c500600e8a54ccaec5314f9fb2c1229d7d6"), looks := false }, kinds := [], alts := [], laidByText := true, laidKinds := [.data], laidTests := true, laidLooks := .later }
def ShiftLinesUptoCardSaid : Prop := Claim7.holds Tryz.pinned (.plain (OpenSpec.upto shiftLinesSpec)) shiftLinesUptoCard
end Rows
end Go.Proofs.YtmhmmpicedlcpaaGreatDoor
