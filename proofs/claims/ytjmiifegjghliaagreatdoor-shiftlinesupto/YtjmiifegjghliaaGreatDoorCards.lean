/-
  DERIVED. GIVEN WITH THE SEED: THE CARDS: each row of YtjmiifegjghliaaGreatDoorRows.lean that lists a variable, with what it lists TIED to the program's text (the seventh form; the later family's looks); each row that meets fmt, with fmt's text TOLD by the authors' own Lean function (tested against real Go, not proved from fmt's source: count such statements apart). THE CARD IS WHAT COUNTS. Prove the row's statement (the work); the ties are given (YtjmiifegjghliaaGreatDoorTie.lean); close each card by the builder's one call (the guide's Derived/Test/ToyasCard.lean, 'card_holds'). Laid BY PROGRAM, IN A SANDBOX (cutbox-door.mjs). By AI agents, Wed Nov 11 2026. No macro, syntax, notation, axiom, sorry.
-/
import Derived.Test.YtjmiifegjghliaaGreatDoorRows
import GoSem.ClaimSeven
namespace Go.Proofs.YtjmiifegjghliaaGreatDoor
namespace Rows

/-- THE TIED CARD OF 'trellislaw.ShiftRegion'. -/
def shiftRegionCard : Claim7 := { stood := { row := shiftRegionRow, standIns := [], harness := (true, "c788194155ab6c020f564a537e12da2969f4fa165120eca2d21abcf8433ff05d"), looks := false }, kinds := [], alts := [], laidByText := true, laidKinds := [.data], laidTests := true, laidLooks := .later }
def ShiftRegionCardSaid : Prop := Claim7.holds Tryz.pinned (.plain (OpenSpec.ofChange shiftRegionSpec)) shiftRegionCard

/-- THE TIED CARD OF 'trellislaw.ShiftFeed'. -/
def shiftFeedCard : Claim7 := { stood := { row := shiftFeedRow, standIns := [], harness := (true, "c788194155ab6c020f564a537e12da2969f4fa165120eca2d21abcf8433ff05d"), looks := false }, kinds := [], alts := [], laidByText := true, laidKinds := [.data], laidTests := true, laidLooks := .later }
def ShiftFeedCardSaid : Prop := Claim7.holds Tryz.pinned (.plain (OpenSpec.ofChange shiftFeedSpec)) shiftFeedCard

/-- THE TIED CARD OF 'trellislaw.ShiftLines'. -/
def shiftLinesCard : Claim7 := { stood := { row := shiftLinesRow, standIns := [], harness := (true, "c788194155ab6c020f564a537e12da2969f4fa165120eca2d21abcf8433ff05d"), looks := false }, kinds := [], alts := [], laidByText := true, laidKinds := [.data], laidTests := true, laidLooks := .later }
def ShiftLinesCardSaid : Prop := Claim7.holds Tryz.pinned (.plain (OpenSpec.ofChange shiftLinesSpec)) shiftLinesCard

/-- THE TIED CARD OF 'trellislaw.PutText'. -/
def putTextCard : Claim7 := { stood := { row := putTextRow, standIns := [], harness := (true, "c788194155ab6c020f564a537e12da2969f4fa165120eca2d21abcf8433ff05d"), looks := false }, kinds := [], alts := [], laidByText := true, laidKinds := [.data], laidTests := true, laidLooks := .later }
def PutTextCardSaid : Prop := Claim7.holds Tryz.pinned (.plain (OpenSpec.ofChange putTextSpec)) putTextCard

/-- THE TIED CARD OF 'trellislaw.PutAgain'. -/
def putAgainCard : Claim7 := { stood := { row := putAgainRow, standIns := [], harness := (true, "c788194155ab6c020f564a537e12da2969f4fa165120eca2d21abcf8433ff05d"), looks := false }, kinds := [], alts := [], laidByText := true, laidKinds := [.data], laidTests := true, laidLooks := .later }
def PutAgainCardSaid : Prop := Claim7.holds Tryz.pinned (.plain (OpenSpec.ofChange putAgainSpec)) putAgainCard

/-- THE SECOND FORM's CARD OF 'trellislaw.ShiftRegion'. -/
def shiftRegionUptoCard : Claim7 := { stood := { row := shiftRegionUptoRow, standIns := [], harness := (true, "c788194155ab6c020f564a537e12da2969f4fa165120eca2d21abcf8433ff05d"), looks := false }, kinds := [], alts := [], laidByText := true, laidKinds := [.data], laidTests := true, laidLooks := .later }
def ShiftRegionUptoCardSaid : Prop := Claim7.holds Tryz.pinned (.plain (OpenSpec.upto shiftRegionSpec)) shiftRegionUptoCard

/-- THE SECOND FORM's CARD OF 'trellislaw.ShiftFeed'. -/
def shiftFeedUptoCard : Claim7 := { stood := { row := shiftFeedUptoRow, standIns := [], harness := (true, "c788194155ab6c020f564a537e12da2969f4fa165120eca2d21abcf8433ff05d"), looks := false }, kinds := [], alts := [], laidByText := true, laidKinds := [.data], laidTests := true, laidLooks := .later }
def ShiftFeedUptoCardSaid : Prop := Claim7.holds Tryz.pinned (.plain (OpenSpec.upto shiftFeedSpec)) shiftFeedUptoCard

/-- THE SECOND FORM's CARD OF 'trellislaw.ShiftLines'. -/
def shiftLinesUptoCard : Claim7 := { stood := { row := shiftLinesUptoRow, standIns := [], harness := (true, "c788194155ab6c020f564a537e12da2969f4fa165120eca2d21abcf8433ff05d"), looks := false }, kinds := [], alts := [], laidByText := true, laidKinds := [.data], laidTests := true, laidLooks := .later }
def ShiftLinesUptoCardSaid : Prop := Claim7.holds Tryz.pinned (.plain (OpenSpec.upto shiftLinesSpec)) shiftLinesUptoCard

/-- THE SECOND FORM's CARD OF 'trellislaw.PutText'. -/
def putTextUptoCard : Claim7 := { stood := { row := putTextUptoRow, standIns := [], harness := (true, "c788194155ab6c020f564a537e12da2969f4fa165120eca2d21abcf8433ff05d"), looks := false }, kinds := [], alts := [], laidByText := true, laidKinds := [.data], laidTests := true, laidLooks := .later }
def PutTextUptoCardSaid : Prop := Claim7.holds Tryz.pinned (.plain (OpenSpec.upto putTextSpec)) putTextUptoCard

/-- THE SECOND FORM's CARD OF 'trellislaw.PutAgain'. -/
def putAgainUptoCard : Claim7 := { stood := { row := putAgainUptoRow, standIns := [], harness := (true, "c788194155ab6c020f564a537e12da2969f4fa165120eca2d21abcf8433ff05d"), looks := false }, kinds := [], alts := [], laidByText := true, laidKinds := [.data], laidTests := true, laidLooks := .later }
def PutAgainUptoCardSaid : Prop := Claim7.holds Tryz.pinned (.plain (OpenSpec.upto putAgainSpec)) putAgainUptoCard
end Rows
end Go.Proofs.YtjmiifegjghliaaGreatDoor
