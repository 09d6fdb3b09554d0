/-
  DERIVED. GIVEN WITH THE SEED: THE CARDS: each row of YtennlgkjckcjoaaGreatDoorRows.lean that lists a variable, with what it lists TIED to the program's text (the seventh form; the later family's looks); each row that meets fmt, with fmt's text TOLD by the authors' own Lean function (tested against real Go, not proved from fmt's source: count such statements apart). THE CARD IS WHAT COUNTS. Prove the row's statement (the work); the ties are given (YtennlgkjckcjoaaGreatDoorTie.lean); close each card by the builder's one call (the guide's Derived/Test/ToyasCard.lean, 'card_holds'). Laid BY PROGRAM, IN A SANDBOX (cutbox-door.mjs). By AI agents, Wed Nov 11 2026. No macro, syntax, notation, axiom, sorry.
-/
import Derived.Test.YtennlgkjckcjoaaGreatDoorRows
import GoSem.ClaimSeven
namespace Go.Proofs.YtennlgkjckcjoaaGreatDoor
namespace Rows

/-- THE TIED CARD OF 'trellislaw.MoveTo'. -/
def moveToCard : Claim7 := { stood := { row := moveToRow, standIns := [], harness := (true, "b7d30a1b9fc2d9426a498770d87d753fb157a9f6228671e13f93e72ecfcf49b8"), looks := false }, kinds := [], alts := [], laidByText := true, laidKinds := [.data], laidTests := true, laidLooks := .later }
def MoveToCardSaid : Prop := Claim7.holds Tryz.pinned (.plain (OpenSpec.ofChange moveToSpec)) moveToCard

/-- THE TIED CARD OF 'trellislaw.WipeLine'. -/
def wipeLineCard : Claim7 := { stood := { row := wipeLineRow, standIns := [], harness := (true, "b7d30a1b9fc2d9426a498770d87d753fb157a9f6228671e13f93e72ecfcf49b8"), looks := false }, kinds := [], alts := [], laidByText := true, laidKinds := [.data], laidTests := true, laidLooks := .later }
def WipeLineCardSaid : Prop := Claim7.holds Tryz.pinned (.plain (OpenSpec.ofChange wipeLineSpec)) wipeLineCard

/-- THE TIED CARD OF 'trellislaw.ShiftCells'. -/
def shiftCellsCard : Claim7 := { stood := { row := shiftCellsRow, standIns := [], harness := (true, "b7d30a1b9fc2d9426a498770d87d753fb157a9f6228671e13f93e72ecfcf49b8"), looks := false }, kinds := [], alts := [], laidByText := true, laidKinds := [.data], laidTests := true, laidLooks := .later }
def ShiftCellsCardSaid : Prop := Claim7.holds Tryz.pinned (.plain (OpenSpec.ofChange shiftCellsSpec)) shiftCellsCard

/-- THE TIED CARD OF 'trellislaw.ShiftLines'. -/
def shiftLinesCard : Claim7 := { stood := { row := shiftLinesRow, standIns := [], harness := (true, "b7d30a1b9fc2d9426a498770d87d753fb157a9f6228671e13f93e72ecfcf49b8"), looks := false }, kinds := [], alts := [], laidByText := true, laidKinds := [.data], laidTests := true, laidLooks := .later }
def ShiftLinesCardSaid : Prop := Claim7.holds Tryz.pinned (.plain (OpenSpec.ofChange shiftLinesSpec)) shiftLinesCard

/-- THE TIED CARD OF 'trellislaw.ShiftFeed'. -/
def shiftFeedCard : Claim7 := { stood := { row := shiftFeedRow, standIns := [], harness := (true, "b7d30a1b9fc2d9426a498770d87d753fb157a9f6228671e13f93e72ecfcf49b8"), looks := false }, kinds := [], alts := [], laidByText := true, laidKinds := [.data], laidTests := true, laidLooks := .later }
def ShiftFeedCardSaid : Prop := Claim7.holds Tryz.pinned (.plain (OpenSpec.ofChange shiftFeedSpec)) shiftFeedCard

/-- THE SECOND FORM's CARD OF 'trellislaw.MoveTo'. -/
def moveToUptoCard : Claim7 := { stood := { row := moveToUptoRow, standIns := [], harness := (true, "b7d30a1b9fc2d9426a498770d87d753fb157a9f6228671e13f93e72ecfcf49b8"), looks := false }, kinds := [], alts := [], laidByText := true, laidKinds := [.data], laidTests := true, laidLooks := .later }
def MoveToUptoCardSaid : Prop := Claim7.holds Tryz.pinned (.plain (OpenSpec.upto moveToSpec)) moveToUptoCard

/-- THE SECOND FORM's CARD OF 'trellislaw.WipeLine'. -/
def wipeLineUptoCard : Claim7 := { stood := { row := wipeLineUptoRow, standIns := [], harness := (true, "b7d30a1b9fc2d9426a498770d87d753fb157a9f6228671e13f93e72ecfcf49b8"), looks := false }, kinds := [], alts := [], laidByText := true, laidKinds := [.data], laidTests := true, laidLooks := .later }
def WipeLineUptoCardSaid : Prop := Claim7.holds Tryz.pinned (.plain (OpenSpec.upto wipeLineSpec)) wipeLineUptoCard

/-- THE SECOND FORM's CARD OF 'trellislaw.ShiftCells'. -/
def shiftCellsUptoCard : Claim7 := { stood := { row := shiftCellsUptoRow, standIns := [], harness := (true, "b7d30a1b9fc2d9426a498770d87d753fb157a9f6228671e13f93e72ecfcf49b8"), looks := false }, kinds := [], alts := [], laidByText := true, laidKinds := [.data], laidTests := true, laidLooks := .later }
def ShiftCellsUptoCardSaid : Prop := Claim7.holds Tryz.pinned (.plain (OpenSpec.upto shiftCellsSpec)) shiftCellsUptoCard

/-- THE SECOND FORM's CARD OF 'trellislaw.ShiftLines'. -/
def shiftLinesUptoCard : Claim7 := { stood := { row := shiftLinesUptoRow, standIns := [], harness := (true, "b7d30a1b9fc2d9426a498770d87d753fb157a9f6228671e13f93e72ecfcf49b8"), looks := false }, kinds := [], alts := [], laidByText := true, laidKinds := [.data], laidTests := true, laidLooks := .later }
def ShiftLinesUptoCardSaid : Prop := Claim7.holds Tryz.pinned (.plain (OpenSpec.upto shiftLinesSpec)) shiftLinesUptoCard

/-- THE SECOND FORM's CARD OF 'trellislaw.ShiftFeed'. -/
def shiftFeedUptoCard : Claim7 := { stood := { row := shiftFeedUptoRow, standIns := [], harness := (true, "b7d30a1b9fc2d9426a498770d87d753fb157a9f6228671e13f93e72ecfcf49b8"), looks := false }, kinds := [], alts := [], laidByText := true, laidKinds := [.data], laidTests := true, laidLooks := .later }
def ShiftFeedUptoCardSaid : Prop := Claim7.holds Tryz.pinned (.plain (OpenSpec.upto shiftFeedSpec)) shiftFeedUptoCard
end Rows
end Go.Proofs.YtennlgkjckcjoaaGreatDoor
