/-
  DERIVED. GIVEN WITH THE SEED: THE CARDS: each row of YtckkbmgdaplaaaaDoorRows.lean that lists a variable, with what it lists TIED to the program's text (the seventh form; the later family's looks); each row that meets fmt, with fmt's text TOLD by the authors' own Lean function (tested against real Go, not proved from fmt's source: count such statements apart). THE CARD IS WHAT COUNTS. Prove the row's statement (the work); the ties are given (YtckkbmgdaplaaaaDoorTie.lean); close each card by the builder's one call (the guide's Derived/Test/ToyasCard.lean, 'card_holds'). Laid BY PROGRAM, IN A SANDBOX (cutbox-door.mjs). By AI agents, Wed Nov 11 2026. No macro, syntax, notation, axiom, sorry.
-/
import Derived.Test.YtckkbmgdaplaaaaDoorRows
import GoSem.ClaimSeven
namespace Go.Proofs.YtckkbmgdaplaaaaDoor
namespace Rows

/-- THE TIED CARD OF 'trellislaw.SplitLay'. -/
def splitLayCard : Claim7 := { stood := { row := splitLayRow, standIns := [], harness := (true, "4f1d2e13e158d36f6ac8c495b1d63c8236ffda934d31cb288defa674fd171797"), looks := true }, kinds := [], alts := [], laidByText := true, laidKinds := [.data, .data, .data, .sentinel, .sentinel, .data], laidTests := true, laidLooks := .later }
def SplitLayCardSaid : Prop := Claim7.holds Tryd.pinned (.plain (OpenSpec.ofChange splitLaySpec)) splitLayCard

/-- THE TIED CARD OF 'trellislaw.SplitCut'. -/
def splitCutCard : Claim7 := { stood := { row := splitCutRow, standIns := [], harness := (true, "4f1d2e13e158d36f6ac8c495b1d63c8236ffda934d31cb288defa674fd171797"), looks := true }, kinds := [], alts := [], laidByText := true, laidKinds := [.data, .data, .data, .sentinel, .sentinel, .data], laidTests := true, laidLooks := .later }
def SplitCutCardSaid : Prop := Claim7.holds Tryd.pinned (.plain (OpenSpec.ofChange splitCutSpec)) splitCutCard

/-- THE TIED CARD OF 'trellislaw.SplitSwap'. -/
def splitSwapCard : Claim7 := { stood := { row := splitSwapRow, standIns := [], harness := (true, "4f1d2e13e158d36f6ac8c495b1d63c8236ffda934d31cb288defa674fd171797"), looks := true }, kinds := [], alts := [], laidByText := true, laidKinds := [.data, .data, .data, .sentinel, .sentinel, .data], laidTests := true, laidLooks := .later }
def SplitSwapCardSaid : Prop := Claim7.holds Tryd.pinned (.plain (OpenSpec.ofChange splitSwapSpec)) splitSwapCard

/-- THE TIED CARD OF 'trellislaw.SplitEven'. -/
def splitEvenCard : Claim7 := { stood := { row := splitEvenRow, standIns := [], harness := (true, "4f1d2e13e158d36f6ac8c495b1d63c8236ffda934d31cb288defa674fd171797"), looks := true }, kinds := [], alts := [], laidByText := true, laidKinds := [.data, .data, .data, .sentinel, .sentinel, .data], laidTests := true, laidLooks := .later }
def SplitEvenCardSaid : Prop := Claim7.holds Tryd.pinned (.plain (OpenSpec.ofChange splitEvenSpec)) splitEvenCard

/-- THE TIED CARD OF 'trellislaw.SplitText'. -/
def splitTextCard : Claim7 := { stood := { row := splitTextRow, standIns := [], harness := (true, "4f1d2e13e158d36f6ac8c495b1d63c8236ffda934d31cb288defa674fd171797"), looks := true }, kinds := [], alts := [], laidByText := true, laidKinds := [.data, .data, .data, .sentinel, .sentinel, .data], laidTests := true, laidLooks := .later }
def SplitTextCardSaid : Prop := Claim7.holds Tryd.pinned (.plain (OpenSpec.ofChange splitTextSpec)) splitTextCard

/-- THE TIED CARD OF 'trellislaw.SplitFills'. -/
def splitFillsCard : Claim7 := { stood := { row := splitFillsRow, standIns := [], harness := (true, "4f1d2e13e158d36f6ac8c495b1d63c8236ffda934d31cb288defa674fd171797"), looks := true }, kinds := [], alts := [], laidByText := true, laidKinds := [.data, .data, .data, .sentinel, .sentinel, .data], laidTests := true, laidLooks := .later }
def SplitFillsCardSaid : Prop := Claim7.holds Tryd.pinned (.plain (OpenSpec.ofChange splitFillsSpec)) splitFillsCard

/-- THE TIED CARD OF 'trellislaw.SplitBack'. -/
def splitBackCard : Claim7 := { stood := { row := splitBackRow, standIns := [], harness := (true, "4f1d2e13e158d36f6ac8c495b1d63c8236ffda934d31cb288defa674fd171797"), looks := true }, kinds := [], alts := [], laidByText := true, laidKinds := [.data, .data, .data, .sentinel, .sentinel, .data], laidTests := true, laidLooks := .later }
def SplitBackCardSaid : Prop := Claim7.holds Tryd.pinned (.plain (OpenSpec.ofChange splitBackSpec)) splitBackCard

/-- THE SECOND FORM's CARD OF 'trellislaw.SplitLay'. -/
def splitLayUptoCard : Claim7 := { stood := { row := splitLayUptoRow, standIns := [], harness := (true, "4f1d2e13e158d36f6ac8c495b1d63c8236ffda934d31cb288defa674fd171797"), looks := true }, kinds := [], alts := [], laidByText := true, laidKinds := [.data, .data, .data, .sentinel, .sentinel, .data], laidTests := true, laidLooks := .later }
def SplitLayUptoCardSaid : Prop := Claim7.holds Tryd.pinned (.plain (OpenSpec.upto splitLaySpec)) splitLayUptoCard

/-- THE SECOND FORM's CARD OF 'trellislaw.SplitCut'. -/
def splitCutUptoCard : Claim7 := { stood := { row := splitCutUptoRow, standIns := [], harness := (true, "4f1d2e13e158d36f6ac8c495b1d63c8236ffda934d31cb288defa674fd171797"), looks := true }, kinds := [], alts := [], laidByText := true, laidKinds := [.data, .data, .data, .sentinel, .sentinel, .data], laidTests := true, laidLooks := .later }
def SplitCutUptoCardSaid : Prop := Claim7.holds Tryd.pinned (.plain (OpenSpec.upto splitCutSpec)) splitCutUptoCard

/-- THE SECOND FORM's CARD OF 'trellislaw.SplitSwap'. -/
def splitSwapUptoCard : Claim7 := { stood := { row := splitSwapUptoRow, standIns := [], harness := (true, "4f1d2e13e158d36f6ac8c495b1d63c8236ffda934d31cb288defa674fd171797"), looks := true }, kinds := [], alts := [], laidByText := true, laidKinds := [.data, .data, .data, .sentinel, .sentinel, .data], laidTests := true, laidLooks := .later }
def SplitSwapUptoCardSaid : Prop := Claim7.holds Tryd.pinned (.plain (OpenSpec.upto splitSwapSpec)) splitSwapUptoCard

/-- THE SECOND FORM's CARD OF 'trellislaw.SplitEven'. -/
def splitEvenUptoCard : Claim7 := { stood := { row := splitEvenUptoRow, standIns := [], harness := (true, "4f1d2e13e158d36f6ac8c495b1d63c8236ffda934d31cb288defa674fd171797"), looks := true }, kinds := [], alts := [], laidByText := true, laidKinds := [.data, .data, .data, .sentinel, .sentinel, .data], laidTests := true, laidLooks := .later }
def SplitEvenUptoCardSaid : Prop := Claim7.holds Tryd.pinned (.plain (OpenSpec.upto splitEvenSpec)) splitEvenUptoCard

/-- THE SECOND FORM's CARD OF 'trellislaw.SplitText'. -/
def splitTextUptoCard : Claim7 := { stood := { row := splitTextUptoRow, standIns := [], harness := (true, "4f1d2e13e158d36f6ac8c495b1d63c8236ffda934d31cb288defa674fd171797"), looks := true }, kinds := [], alts := [], laidByText := true, laidKinds := [.data, .data, .data, .sentinel, .sentinel, .data], laidTests := true, laidLooks := .later }
def SplitTextUptoCardSaid : Prop := Claim7.holds Tryd.pinned (.plain (OpenSpec.upto splitTextSpec)) splitTextUptoCard

/-- THE SECOND FORM's CARD OF 'trellislaw.SplitFills'. -/
def splitFillsUptoCard : Claim7 := { stood := { row := splitFillsUptoRow, standIns := [], harness := (true, "4f1d2e13e158d36f6ac8c495b1d63c8236ffda934d31cb288defa674fd171797"), looks := true }, kinds := [], alts := [], laidByText := true, laidKinds := [.data, .data, .data, .sentinel, .sentinel, .data], laidTests := true, laidLooks := .later }
def SplitFillsUptoCardSaid : Prop := Claim7.holds Tryd.pinned (.plain (OpenSpec.upto splitFillsSpec)) splitFillsUptoCard

/-- THE SECOND FORM's CARD OF 'trellislaw.SplitBack'. -/
def splitBackUptoCard : Claim7 := { stood := { row := splitBackUptoRow, standIns := [], harness := (true, "4f1d2e13e158d36f6ac8c495b1d63c8236ffda934d31cb288defa674fd171797"), looks := true }, kinds := [], alts := [], laidByText := true, laidKinds := [.data, .data, .data, .sentinel, .sentinel, .data], laidTests := true, laidLooks := .later }
def SplitBackUptoCardSaid : Prop := Claim7.holds Tryd.pinned (.plain (OpenSpec.upto splitBackSpec)) splitBackUptoCard
end Rows
end Go.Proofs.YtckkbmgdaplaaaaDoor
