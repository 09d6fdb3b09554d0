/-
  DERIVED. GIVEN WITH THE SEED: THE CARDS: each row of YtgbenpokncmfmaaDoorRows.lean that lists a variable, with what it lists TIED to the program's text (the seventh form; the later family's looks); each row that meets fmt, with fmt's text TOLD by the authors' own Lean function (tested against real Go, not proved from fmt's source: count such statements apart). THE CARD IS WHAT COUNTS. Prove the row's statement (the work); the ties are given (YtgbenpokncmfmaaDoorTie.lean); close each card by the builder's one call (the guide's Derived/Test/ToyasCard.lean, 'card_holds'). Laid BY PROGRAM, IN A SANDBOX (cutbox-door.mjs). By AI agents, Wed Nov 11 2026. No macro, syntax, notation, axiom, sorry.
-/
import Derived.Test.YtgbenpokncmfmaaDoorRows
import GoSem.ClaimSeven
namespace Go.Proofs.YtgbenpokncmfmaaDoor
namespace Rows

/-- THE TIED CARD OF 'trellislaw.TextNext'. -/
def textNextCard : Claim7 := { stood := { row := textNextRow, standIns := [], harness := (true, "74a7a32d7482782bb8bd18d2d3690213642db75532abb861cd85c910c01391a7"), looks := false }, kinds := [], alts := [], laidByText := true, laidKinds := [.data, .data, .pinned], laidTests := true, laidLooks := .later }
def TextNextCardSaid : Prop := Claim7.holds Tryd.pinned (.plain (OpenSpec.ofChange textNextSpec)) textNextCard

/-- THE TIED CARD OF 'trellislaw.TextWidth'. -/
def textWidthCard : Claim7 := { stood := { row := textWidthRow, standIns := [], harness := (true, "74a7a32d7482782bb8bd18d2d3690213642db75532abb861cd85c910c01391a7"), looks := false }, kinds := [], alts := [], laidByText := true, laidKinds := [.data], laidTests := true, laidLooks := .later }
def TextWidthCardSaid : Prop := Claim7.holds Tryd.pinned (.plain (OpenSpec.ofChange textWidthSpec)) textWidthCard

/-- THE TIED CARD OF 'trellislaw.TextCut'. -/
def textCutCard : Claim7 := { stood := { row := textCutRow, standIns := [], harness := (true, "74a7a32d7482782bb8bd18d2d3690213642db75532abb861cd85c910c01391a7"), looks := false }, kinds := [], alts := [], laidByText := true, laidKinds := [.data], laidTests := true, laidLooks := .later }
def TextCutCardSaid : Prop := Claim7.holds Tryd.pinned (.plain (OpenSpec.ofChange textCutSpec)) textCutCard

/-- THE TIED CARD OF 'trellislaw.TextColumns'. -/
def textColumnsCard : Claim7 := { stood := { row := textColumnsRow, standIns := [], harness := (true, "74a7a32d7482782bb8bd18d2d3690213642db75532abb861cd85c910c01391a7"), looks := false }, kinds := [], alts := [], laidByText := true, laidKinds := [.data], laidTests := true, laidLooks := .later }
def TextColumnsCardSaid : Prop := Claim7.holds Tryd.pinned (.plain (OpenSpec.ofChange textColumnsSpec)) textColumnsCard

/-- THE TIED CARD OF 'trellislaw.TextParts'. -/
def textPartsCard : Claim7 := { stood := { row := textPartsRow, standIns := [], harness := (true, "74a7a32d7482782bb8bd18d2d3690213642db75532abb861cd85c910c01391a7"), looks := false }, kinds := [], alts := [], laidByText := true, laidKinds := [.data], laidTests := true, laidLooks := .later }
def TextPartsCardSaid : Prop := Claim7.holds Tryd.pinned (.plain (OpenSpec.ofChange textPartsSpec)) textPartsCard

/-- THE SECOND FORM's CARD OF 'trellislaw.TextNext'. -/
def textNextUptoCard : Claim7 := { stood := { row := textNextUptoRow, standIns := [], harness := (true, "74a7a32d7482782bb8bd18d2d3690213642db75532abb861cd85c910c01391a7"), looks := false }, kinds := [], alts := [], laidByText := true, laidKinds := [.data, .data, .pinned], laidTests := true, laidLooks := .later }
def TextNextUptoCardSaid : Prop := Claim7.holds Tryd.pinned (.plain (OpenSpec.upto textNextSpec)) textNextUptoCard

/-- THE SECOND FORM's CARD OF 'trellislaw.TextWidth'. -/
def textWidthUptoCard : Claim7 := { stood := { row := textWidthUptoRow, standIns := [], harness := (true, "74a7a32d7482782bb8bd18d2d3690213642db75532abb861cd85c910c01391a7"), looks := false }, kinds := [], alts := [], laidByText := true, laidKinds := [.data], laidTests := true, laidLooks := .later }
def TextWidthUptoCardSaid : Prop := Claim7.holds Tryd.pinned (.plain (OpenSpec.upto textWidthSpec)) textWidthUptoCard

/-- THE SECOND FORM's CARD OF 'trellislaw.TextCut'. -/
def textCutUptoCard : Claim7 := { stood := { row := textCutUptoRow, standIns := [], harness := (true, "74a7a32d7482782bb8bd18d2d3690213642db75532abb861cd85c910c01391a7"), looks := false }, kinds := [], alts := [], laidByText := true, laidKinds := [.data], laidTests := true, laidLooks := .later }
def TextCutUptoCardSaid : Prop := Claim7.holds Tryd.pinned (.plain (OpenSpec.upto textCutSpec)) textCutUptoCard

/-- THE SECOND FORM's CARD OF 'trellislaw.TextColumns'. -/
def textColumnsUptoCard : Claim7 := { stood := { row := textColumnsUptoRow, standIns := [], harness := (true, "74a7a32d7482782bb8bd18d2d3690213642db75532abb861cd85c910c01391a7"), looks := false }, kinds := [], alts := [], laidByText := true, laidKinds := [.data], laidTests := true, laidLooks := .later }
def TextColumnsUptoCardSaid : Prop := Claim7.holds Tryd.pinned (.plain (OpenSpec.upto textColumnsSpec)) textColumnsUptoCard

/-- THE SECOND FORM's CARD OF 'trellislaw.TextParts'. -/
def textPartsUptoCard : Claim7 := { stood := { row := textPartsUptoRow, standIns := [], harness := (true, "74a7a32d7482782bb8bd18d2d3690213642db75532abb861cd85c910c01391a7"), looks := false }, kinds := [], alts := [], laidByText := true, laidKinds := [.data], laidTests := true, laidLooks := .later }
def TextPartsUptoCardSaid : Prop := Claim7.holds Tryd.pinned (.plain (OpenSpec.upto textPartsSpec)) textPartsUptoCard
end Rows
end Go.Proofs.YtgbenpokncmfmaaDoor
