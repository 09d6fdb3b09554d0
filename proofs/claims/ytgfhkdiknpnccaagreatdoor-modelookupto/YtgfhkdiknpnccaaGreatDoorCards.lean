/-
  DERIVED. GIVEN WITH THE SEED: THE CARDS: each row of YtgfhkdiknpnccaaGreatDoorRows.lean that lists a variable, with what it lists TIED to the program's text (the seventh form; the later family's looks); each row that meets fmt, with fmt's text TOLD by the authors' own Lean function (tested against real Go, not proved from fmt's source: count such statements apart). THE CARD IS WHAT COUNTS. Prove the row's statement (the work); the ties are given (YtgfhkdiknpnccaaGreatDoorTie.lean); close each card by the builder's one call (the guide's Derived/Test/ToyasCard.lean, 'card_holds'). Laid BY PROGRAM, IN A SANDBOX (cutbox-door.mjs). By AI agents, Wed Nov 11 2026. No macro, syntax, notation, axiom, sorry.
-/
import Derived.Test.YtgfhkdiknpnccaaGreatDoorRows
import GoSem.ClaimSeven
namespace Go.Proofs.YtgfhkdiknpnccaaGreatDoor
namespace Rows

/-- THE TIED CARD OF 'trellislaw.MoveRows'. -/
def moveRowsCard : Claim7 := { stood := { row := moveRowsRow, standIns := [], harness := (true, "8f6902fb878407719907eee8650f7e99e82f89ac1f86b50a6c89b403425bc074"), looks := false }, kinds := [], alts := [], laidByText := true, laidKinds := [.data], laidTests := true, laidLooks := .later }
def MoveRowsCardSaid : Prop := Claim7.holds Tryz.pinned (.plain (OpenSpec.ofChange moveRowsSpec)) moveRowsCard

/-- THE TIED CARD OF 'trellislaw.MoveTabs'. -/
def moveTabsCard : Claim7 := { stood := { row := moveTabsRow, standIns := [], harness := (true, "8f6902fb878407719907eee8650f7e99e82f89ac1f86b50a6c89b403425bc074"), looks := false }, kinds := [], alts := [], laidByText := true, laidKinds := [.data], laidTests := true, laidLooks := .later }
def MoveTabsCardSaid : Prop := Claim7.holds Tryz.pinned (.plain (OpenSpec.ofChange moveTabsSpec)) moveTabsCard

/-- THE TIED CARD OF 'trellislaw.ShiftRegion'. -/
def shiftRegionCard : Claim7 := { stood := { row := shiftRegionRow, standIns := [], harness := (true, "8f6902fb878407719907eee8650f7e99e82f89ac1f86b50a6c89b403425bc074"), looks := false }, kinds := [], alts := [], laidByText := true, laidKinds := [.data], laidTests := true, laidLooks := .later }
def ShiftRegionCardSaid : Prop := Claim7.holds Tryz.pinned (.plain (OpenSpec.ofChange shiftRegionSpec)) shiftRegionCard

/-- THE TIED CARD OF 'trellislaw.ModeSet'. -/
def modeSetCard : Claim7 := { stood := { row := modeSetRow, standIns := [], harness := (true, "8f6902fb878407719907eee8650f7e99e82f89ac1f86b50a6c89b403425bc074"), looks := false }, kinds := [], alts := [], laidByText := true, laidKinds := [.data], laidTests := true, laidLooks := .later }
def ModeSetCardSaid : Prop := Claim7.holds Tryz.pinned (.plain (OpenSpec.ofChange modeSetSpec)) modeSetCard

/-- THE TIED CARD OF 'trellislaw.ModeLook'. -/
def modeLookCard : Claim7 := { stood := { row := modeLookRow, standIns := [], harness := (true, "8f6902fb878407719907eee8650f7e99e82f89ac1f86b50a6c89b403425bc074"), looks := false }, kinds := [], alts := [], laidByText := true, laidKinds := [.data, .data], laidTests := true, laidLooks := .later }
def ModeLookCardSaid : Prop := Claim7.holds Tryz.pinned (.plain (OpenSpec.ofChange modeLookSpec)) modeLookCard

/-- THE SECOND FORM's CARD OF 'trellislaw.MoveRows'. -/
def moveRowsUptoCard : Claim7 := { stood := { row := moveRowsUptoRow, standIns := [], harness := (true, "8f6902fb878407719907eee8650f7e99e82f89ac1f86b50a6c89b403425bc074"), looks := false }, kinds := [], alts := [], laidByText := true, laidKinds := [.data], laidTests := true, laidLooks := .later }
def MoveRowsUptoCardSaid : Prop := Claim7.holds Tryz.pinned (.plain (OpenSpec.upto moveRowsSpec)) moveRowsUptoCard

/-- THE SECOND FORM's CARD OF 'trellislaw.MoveTabs'. -/
def moveTabsUptoCard : Claim7 := { stood := { row := moveTabsUptoRow, standIns := [], harness := (true, "8f6902fb878407719907eee8650f7e99e82f89ac1f86b50a6c89b403425bc074"), looks := false }, kinds := [], alts := [], laidByText := true, laidKinds := [.data], laidTests := true, laidLooks := .later }
def MoveTabsUptoCardSaid : Prop := Claim7.holds Tryz.pinned (.plain (OpenSpec.upto moveTabsSpec)) moveTabsUptoCard

/-- THE SECOND FORM's CARD OF 'trellislaw.ShiftRegion'. -/
def shiftRegionUptoCard : Claim7 := { stood := { row := shiftRegionUptoRow, standIns := [], harness := (true, "8f6902fb878407719907eee8650f7e99e82f89ac1f86b50a6c89b403425bc074"), looks := false }, kinds := [], alts := [], laidByText := true, laidKinds := [.data], laidTests := true, laidLooks := .later }
def ShiftRegionUptoCardSaid : Prop := Claim7.holds Tryz.pinned (.plain (OpenSpec.upto shiftRegionSpec)) shiftRegionUptoCard

/-- THE SECOND FORM's CARD OF 'trellislaw.ModeSet'. -/
def modeSetUptoCard : Claim7 := { stood := { row := modeSetUptoRow, standIns := [], harness := (true, "8f6902fb878407719907eee8650f7e99e82f89ac1f86b50a6c89b403425bc074"), looks := false }, kinds := [], alts := [], laidByText := true, laidKinds := [.data], laidTests := true, laidLooks := .later }
def ModeSetUptoCardSaid : Prop := Claim7.holds Tryz.pinned (.plain (OpenSpec.upto modeSetSpec)) modeSetUptoCard

/-- THE SECOND FORM's CARD OF 'trellislaw.ModeLook'. -/
def modeLookUptoCard : Claim7 := { stood := { row := modeLookUptoRow, standIns := [], harness := (true, "8f6902fb878407719907eee8650f7e99e82f89ac1f86b50a6c89b403425bc074"), looks := false }, kinds := [], alts := [], laidByText := true, laidKinds := [.data, .data], laidTests := true, laidLooks := .later }
def ModeLookUptoCardSaid : Prop := Claim7.holds Tryz.pinned (.plain (OpenSpec.upto modeLookSpec)) modeLookUptoCard
end Rows
end Go.Proofs.YtgfhkdiknpnccaaGreatDoor
