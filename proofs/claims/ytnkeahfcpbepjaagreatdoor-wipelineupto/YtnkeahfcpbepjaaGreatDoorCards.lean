/-
  DERIVED. GIVEN WITH THE SEED: THE CARDS: each row of YtnkeahfcpbepjaaGreatDoorRows.lean that lists a variable, with what it lists TIED to the program's text (the seventh form; the later family's looks); each row that meets fmt, with fmt's text TOLD by the authors' own Lean function (tested against real Go, not proved from fmt's source: count such statements apart). THE CARD IS WHAT COUNTS. Prove the row's statement (the work); the ties are given (YtnkeahfcpbepjaaGreatDoorTie.lean); close each card by the builder's one call (the guide's Derived/Test/ToyasCard.lean, 'card_holds'). Laid BY PROGRAM, IN A SANDBOX (cutbox-door.mjs). By AI agents, Wed Nov 11 2026. No macro, syntax, notation, axiom, sorry.
-/
import Derived.Test.YtnkeahfcpbepjaaGreatDoorRows
import GoSem.ClaimSeven
namespace Go.Proofs.YtnkeahfcpbepjaaGreatDoor
namespace Rows

/-- THE TIED CARD OF 'trellislaw.PutAgain'. -/
def putAgainCard : Claim7 := { stood := { row := putAgainRow, standIns := [], harness := (true, "c9ed4c0a2bfb9a0f6fc3daded048f0d52fa878d3d94201c5516bee9385bbc7c7"), looks := false }, kinds := [], alts := [], laidByText := true, laidKinds := [.data], laidTests := true, laidLooks := .later }
def PutAgainCardSaid : Prop := Claim7.holds Tryz.pinned (.plain (OpenSpec.ofChange putAgainSpec)) putAgainCard

/-- THE TIED CARD OF 'trellislaw.MoveTabs'. -/
def moveTabsCard : Claim7 := { stood := { row := moveTabsRow, standIns := [], harness := (true, "c9ed4c0a2bfb9a0f6fc3daded048f0d52fa878d3d94201c5516bee9385bbc7c7"), looks := false }, kinds := [], alts := [], laidByText := true, laidKinds := [.data], laidTests := true, laidLooks := .later }
def MoveTabsCardSaid : Prop := Claim7.holds Tryz.pinned (.plain (OpenSpec.ofChange moveTabsSpec)) moveTabsCard

/-- THE TIED CARD OF 'trellislaw.WipeLine'. -/
def wipeLineCard : Claim7 := { stood := { row := wipeLineRow, standIns := [], harness := (true, "c9ed4c0a2bfb9a0f6fc3daded048f0d52fa878d3d94201c5516bee9385bbc7c7"), looks := false }, kinds := [], alts := [], laidByText := true, laidKinds := [.data], laidTests := true, laidLooks := .later }
def WipeLineCardSaid : Prop := Claim7.holds Tryz.pinned (.plain (OpenSpec.ofChange wipeLineSpec)) wipeLineCard

/-- THE TIED CARD OF 'trellislaw.ModeSet'. -/
def modeSetCard : Claim7 := { stood := { row := modeSetRow, standIns := [], harness := (true, "c9ed4c0a2bfb9a0f6fc3daded048f0d52fa878d3d94201c5516bee9385bbc7c7"), looks := false }, kinds := [], alts := [], laidByText := true, laidKinds := [.data], laidTests := true, laidLooks := .later }
def ModeSetCardSaid : Prop := Claim7.holds Tryz.pinned (.plain (OpenSpec.ofChange modeSetSpec)) modeSetCard

/-- THE TIED CARD OF 'trellislaw.ModeLook'. -/
def modeLookCard : Claim7 := { stood := { row := modeLookRow, standIns := [], harness := (true, "c9ed4c0a2bfb9a0f6fc3daded048f0d52fa878d3d94201c5516bee9385bbc7c7"), looks := false }, kinds := [], alts := [], laidByText := true, laidKinds := [.data, .data], laidTests := true, laidLooks := .later }
def ModeLookCardSaid : Prop := Claim7.holds Tryz.pinned (.plain (OpenSpec.ofChange modeLookSpec)) modeLookCard

/-- THE SECOND FORM's CARD OF 'trellislaw.PutAgain'. -/
def putAgainUptoCard : Claim7 := { stood := { row := putAgainUptoRow, standIns := [], harness := (true, "c9ed4c0a2bfb9a0f6fc3daded048f0d52fa878d3d94201c5516bee9385bbc7c7"), looks := false }, kinds := [], alts := [], laidByText := true, laidKinds := [.data], laidTests := true, laidLooks := .later }
def PutAgainUptoCardSaid : Prop := Claim7.holds Tryz.pinned (.plain (OpenSpec.upto putAgainSpec)) putAgainUptoCard

/-- THE SECOND FORM's CARD OF 'trellislaw.MoveTabs'. -/
def moveTabsUptoCard : Claim7 := { stood := { row := moveTabsUptoRow, standIns := [], harness := (true, "c9ed4c0a2bfb9a0f6fc3daded048f0d52fa878d3d94201c5516bee9385bbc7c7"), looks := false }, kinds := [], alts := [], laidByText := true, laidKinds := [.data], laidTests := true, laidLooks := .later }
def MoveTabsUptoCardSaid : Prop := Claim7.holds Tryz.pinned (.plain (OpenSpec.upto moveTabsSpec)) moveTabsUptoCard

/-- THE SECOND FORM's CARD OF 'trellislaw.WipeLine'. -/
def wipeLineUptoCard : Claim7 := { stood := { row := wipeLineUptoRow, standIns := [], harness := (true, "c9ed4c0a2bfb9a0f6fc3daded048f0d52fa878d3d94201c5516bee9385bbc7c7"), looks := false }, kinds := [], alts := [], laidByText := true, laidKinds := [.data], laidTests := true, laidLooks := .later }
def WipeLineUptoCardSaid : Prop := Claim7.holds Tryz.pinned (.plain (OpenSpec.upto wipeLineSpec)) wipeLineUptoCard

/-- THE SECOND FORM's CARD OF 'trellislaw.ModeSet'. -/
def modeSetUptoCard : Claim7 := { stood := { row := modeSetUptoRow, standIns := [], harness := (true, "c9ed4c0a2bfb9a0f6fc3daded048f0d52fa878d3d94201c5516bee9385bbc7c7"), looks := false }, kinds := [], alts := [], laidByText := true, laidKinds := [.data], laidTests := true, laidLooks := .later }
def ModeSetUptoCardSaid : Prop := Claim7.holds Tryz.pinned (.plain (OpenSpec.upto modeSetSpec)) modeSetUptoCard

/-- THE SECOND FORM's CARD OF 'trellislaw.ModeLook'. -/
def modeLookUptoCard : Claim7 := { stood := { row := modeLookUptoRow, standIns := [], harness := (true, "c9ed4c0a2bfb9a0f6fc3daded048f0d52fa878d3d94201c5516bee9385bbc7c7"), looks := false }, kinds := [], alts := [], laidByText := true, laidKinds := [.data, .data], laidTests := true, laidLooks := .later }
def ModeLookUptoCardSaid : Prop := Claim7.holds Tryz.pinned (.plain (OpenSpec.upto modeLookSpec)) modeLookUptoCard
end Rows
end Go.Proofs.YtnkeahfcpbepjaaGreatDoor
