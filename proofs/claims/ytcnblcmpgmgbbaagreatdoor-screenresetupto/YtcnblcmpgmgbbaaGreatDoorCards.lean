/-
  DERIVED. GIVEN WITH THE SEED: THE CARDS: each row of YtcnblcmpgmgbbaaGreatDoorRows.lean that lists a variable, with what it lists TIED to the program's text (the seventh form; the later family's looks); each row that meets fmt, with fmt's text TOLD by the authors' own Lean function (tested against real Go, not proved from fmt's source: count such statements apart). THE CARD IS WHAT COUNTS. Prove the row's statement (the work); the ties are given (YtcnblcmpgmgbbaaGreatDoorTie.lean); close each card by the builder's one call (the guide's Derived/Test/ToyasCard.lean, 'card_holds'). Laid BY PROGRAM, IN A SANDBOX (cutbox-door.mjs). By AI agents, Wed Nov 11 2026. No macro, syntax, notation, axiom, sorry.
-/
import Derived.Test.YtcnblcmpgmgbbaaGreatDoorRows
import GoSem.ClaimSeven
namespace Go.Proofs.YtcnblcmpgmgbbaaGreatDoor
namespace Rows

/-- THE TIED CARD OF 'trellislaw.ScreenRight'. -/
def screenRightCard : Claim7 := { stood := { row := screenRightRow, standIns := [], harness := (true, "ec9a6e5fe83d8030ea90702ff11a43c5abc549bde924945dcc0214a4e67d10e2"), looks := false }, kinds := [], alts := [], laidByText := true, laidKinds := [.data, .data, .data, .pinned], laidTests := true, laidLooks := .later }
def ScreenRightCardSaid : Prop := Claim7.holds Tryz.pinned (.plain (OpenSpec.ofChange screenRightSpec)) screenRightCard

/-- THE TIED CARD OF 'trellislaw.ScreenReset'. -/
def screenResetCard : Claim7 := { stood := { row := screenResetRow, standIns := [], harness := (true, "ec9a6e5fe83d8030ea90702ff11a43c5abc549bde924945dcc0214a4e67d10e2"), looks := false }, kinds := [], alts := [], laidByText := true, laidKinds := [.data, .data, .data, .pinned], laidTests := true, laidLooks := .later }
def ScreenResetCardSaid : Prop := Claim7.holds Tryz.pinned (.plain (OpenSpec.ofChange screenResetSpec)) screenResetCard

/-- THE SECOND FORM's CARD OF 'trellislaw.ScreenRight'. -/
def screenRightUptoCard : Claim7 := { stood := { row := screenRightUptoRow, standIns := [], harness := (true, "ec9a6e5fe83d8030ea90702ff11a43c5abc549bde924945dcc0214a4e67d10e2"), looks := false }, kinds := [], alts := [], laidByText := true, laidKinds := [.data, .data, .data, .pinned], laidTests := true, laidLooks := .later }
def ScreenRightUptoCardSaid : Prop := Claim7.holds Tryz.pinned (.plain (OpenSpec.upto screenRightSpec)) screenRightUptoCard

/-- THE SECOND FORM's CARD OF 'trellislaw.ScreenReset'. -/
def screenResetUptoCard : Claim7 := { stood := { row := screenResetUptoRow, standIns := [], harness := (true, "ec9a6e5fe83d8030ea90702ff11a43c5abc549bde924945dcc0214a4e67d10e2"), looks := false }, kinds := [], alts := [], laidByText := true, laidKinds := [.data, .data, .data, .pinned], laidTests := true, laidLooks := .later }
def ScreenResetUptoCardSaid : Prop := Claim7.holds Tryz.pinned (.plain (OpenSpec.upto screenResetSpec)) screenResetUptoCard
end Rows
end Go.Proofs.YtcnblcmpgmgbbaaGreatDoor
