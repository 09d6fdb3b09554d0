/-
  DERIVED. GIVEN WITH THE SEED: THE CARDS: each row of YtooobiigijphkaaGreatDoorRows.lean that lists a variable, with what it lists TIED to the program's text (the seventh form; the later family's looks); each row that meets fmt, with fmt's text TOLD by the authors' own Lean function (tested against real Go, not proved from fmt's source: count such statements apart). THE CARD IS WHAT COUNTS. Prove the row's statement (the work); the ties are given (YtooobiigijphkaaGreatDoorTie.lean); close each card by the builder's one call (the guide's Derived/Test/ToyasCard.lean, 'card_holds'). Laid BY PROGRAM, IN A SANDBOX (cutbox-door.mjs). By AI agents, Wed Nov 11 2026. No macro, syntax, notation, axiom, sorry.
-/
import Derived.Test.YtooobiigijphkaaGreatDoorRows
import GoSem.ClaimSeven
namespace Go.Proofs.YtooobiigijphkaaGreatDoor
namespace Rows

/-- THE TIED CARD OF 'trellislaw.ScreenRight'. -/
def screenRightCard : Claim7 := { stood := { row := screenRightRow, standIns := [], harness := (true, "b054f00fb6bc18afbe5fcedabcc36624b65b182dbadc0b50f25fdb3fd804b131"), looks := false }, kinds := [], alts := [], laidByText := true, laidKinds := [.data, .data, .data, .pinned], laidTests := true, laidLooks := .later }
def ScreenRightCardSaid : Prop := Claim7.holds Tryz.pinned (.plain (OpenSpec.ofChange screenRightSpec)) screenRightCard

/-- THE SECOND FORM's CARD OF 'trellislaw.ScreenRight'. -/
def screenRightUptoCard : Claim7 := { stood := { row := screenRightUptoRow, standIns := [], harness := (true, "b054f00fb6bc18afbe5fcedabcc36624b65b182dbadc0b50f25fdb3fd804b131"), looks := false }, kinds := [], alts := [], laidByText := true, laidKinds := [.data, .data, .data, .pinned], laidTests := true, laidLooks := .later }
def ScreenRightUptoCardSaid : Prop := Claim7.holds Tryz.pinned (.plain (OpenSpec.upto screenRightSpec)) screenRightUptoCard
end Rows
end Go.Proofs.YtooobiigijphkaaGreatDoor
