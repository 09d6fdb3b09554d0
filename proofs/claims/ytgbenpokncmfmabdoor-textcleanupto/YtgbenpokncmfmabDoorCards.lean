/-
  DERIVED. GIVEN WITH THE SEED: THE CARDS: each row of YtgbenpokncmfmabDoorRows.lean that lists a variable, with what it lists TIED to the program's text (the seventh form; the later family's looks); each row that meets fmt, with fmt's text TOLD by the authors' own Lean function (tested against real Go, not proved from fmt's source: count such statements apart). THE CARD IS WHAT COUNTS. Prove the row's statement (the work); the ties are given (YtgbenpokncmfmabDoorTie.lean); close each card by the builder's one call (the guide's Derived/Test/ToyasCard.lean, 'card_holds'). Laid BY PROGRAM, IN A SANDBOX (cutbox-door.mjs). By AI agents, Wed Nov 11 2026. No macro, syntax, notation, axiom, sorry.
-/
import Derived.Test.YtgbenpokncmfmabDoorRows
import GoSem.ClaimSeven
namespace Go.Proofs.YtgbenpokncmfmabDoor
namespace Rows

/-- THE TIED CARD OF 'trellislaw.TextClean'. -/
def textCleanCard : Claim7 := { stood := { row := textCleanRow, standIns := [], harness := (true, "18198caa83d9a50db297d60eb75a022027cbe93558bc44dbe960073117e1a5f3"), looks := false }, kinds := [], alts := [], laidByText := true, laidKinds := [.data], laidTests := true, laidLooks := .later }
def TextCleanCardSaid : Prop := Claim7.holds Tryd.pinned (.plain (OpenSpec.ofChange textCleanSpec)) textCleanCard

/-- THE SECOND FORM's CARD OF 'trellislaw.TextClean'. -/
def textCleanUptoCard : Claim7 := { stood := { row := textCleanUptoRow, standIns := [], harness := (true, "18198caa83d9a50db297d60eb75a022027cbe93558bc44dbe960073117e1a5f3"), looks := false }, kinds := [], alts := [], laidByText := true, laidKinds := [.data], laidTests := true, laidLooks := .later }
def TextCleanUptoCardSaid : Prop := Claim7.holds Tryd.pinned (.plain (OpenSpec.upto textCleanSpec)) textCleanUptoCard
end Rows
end Go.Proofs.YtgbenpokncmfmabDoor
