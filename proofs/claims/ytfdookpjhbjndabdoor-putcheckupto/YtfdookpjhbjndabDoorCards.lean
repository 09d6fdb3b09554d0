/-
  DERIVED. GIVEN WITH THE SEED: THE CARDS: each row of YtfdookpjhbjndabDoorRows.lean that lists a variable, with what it lists TIED to the program's text (the seventh form; the later family's looks); each row that meets fmt, with fmt's text TOLD by the authors' own Lean function (tested against real Go, not proved from fmt's source: count such statements apart). THE CARD IS WHAT COUNTS. Prove the row's statement (the work); the ties are given (YtfdookpjhbjndabDoorTie.lean); close each card by the builder's one call (the guide's Derived/Test/ToyasCard.lean, 'card_holds'). Laid BY PROGRAM, IN A SANDBOX (cutbox-door.mjs). By AI agents, Wed Nov 11 2026. No macro, syntax, notation, axiom, sorry.
-/
import Derived.Test.YtfdookpjhbjndabDoorRows
import GoSem.ClaimSeven
namespace Go.Proofs.YtfdookpjhbjndabDoor
namespace Rows

/-- THE TIED CARD OF 'trellislaw.PutCheck'. -/
def putCheckCard : Claim7 := { stood := { row := putCheckRow, standIns := [], harness := (true, "54951bef77131ab657e828d3fc96c5931557f25e1c7bdc862b808da7335f0b69"), looks := false }, kinds := [], alts := [], laidByText := true, laidKinds := [.data], laidTests := true, laidLooks := .later }
def PutCheckCardSaid : Prop := Claim7.holds Tryd.pinned (.plain (OpenSpec.ofChange putCheckSpec)) putCheckCard

/-- THE SECOND FORM's CARD OF 'trellislaw.PutCheck'. -/
def putCheckUptoCard : Claim7 := { stood := { row := putCheckUptoRow, standIns := [], harness := (true, "54951bef77131ab657e828d3fc96c5931557f25e1c7bdc862b808da7335f0b69"), looks := false }, kinds := [], alts := [], laidByText := true, laidKinds := [.data], laidTests := true, laidLooks := .later }
def PutCheckUptoCardSaid : Prop := Claim7.holds Tryd.pinned (.plain (OpenSpec.upto putCheckSpec)) putCheckUptoCard
end Rows
end Go.Proofs.YtfdookpjhbjndabDoor
