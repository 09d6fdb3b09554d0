/-
  DERIVED. GIVEN WITH THE SEED: THE CARDS: each row of YtdnglbgdoemejaaDoorRows.lean that lists a variable, with what it lists TIED to the program's text (the seventh form; the later family's looks); each row that meets fmt, with fmt's text TOLD by the authors' own Lean function (tested against real Go, not proved from fmt's source: count such statements apart). THE CARD IS WHAT COUNTS. Prove the row's statement (the work); the ties are given (YtdnglbgdoemejaaDoorTie.lean); close each card by the builder's one call (the guide's Derived/Test/ToyasCard.lean, 'card_holds'). Laid BY PROGRAM, IN A SANDBOX (cutbox-door.mjs). By AI agents, Wed Nov 11 2026. No macro, syntax, notation, axiom, sorry.
-/
import Derived.Test.YtdnglbgdoemejaaDoorRows
import GoSem.ClaimSeven
namespace Go.Proofs.YtdnglbgdoemejaaDoor
namespace Rows

/-- THE TIED CARD OF 'trellislaw.PutCheck'. -/
def putCheckCard : Claim7 := { stood := { row := putCheckRow, standIns := [], harness := (true, "1b511fa5c813810c0456803c701c3a4aa120cf84a71210b5b4d30e969159f81f"), looks := false }, kinds := [], alts := [], laidByText := true, laidKinds := [.data], laidTests := true, laidLooks := .later }
def PutCheckCardSaid : Prop := Claim7.holds Tryd.pinned (.plain (OpenSpec.ofChange putCheckSpec)) putCheckCard

/-- THE TIED CARD OF 'trellislaw.MoveBack'. -/
def moveBackCard : Claim7 := { stood := { row := moveBackRow, standIns := [], harness := (true, "1b511fa5c813810c0456803c701c3a4aa120cf84a71210b5b4d30e969159f81f"), looks := false }, kinds := [], alts := [], laidByText := true, laidKinds := [.data], laidTests := true, laidLooks := .later }
def MoveBackCardSaid : Prop := Claim7.holds Tryd.pinned (.plain (OpenSpec.ofChange moveBackSpec)) moveBackCard

/-- THE TIED CARD OF 'trellislaw.WipeAll'. -/
def wipeAllCard : Claim7 := { stood := { row := wipeAllRow, standIns := [], harness := (true, "1b511fa5c813810c0456803c701c3a4aa120cf84a71210b5b4d30e969159f81f"), looks := false }, kinds := [], alts := [], laidByText := true, laidKinds := [.data], laidTests := true, laidLooks := .later }
def WipeAllCardSaid : Prop := Claim7.holds Tryd.pinned (.plain (OpenSpec.ofChange wipeAllSpec)) wipeAllCard

/-- THE SECOND FORM's CARD OF 'trellislaw.PutCheck'. -/
def putCheckUptoCard : Claim7 := { stood := { row := putCheckUptoRow, standIns := [], harness := (true, "1b511fa5c813810c0456803c701c3a4aa120cf84a71210b5b4d30e969159f81f"), looks := false }, kinds := [], alts := [], laidByText := true, laidKinds := [.data], laidTests := true, laidLooks := .later }
def PutCheckUptoCardSaid : Prop := Claim7.holds Tryd.pinned (.plain (OpenSpec.upto putCheckSpec)) putCheckUptoCard

/-- THE SECOND FORM's CARD OF 'trellislaw.MoveBack'. -/
def moveBackUptoCard : Claim7 := { stood := { row := moveBackUptoRow, standIns := [], harness := (true, "1b511fa5c813810c0456803c701c3a4aa120cf84a71210b5b4d30e969159f81f"), looks := false }, kinds := [], alts := [], laidByText := true, laidKinds := [.data], laidTests := true, laidLooks := .later }
def MoveBackUptoCardSaid : Prop := Claim7.holds Tryd.pinned (.plain (OpenSpec.upto moveBackSpec)) moveBackUptoCard

/-- THE SECOND FORM's CARD OF 'trellislaw.WipeAll'. -/
def wipeAllUptoCard : Claim7 := { stood := { row := wipeAllUptoRow, standIns := [], harness := (true, "1b511fa5c813810c0456803c701c3a4aa120cf84a71210b5b4d30e969159f81f"), looks := false }, kinds := [], alts := [], laidByText := true, laidKinds := [.data], laidTests := true, laidLooks := .later }
def WipeAllUptoCardSaid : Prop := Claim7.holds Tryd.pinned (.plain (OpenSpec.upto wipeAllSpec)) wipeAllUptoCard
end Rows
end Go.Proofs.YtdnglbgdoemejaaDoor
