/-
  DERIVED. GIVEN WITH THE SEED: THE CARDS: each row of YtlodmffiengnaaaDoorRows.lean that lists a variable, with what it lists TIED to the program's text (the seventh form; the later family's looks); each row that meets fmt, with fmt's text TOLD by the authors' own Lean function (tested against real Go, not proved from fmt's source: count such statements apart). THE CARD IS WHAT COUNTS. Prove the row's statement (the work); the ties are given (YtlodmffiengnaaaDoorTie.lean); close each card by the builder's one call (the guide's Derived/Test/ToyasCard.lean, 'card_holds'). Laid BY PROGRAM, IN A SANDBOX (cutbox-door.mjs). By AI agents, Wed Nov 11 2026. No macro, syntax, notation, axiom, sorry.
-/
import Derived.Test.YtlodmffiengnaaaDoorRows
import GoSem.ClaimSeven
namespace Go.Proofs.YtlodmffiengnaaaDoor
namespace Rows

/-- THE TIED CARD OF 'trellislaw.CopyMove'. -/
def copyMoveCard : Claim7 := { stood := { row := copyMoveRow, standIns := [], harness := (true, "d9d016ec3643f90d6ca17529723f55138213536d842c0336e441cb484288b914"), looks := false }, kinds := [], alts := [], laidByText := true, laidKinds := [.data], laidTests := true, laidLooks := .later }
def CopyMoveCardSaid : Prop := Claim7.holds Tryd.pinned (.plain (OpenSpec.ofChange copyMoveSpec)) copyMoveCard

/-- THE TIED CARD OF 'trellislaw.CopyTake'. -/
def copyTakeCard : Claim7 := { stood := { row := copyTakeRow, standIns := [], harness := (true, "d9d016ec3643f90d6ca17529723f55138213536d842c0336e441cb484288b914"), looks := false }, kinds := [], alts := [], laidByText := true, laidKinds := [.data], laidTests := true, laidLooks := .later }
def CopyTakeCardSaid : Prop := Claim7.holds Tryd.pinned (.plain (OpenSpec.ofChange copyTakeSpec)) copyTakeCard

/-- THE TIED CARD OF 'trellislaw.CopySeek'. -/
def copySeekCard : Claim7 := { stood := { row := copySeekRow, standIns := [], harness := (true, "d9d016ec3643f90d6ca17529723f55138213536d842c0336e441cb484288b914"), looks := false }, kinds := [], alts := [], laidByText := true, laidKinds := [.data], laidTests := true, laidLooks := .later }
def CopySeekCardSaid : Prop := Claim7.holds Tryd.pinned (.plain (OpenSpec.ofChange copySeekSpec)) copySeekCard

/-- THE SECOND FORM's CARD OF 'trellislaw.CopyMove'. -/
def copyMoveUptoCard : Claim7 := { stood := { row := copyMoveUptoRow, standIns := [], harness := (true, "d9d016ec3643f90d6ca17529723f55138213536d842c0336e441cb484288b914"), looks := false }, kinds := [], alts := [], laidByText := true, laidKinds := [.data], laidTests := true, laidLooks := .later }
def CopyMoveUptoCardSaid : Prop := Claim7.holds Tryd.pinned (.plain (OpenSpec.upto copyMoveSpec)) copyMoveUptoCard

/-- THE SECOND FORM's CARD OF 'trellislaw.CopyTake'. -/
def copyTakeUptoCard : Claim7 := { stood := { row := copyTakeUptoRow, standIns := [], harness := (true, "d9d016ec3643f90d6ca17529723f55138213536d842c0336e441cb484288b914"), looks := false }, kinds := [], alts := [], laidByText := true, laidKinds := [.data], laidTests := true, laidLooks := .later }
def CopyTakeUptoCardSaid : Prop := Claim7.holds Tryd.pinned (.plain (OpenSpec.upto copyTakeSpec)) copyTakeUptoCard

/-- THE SECOND FORM's CARD OF 'trellislaw.CopySeek'. -/
def copySeekUptoCard : Claim7 := { stood := { row := copySeekUptoRow, standIns := [], harness := (true, "d9d016ec3643f90d6ca17529723f55138213536d842c0336e441cb484288b914"), looks := false }, kinds := [], alts := [], laidByText := true, laidKinds := [.data], laidTests := true, laidLooks := .later }
def CopySeekUptoCardSaid : Prop := Claim7.holds Tryd.pinned (.plain (OpenSpec.upto copySeekSpec)) copySeekUptoCard
end Rows
end Go.Proofs.YtlodmffiengnaaaDoor
