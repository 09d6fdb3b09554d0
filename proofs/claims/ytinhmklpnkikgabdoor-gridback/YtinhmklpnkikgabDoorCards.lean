/-
  DERIVED. GIVEN WITH THE SEED: THE CARDS: each row of YtinhmklpnkikgabDoorRows.lean that lists a variable, with what it lists TIED to the program's text (the seventh form; the later family's looks); each row that meets fmt, with fmt's text TOLD by the authors' own Lean function (tested against real Go, not proved from fmt's source: count such statements apart). THE CARD IS WHAT COUNTS. Prove the row's statement (the work); the ties are given (YtinhmklpnkikgabDoorTie.lean); close each card by the builder's one call (the guide's Derived/Test/ToyasCard.lean, 'card_holds'). Laid BY PROGRAM, IN A SANDBOX (cutbox-door.mjs). By AI agents, Wed Nov 11 2026. No macro, syntax, notation, axiom, sorry.
-/
import Derived.Test.YtinhmklpnkikgabDoorRows
import GoSem.ClaimSeven
namespace Go.Proofs.YtinhmklpnkikgabDoor
namespace Rows

/-- THE TIED CARD OF 'trellislaw.GridRight'. -/
def gridRightCard : Claim7 := { stood := { row := gridRightRow, standIns := [], harness := (true, "fac7305a317004536be3b510c99b7cd3c63a6c90bae1d18f0fc8ea80808fb746"), looks := false }, kinds := [], alts := [], laidByText := true, laidKinds := [.data, .data, .pinned], laidTests := true, laidLooks := .later }
def GridRightCardSaid : Prop := Claim7.holds Tryd.pinned (.plain (OpenSpec.ofChange gridRightSpec)) gridRightCard

/-- THE TIED CARD OF 'trellislaw.GridBack'. -/
def gridBackCard : Claim7 := { stood := { row := gridBackRow, standIns := [], harness := (true, "fac7305a317004536be3b510c99b7cd3c63a6c90bae1d18f0fc8ea80808fb746"), looks := false }, kinds := [], alts := [], laidByText := true, laidKinds := [.data, .data, .pinned], laidTests := true, laidLooks := .later }
def GridBackCardSaid : Prop := Claim7.holds Tryd.pinned (.plain (OpenSpec.ofChange gridBackSpec)) gridBackCard

/-- THE SECOND FORM's CARD OF 'trellislaw.GridRight'. -/
def gridRightUptoCard : Claim7 := { stood := { row := gridRightUptoRow, standIns := [], harness := (true, "fac7305a317004536be3b510c99b7cd3c63a6c90bae1d18f0fc8ea80808fb746"), looks := false }, kinds := [], alts := [], laidByText := true, laidKinds := [.data, .data, .pinned], laidTests := true, laidLooks := .later }
def GridRightUptoCardSaid : Prop := Claim7.holds Tryd.pinned (.plain (OpenSpec.upto gridRightSpec)) gridRightUptoCard

/-- THE SECOND FORM's CARD OF 'trellislaw.GridBack'. -/
def gridBackUptoCard : Claim7 := { stood := { row := gridBackUptoRow, standIns := [], harness := (true, "fac7305a317004536be3b510c99b7cd3c63a6c90bae1d18f0fc8ea80808fb746"), looks := false }, kinds := [], alts := [], laidByText := true, laidKinds := [.data, .data, .pinned], laidTests := true, laidLooks := .later }
def GridBackUptoCardSaid : Prop := Claim7.holds Tryd.pinned (.plain (OpenSpec.upto gridBackSpec)) gridBackUptoCard
end Rows
end Go.Proofs.YtinhmklpnkikgabDoor
