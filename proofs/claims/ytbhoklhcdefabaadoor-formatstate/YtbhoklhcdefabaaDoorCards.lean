/-
  DERIVED. GIVEN WITH THE SEED: THE CARDS: each row of YtbhoklhcdefabaaDoorRows.lean that lists a variable, with what it lists TIED to the program's text (the seventh form; the later family's looks); each row that meets fmt, with fmt's text TOLD by the authors' own Lean function (tested against real Go, not proved from fmt's source: count such statements apart). THE CARD IS WHAT COUNTS. Prove the row's statement (the work); the ties are given (YtbhoklhcdefabaaDoorTie.lean); close each card by the builder's one call (the guide's Derived/Test/ToyasCard.lean, 'card_holds'). Laid BY PROGRAM, IN A SANDBOX (cutbox-door.mjs). By AI agents, Wed Nov 11 2026. No macro, syntax, notation, axiom, sorry.
-/
import Derived.Test.YtbhoklhcdefabaaDoorRows
import GoSem.ClaimSeven
namespace Go.Proofs.YtbhoklhcdefabaaDoor
namespace Rows

/-- THE TIED CARD OF 'trellislaw.FormatExpand'. -/
def formatExpandCard : Claim7 := { stood := { row := formatExpandRow, standIns := [], harness := (true, "e954995af8f827b15d0a0c7caa40884ced4257a378304f997338bc9d5d7c8fe9"), looks := true }, kinds := [], alts := [], laidByText := true, laidKinds := [.data, .data, .data, .sentinel, .sentinel, .data], laidTests := true, laidLooks := .later }
def FormatExpandCardSaid : Prop := Claim7.holds Tryd.pinned (.plain (OpenSpec.ofChange formatExpandSpec)) formatExpandCard

/-- THE TIED CARD OF 'trellislaw.FormatState'. -/
def formatStateCard : Claim7 := { stood := { row := formatStateRow, standIns := [], harness := (true, "e954995af8f827b15d0a0c7caa40884ced4257a378304f997338bc9d5d7c8fe9"), looks := true }, kinds := [], alts := [], laidByText := true, laidKinds := [.data, .data, .data, .sentinel, .sentinel, .data], laidTests := true, laidLooks := .later }
def FormatStateCardSaid : Prop := Claim7.holds Tryd.pinned (.plain (OpenSpec.ofChange formatStateSpec)) formatStateCard

/-- THE SECOND FORM's CARD OF 'trellislaw.FormatExpand'. -/
def formatExpandUptoCard : Claim7 := { stood := { row := formatExpandUptoRow, standIns := [], harness := (true, "e954995af8f827b15d0a0c7caa40884ced4257a378304f997338bc9d5d7c8fe9"), looks := true }, kinds := [], alts := [], laidByText := true, laidKinds := [.data, .data, .data, .sentinel, .sentinel, .data], laidTests := true, laidLooks := .later }
def FormatExpandUptoCardSaid : Prop := Claim7.holds Tryd.pinned (.plain (OpenSpec.upto formatExpandSpec)) formatExpandUptoCard

/-- THE SECOND FORM's CARD OF 'trellislaw.FormatState'. -/
def formatStateUptoCard : Claim7 := { stood := { row := formatStateUptoRow, standIns := [], harness := (true, "e954995af8f827b15d0a0c7caa40884ced4257a378304f997338bc9d5d7c8fe9"), looks := true }, kinds := [], alts := [], laidByText := true, laidKinds := [.data, .data, .data, .sentinel, .sentinel, .data], laidTests := true, laidLooks := .later }
def FormatStateUptoCardSaid : Prop := Claim7.holds Tryd.pinned (.plain (OpenSpec.upto formatStateSpec)) formatStateUptoCard
end Rows
end Go.Proofs.YtbhoklhcdefabaaDoor
