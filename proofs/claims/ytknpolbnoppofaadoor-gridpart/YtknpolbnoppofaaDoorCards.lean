/-
  DERIVED. GIVEN WITH THE SEED: THE CARDS: each row of YtknpolbnoppofaaDoorRows.lean that lists a variable, with what it lists TIED to the program's text (the seventh form; the later family's looks); each row that meets fmt, with fmt's text TOLD by the authors' own Lean function (tested against real Go, not proved from fmt's source: count such statements apart). THE CARD IS WHAT COUNTS. Prove the row's statement (the work); the ties are given (YtknpolbnoppofaaDoorTie.lean); close each card by the builder's one call (the guide's Derived/Test/ToyasCard.lean, 'card_holds'). Laid BY PROGRAM, IN A SANDBOX (cutbox-door.mjs). By AI agents, Wed Nov 11 2026. No macro, syntax, notation, axiom, sorry.
-/
import Derived.Test.YtknpolbnoppofaaDoorRows
import GoSem.ClaimSeven
namespace Go.Proofs.YtknpolbnoppofaaDoor
namespace Rows

/-- THE TIED CARD OF 'trellislaw.GridLay'. -/
def gridLayCard : Claim7 := { stood := { row := gridLayRow, standIns := [], harness := (true, "d3223b55479cf4e1d6fcfa5525ca5a1f99fddca491aa618a2e1ec1f445eacb59"), looks := false }, kinds := [], alts := [], laidByText := true, laidKinds := [.data, .data, .pinned], laidTests := true, laidLooks := .later }
def GridLayCardSaid : Prop := Claim7.holds Tryd.pinned (.plain (OpenSpec.ofChange gridLaySpec)) gridLayCard

/-- THE TIED CARD OF 'trellislaw.GridPart'. -/
def gridPartCard : Claim7 := { stood := { row := gridPartRow, standIns := [], harness := (true, "d3223b55479cf4e1d6fcfa5525ca5a1f99fddca491aa618a2e1ec1f445eacb59"), looks := false }, kinds := [], alts := [], laidByText := true, laidKinds := [.data, .data, .pinned], laidTests := true, laidLooks := .later }
def GridPartCardSaid : Prop := Claim7.holds Tryd.pinned (.plain (OpenSpec.ofChange gridPartSpec)) gridPartCard

/-- THE SECOND FORM's CARD OF 'trellislaw.GridLay'. -/
def gridLayUptoCard : Claim7 := { stood := { row := gridLayUptoRow, standIns := [], harness := (true, "d3223b55479cf4e1d6fcfa5525ca5a1f99fddca491aa618a2e1ec1f445eacb59"), looks := false }, kinds := [], alts := [], laidByText := true, laidKinds := [.data, .data, .pinned], laidTests := true, laidLooks := .later }
def GridLayUptoCardSaid : Prop := Claim7.holds Tryd.pinned (.plain (OpenSpec.upto gridLaySpec)) gridLayUptoCard

/-- THE SECOND FORM's CARD OF 'trellislaw.GridPart'. -/
def gridPartUptoCard : Claim7 := { stood := { row := gridPartUptoRow, standIns := [], harness := (true, "d3223b55479cf4e1d6fcfa5525ca5a1f99fddca491aa618a2e1ec1f445eacb59"), looks := false }, kinds := [], alts := [], laidByText := true, laidKinds := [.data, .data, .pinned], laidTests := true, laidLooks := .later }
def GridPartUptoCardSaid : Prop := Claim7.holds Tryd.pinned (.plain (OpenSpec.upto gridPartSpec)) gridPartUptoCard
end Rows
end Go.Proofs.YtknpolbnoppofaaDoor
