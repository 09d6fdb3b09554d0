/-
  DERIVED. GIVEN WITH THE SEED: THE CARDS: each row of YtmeeojgjboppoaaDoorRows.lean that lists a variable, with what it lists TIED to the program's text (the seventh form; the later family's looks); each row that meets fmt, with fmt's text TOLD by the authors' own Lean function (tested against real Go, not proved from fmt's source: count such statements apart). THE CARD IS WHAT COUNTS. Prove the row's statement (the work); the ties are given (YtmeeojgjboppoaaDoorTie.lean); close each card by the builder's one call (the guide's Derived/Test/ToyasCard.lean, 'card_holds'). Laid BY PROGRAM, IN A SANDBOX (cutbox-door.mjs). By AI agents, Wed Nov 11 2026. No macro, syntax, notation, axiom, sorry.
-/
import Derived.Test.YtmeeojgjboppoaaDoorRows
import GoSem.ClaimSeven
namespace Go.Proofs.YtmeeojgjboppoaaDoor
namespace Rows

/-- THE TIED CARD OF 'trellislaw.PutRow'. -/
def putRowCard : Claim7 := { stood := { row := putRowRow, standIns := [], harness := (true, "2a3260190e4991e48bfe0086ae12b443e3e0ea1810855b887a66775358bf7855"), looks := false }, kinds := [], alts := [], laidByText := true, laidKinds := [.data, .data, .pinned], laidTests := true, laidLooks := .later }
def PutRowCardSaid : Prop := Claim7.holds Tryd.pinned (.plain (OpenSpec.ofChange putRowSpec)) putRowCard

/-- THE TIED CARD OF 'trellislaw.PutStands'. -/
def putStandsCard : Claim7 := { stood := { row := putStandsRow, standIns := [], harness := (true, "2a3260190e4991e48bfe0086ae12b443e3e0ea1810855b887a66775358bf7855"), looks := false }, kinds := [], alts := [], laidByText := true, laidKinds := [.data, .data, .pinned], laidTests := true, laidLooks := .later }
def PutStandsCardSaid : Prop := Claim7.holds Tryd.pinned (.plain (OpenSpec.ofChange putStandsSpec)) putStandsCard

/-- THE SECOND FORM's CARD OF 'trellislaw.PutRow'. -/
def putRowUptoCard : Claim7 := { stood := { row := putRowUptoRow, standIns := [], harness := (true, "2a3260190e4991e48bfe0086ae12b443e3e0ea1810855b887a66775358bf7855"), looks := false }, kinds := [], alts := [], laidByText := true, laidKinds := [.data, .data, .pinned], laidTests := true, laidLooks := .later }
def PutRowUptoCardSaid : Prop := Claim7.holds Tryd.pinned (.plain (OpenSpec.upto putRowSpec)) putRowUptoCard

/-- THE SECOND FORM's CARD OF 'trellislaw.PutStands'. -/
def putStandsUptoCard : Claim7 := { stood := { row := putStandsUptoRow, standIns := [], harness := (true, "2a3260190e4991e48bfe0086ae12b443e3e0ea1810855b887a66775358bf7855"), looks := false }, kinds := [], alts := [], laidByText := true, laidKinds := [.data, .data, .pinned], laidTests := true, laidLooks := .later }
def PutStandsUptoCardSaid : Prop := Claim7.holds Tryd.pinned (.plain (OpenSpec.upto putStandsSpec)) putStandsUptoCard
end Rows
end Go.Proofs.YtmeeojgjboppoaaDoor
