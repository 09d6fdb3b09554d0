/-
  DERIVED. GIVEN WITH THE SEED: THE CARDS: each row of YthnphjdpifpehaaDoorRows.lean that lists a variable, with what it lists TIED to the program's text (the seventh form; the later family's looks); each row that meets fmt, with fmt's text TOLD by the authors' own Lean function (tested against real Go, not proved from fmt's source: count such statements apart). THE CARD IS WHAT COUNTS. Prove the row's statement (the work); the ties are given (YthnphjdpifpehaaDoorTie.lean); close each card by the builder's one call (the guide's Derived/Test/ToyasCard.lean, 'card_holds'). Laid BY PROGRAM, IN A SANDBOX (cutbox-door.mjs). By AI agents, Wed Nov 11 2026. No macro, syntax, notation, axiom, sorry.
-/
import Derived.Test.YthnphjdpifpehaaDoorRows
import GoSem.ClaimSeven
namespace Go.Proofs.YthnphjdpifpehaaDoor
namespace Rows

/-- THE TIED CARD OF 'trellislaw.StyleApply'. -/
def styleApplyCard : Claim7 := { stood := { row := styleApplyRow, standIns := [], harness := (true, "787aac834d9a7a2c8c94eeae0a5cec780255cb96e2abef30248df678561d8406"), looks := false }, kinds := [], alts := [], laidByText := true, laidKinds := [.data, .data, .data, .data], laidTests := true, laidLooks := .later }
def StyleApplyCardSaid : Prop := Claim7.holds Tryd.pinned (.plain (OpenSpec.ofChange styleApplySpec)) styleApplyCard

/-- THE TIED CARD OF 'trellislaw.StyleNumbers'. -/
def styleNumbersCard : Claim7 := { stood := { row := styleNumbersRow, standIns := [], harness := (true, "787aac834d9a7a2c8c94eeae0a5cec780255cb96e2abef30248df678561d8406"), looks := false }, kinds := [], alts := [], laidByText := true, laidKinds := [.data, .data, .data, .data], laidTests := true, laidLooks := .later }
def StyleNumbersCardSaid : Prop := Claim7.holds Tryd.pinned (.plain (OpenSpec.ofChange styleNumbersSpec)) styleNumbersCard

/-- THE SECOND FORM's CARD OF 'trellislaw.StyleApply'. -/
def styleApplyUptoCard : Claim7 := { stood := { row := styleApplyUptoRow, standIns := [], harness := (true, "787aac834d9a7a2c8c94eeae0a5cec780255cb96e2abef30248df678561d8406"), looks := false }, kinds := [], alts := [], laidByText := true, laidKinds := [.data, .data, .data, .data], laidTests := true, laidLooks := .later }
def StyleApplyUptoCardSaid : Prop := Claim7.holds Tryd.pinned (.plain (OpenSpec.upto styleApplySpec)) styleApplyUptoCard

/-- THE SECOND FORM's CARD OF 'trellislaw.StyleNumbers'. -/
def styleNumbersUptoCard : Claim7 := { stood := { row := styleNumbersUptoRow, standIns := [], harness := (true, "787aac834d9a7a2c8c94eeae0a5cec780255cb96e2abef30248df678561d8406"), looks := false }, kinds := [], alts := [], laidByText := true, laidKinds := [.data, .data, .data, .data], laidTests := true, laidLooks := .later }
def StyleNumbersUptoCardSaid : Prop := Claim7.holds Tryd.pinned (.plain (OpenSpec.upto styleNumbersSpec)) styleNumbersUptoCard
end Rows
end Go.Proofs.YthnphjdpifpehaaDoor
