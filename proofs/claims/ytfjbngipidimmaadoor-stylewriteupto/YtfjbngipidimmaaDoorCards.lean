/-
  DERIVED. GIVEN WITH THE SEED: THE CARDS: each row of YtfjbngipidimmaaDoorRows.lean that lists a variable, with what it lists TIED to the program's text (the seventh form; the later family's looks); each row that meets fmt, with fmt's text TOLD by the authors' own Lean function (tested against real Go, not proved from fmt's source: count such statements apart). THE CARD IS WHAT COUNTS. Prove the row's statement (the work); the ties are given (YtfjbngipidimmaaDoorTie.lean); close each card by the builder's one call (the guide's Derived/Test/ToyasCard.lean, 'card_holds'). Laid BY PROGRAM, IN A SANDBOX (cutbox-door.mjs). By AI agents, Wed Nov 11 2026. No macro, syntax, notation, axiom, sorry.
-/
import Derived.Test.YtfjbngipidimmaaDoorRows
import GoSem.ClaimSeven
namespace Go.Proofs.YtfjbngipidimmaaDoor
namespace Rows

/-- THE TIED CARD OF 'trellislaw.StyleApply'. -/
def styleApplyCard : Claim7 := { stood := { row := styleApplyRow, standIns := [], harness := (true, "b8e180ec6017540e78ce6ad5ac52863da9e81f26d444e6c471f2f33ef0529859"), looks := false }, kinds := [], alts := [], laidByText := true, laidKinds := [.data, .data, .data, .data], laidTests := true, laidLooks := .later }
def StyleApplyCardSaid : Prop := Claim7.holds Tryd.pinned (.plain (OpenSpec.ofChange styleApplySpec)) styleApplyCard

/-- THE TIED CARD OF 'trellislaw.StyleNumbers'. -/
def styleNumbersCard : Claim7 := { stood := { row := styleNumbersRow, standIns := [], harness := (true, "b8e180ec6017540e78ce6ad5ac52863da9e81f26d444e6c471f2f33ef0529859"), looks := false }, kinds := [], alts := [], laidByText := true, laidKinds := [.data, .data, .data, .data], laidTests := true, laidLooks := .later }
def StyleNumbersCardSaid : Prop := Claim7.holds Tryd.pinned (.plain (OpenSpec.ofChange styleNumbersSpec)) styleNumbersCard

/-- THE TIED CARD OF 'trellislaw.StyleWrite'. -/
def styleWriteCard : Claim7 := { stood := { row := styleWriteRow, standIns := [], harness := (true, "b8e180ec6017540e78ce6ad5ac52863da9e81f26d444e6c471f2f33ef0529859"), looks := false }, kinds := [], alts := [], laidByText := true, laidKinds := [.data, .data, .data, .data], laidTests := true, laidLooks := .later }
def StyleWriteCardSaid : Prop := Claim7.holds Tryd.pinned (.plain (OpenSpec.ofChange styleWriteSpec)) styleWriteCard

/-- THE TIED CARD OF 'trellislaw.StyleBack'. -/
def styleBackCard : Claim7 := { stood := { row := styleBackRow, standIns := [], harness := (true, "b8e180ec6017540e78ce6ad5ac52863da9e81f26d444e6c471f2f33ef0529859"), looks := false }, kinds := [], alts := [], laidByText := true, laidKinds := [.data, .data, .data, .data], laidTests := true, laidLooks := .later }
def StyleBackCardSaid : Prop := Claim7.holds Tryd.pinned (.plain (OpenSpec.ofChange styleBackSpec)) styleBackCard

/-- THE TIED CARD OF 'trellislaw.StyleKeeps'. -/
def styleKeepsCard : Claim7 := { stood := { row := styleKeepsRow, standIns := [], harness := (true, "b8e180ec6017540e78ce6ad5ac52863da9e81f26d444e6c471f2f33ef0529859"), looks := false }, kinds := [], alts := [], laidByText := true, laidKinds := [.data, .data, .data, .data], laidTests := true, laidLooks := .later }
def StyleKeepsCardSaid : Prop := Claim7.holds Tryd.pinned (.plain (OpenSpec.ofChange styleKeepsSpec)) styleKeepsCard

/-- THE SECOND FORM's CARD OF 'trellislaw.StyleApply'. -/
def styleApplyUptoCard : Claim7 := { stood := { row := styleApplyUptoRow, standIns := [], harness := (true, "b8e180ec6017540e78ce6ad5ac52863da9e81f26d444e6c471f2f33ef0529859"), looks := false }, kinds := [], alts := [], laidByText := true, laidKinds := [.data, .data, .data, .data], laidTests := true, laidLooks := .later }
def StyleApplyUptoCardSaid : Prop := Claim7.holds Tryd.pinned (.plain (OpenSpec.upto styleApplySpec)) styleApplyUptoCard

/-- THE SECOND FORM's CARD OF 'trellislaw.StyleNumbers'. -/
def styleNumbersUptoCard : Claim7 := { stood := { row := styleNumbersUptoRow, standIns := [], harness := (true, "b8e180ec6017540e78ce6ad5ac52863da9e81f26d444e6c471f2f33ef0529859"), looks := false }, kinds := [], alts := [], laidByText := true, laidKinds := [.data, .data, .data, .data], laidTests := true, laidLooks := .later }
def StyleNumbersUptoCardSaid : Prop := Claim7.holds Tryd.pinned (.plain (OpenSpec.upto styleNumbersSpec)) styleNumbersUptoCard

/-- THE SECOND FORM's CARD OF 'trellislaw.StyleWrite'. -/
def styleWriteUptoCard : Claim7 := { stood := { row := styleWriteUptoRow, standIns := [], harness := (true, "b8e180ec6017540e78ce6ad5ac52863da9e81f26d444e6c471f2f33ef0529859"), looks := false }, kinds := [], alts := [], laidByText := true, laidKinds := [.data, .data, .data, .data], laidTests := true, laidLooks := .later }
def StyleWriteUptoCardSaid : Prop := Claim7.holds Tryd.pinned (.plain (OpenSpec.upto styleWriteSpec)) styleWriteUptoCard

/-- THE SECOND FORM's CARD OF 'trellislaw.StyleBack'. -/
def styleBackUptoCard : Claim7 := { stood := { row := styleBackUptoRow, standIns := [], harness := (true, "b8e180ec6017540e78ce6ad5ac52863da9e81f26d444e6c471f2f33ef0529859"), looks := false }, kinds := [], alts := [], laidByText := true, laidKinds := [.data, .data, .data, .data], laidTests := true, laidLooks := .later }
def StyleBackUptoCardSaid : Prop := Claim7.holds Tryd.pinned (.plain (OpenSpec.upto styleBackSpec)) styleBackUptoCard

/-- THE SECOND FORM's CARD OF 'trellislaw.StyleKeeps'. -/
def styleKeepsUptoCard : Claim7 := { stood := { row := styleKeepsUptoRow, standIns := [], harness := (true, "b8e180ec6017540e78ce6ad5ac52863da9e81f26d444e6c471f2f33ef0529859"), looks := false }, kinds := [], alts := [], laidByText := true, laidKinds := [.data, .data, .data, .data], laidTests := true, laidLooks := .later }
def StyleKeepsUptoCardSaid : Prop := Claim7.holds Tryd.pinned (.plain (OpenSpec.upto styleKeepsSpec)) styleKeepsUptoCard
end Rows
end Go.Proofs.YtfjbngipidimmaaDoor
