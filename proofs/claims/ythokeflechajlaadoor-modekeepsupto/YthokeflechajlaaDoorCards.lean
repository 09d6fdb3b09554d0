/-
  DERIVED. GIVEN WITH THE SEED: THE CARDS: each row of YthokeflechajlaaDoorRows.lean that lists a variable, with what it lists TIED to the program's text (the seventh form; the later family's looks); each row that meets fmt, with fmt's text TOLD by the authors' own Lean function (tested against real Go, not proved from fmt's source: count such statements apart). THE CARD IS WHAT COUNTS. Prove the row's statement (the work); the ties are given (YthokeflechajlaaDoorTie.lean); close each card by the builder's one call (the guide's Derived/Test/ToyasCard.lean, 'card_holds'). Laid BY PROGRAM, IN A SANDBOX (cutbox-door.mjs). By AI agents, Wed Nov 11 2026. No macro, syntax, notation, axiom, sorry.
-/
import Derived.Test.YthokeflechajlaaDoorRows
import GoSem.ClaimSeven
namespace Go.Proofs.YthokeflechajlaaDoor
namespace Rows

/-- THE TIED CARD OF 'trellislaw.ShiftHolds'. -/
def shiftHoldsCard : Claim7 := { stood := { row := shiftHoldsRow, standIns := [], harness := (true, "d4184ff6f1dffd6c7fe2f509d38c95f4f3710acaab31e8d1cf9d893d31f26072"), looks := false }, kinds := [], alts := [], laidByText := true, laidKinds := [.data], laidTests := true, laidLooks := .later }
def ShiftHoldsCardSaid : Prop := Claim7.holds Tryd.pinned (.plain (OpenSpec.ofChange shiftHoldsSpec)) shiftHoldsCard

/-- THE TIED CARD OF 'trellislaw.ShiftGone'. -/
def shiftGoneCard : Claim7 := { stood := { row := shiftGoneRow, standIns := [], harness := (true, "d4184ff6f1dffd6c7fe2f509d38c95f4f3710acaab31e8d1cf9d893d31f26072"), looks := false }, kinds := [], alts := [], laidByText := true, laidKinds := [.data], laidTests := true, laidLooks := .later }
def ShiftGoneCardSaid : Prop := Claim7.holds Tryd.pinned (.plain (OpenSpec.ofChange shiftGoneSpec)) shiftGoneCard

/-- THE TIED CARD OF 'trellislaw.ModeKeeps'. -/
def modeKeepsCard : Claim7 := { stood := { row := modeKeepsRow, standIns := [], harness := (true, "d4184ff6f1dffd6c7fe2f509d38c95f4f3710acaab31e8d1cf9d893d31f26072"), looks := false }, kinds := [], alts := [], laidByText := true, laidKinds := [.data, .data], laidTests := true, laidLooks := .later }
def ModeKeepsCardSaid : Prop := Claim7.holds Tryd.pinned (.plain (OpenSpec.ofChange modeKeepsSpec)) modeKeepsCard

/-- THE SECOND FORM's CARD OF 'trellislaw.ShiftHolds'. -/
def shiftHoldsUptoCard : Claim7 := { stood := { row := shiftHoldsUptoRow, standIns := [], harness := (true, "d4184ff6f1dffd6c7fe2f509d38c95f4f3710acaab31e8d1cf9d893d31f26072"), looks := false }, kinds := [], alts := [], laidByText := true, laidKinds := [.data], laidTests := true, laidLooks := .later }
def ShiftHoldsUptoCardSaid : Prop := Claim7.holds Tryd.pinned (.plain (OpenSpec.upto shiftHoldsSpec)) shiftHoldsUptoCard

/-- THE SECOND FORM's CARD OF 'trellislaw.ShiftGone'. -/
def shiftGoneUptoCard : Claim7 := { stood := { row := shiftGoneUptoRow, standIns := [], harness := (true, "d4184ff6f1dffd6c7fe2f509d38c95f4f3710acaab31e8d1cf9d893d31f26072"), looks := false }, kinds := [], alts := [], laidByText := true, laidKinds := [.data], laidTests := true, laidLooks := .later }
def ShiftGoneUptoCardSaid : Prop := Claim7.holds Tryd.pinned (.plain (OpenSpec.upto shiftGoneSpec)) shiftGoneUptoCard

/-- THE SECOND FORM's CARD OF 'trellislaw.ModeKeeps'. -/
def modeKeepsUptoCard : Claim7 := { stood := { row := modeKeepsUptoRow, standIns := [], harness := (true, "d4184ff6f1dffd6c7fe2f509d38c95f4f3710acaab31e8d1cf9d893d31f26072"), looks := false }, kinds := [], alts := [], laidByText := true, laidKinds := [.data, .data], laidTests := true, laidLooks := .later }
def ModeKeepsUptoCardSaid : Prop := Claim7.holds Tryd.pinned (.plain (OpenSpec.upto modeKeepsSpec)) modeKeepsUptoCard
end Rows
end Go.Proofs.YthokeflechajlaaDoor
