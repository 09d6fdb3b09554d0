/-
  DERIVED. GIVEN WITH THE SEED: THE CARDS: each row of YtooaikdaahpngaaGreatDoorRows.lean that lists a variable, with what it lists TIED to the program's text (the seventh form; the later family's looks); each row that meets fmt, with fmt's text TOLD by the authors' own Lean function (tested against real Go, not proved from fmt's source: count such statements apart). THE CARD IS WHAT COUNTS. Prove the row's statement (the work); the ties are given (YtooaikdaahpngaaGreatDoorTie.lean); close each card by the builder's one call (the guide's Derived/Test/ToyasCard.lean, 'card_holds'). Laid BY PROGRAM, IN A SANDBOX (cutbox-door.mjs). By AI agents, Wed Nov 11 2026. No macro, syntax, notation, axiom, sorry.
-/
import Derived.Test.YtooaikdaahpngaaGreatDoorRows
import GoSem.ClaimSeven
namespace Go.Proofs.YtooaikdaahpngaaGreatDoor
namespace Rows

/-- THE TIED CARD OF 'trellislaw.PutText'. -/
def putTextCard : Claim7 := { stood := { row := putTextRow, standIns := [], harness := (true, "c12cb3c0250041e74a6142dbe14ab286cae3c0ce5ed7ec9898cc00fedf236291"), looks := false }, kinds := [], alts := [], laidByText := true, laidKinds := [.data], laidTests := true, laidLooks := .later }
def PutTextCardSaid : Prop := Claim7.holds Tryz.pinned (.plain (OpenSpec.ofChange putTextSpec)) putTextCard

/-- THE TIED CARD OF 'trellislaw.PutAgain'. -/
def putAgainCard : Claim7 := { stood := { row := putAgainRow, standIns := [], harness := (true, "c12cb3c0250041e74a6142dbe14ab286cae3c0ce5ed7ec9898cc00fedf236291"), looks := false }, kinds := [], alts := [], laidByText := true, laidKinds := [.data], laidTests := true, laidLooks := .later }
def PutAgainCardSaid : Prop := Claim7.holds Tryz.pinned (.plain (OpenSpec.ofChange putAgainSpec)) putAgainCard

/-- THE SECOND FORM's CARD OF 'trellislaw.PutText'. -/
def putTextUptoCard : Claim7 := { stood := { row := putTextUptoRow, standIns := [], harness := (true, "c12cb3c0250041e74a6142dbe14ab286cae3c0ce5ed7ec9898cc00fedf236291"), looks := false }, kinds := [], alts := [], laidByText := true, laidKinds := [.data], laidTests := true, laidLooks := .later }
def PutTextUptoCardSaid : Prop := Claim7.holds Tryz.pinned (.plain (OpenSpec.upto putTextSpec)) putTextUptoCard

/-- THE SECOND FORM's CARD OF 'trellislaw.PutAgain'. -/
def putAgainUptoCard : Claim7 := { stood := { row := putAgainUptoRow, standIns := [], harness := (true, "c12cb3c0250041e74a6142dbe14ab286cae3c0ce5ed7ec9898cc00fedf236291"), looks := false }, kinds := [], alts := [], laidByText := true, laidKinds := [.data], laidTests := true, laidLooks := .later }
def PutAgainUptoCardSaid : Prop := Claim7.holds Tryz.pinned (.plain (OpenSpec.upto putAgainSpec)) putAgainUptoCard
end Rows
end Go.Proofs.YtooaikdaahpngaaGreatDoor
