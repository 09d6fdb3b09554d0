/-
  DERIVED. GIVEN WITH THE SEED: THE CARDS: each row of YtfdookpjhbjndaaGreatDoorRows.lean that lists a variable, with what it lists TIED to the program's text (the seventh form; the later family's looks); each row that meets fmt, with fmt's text TOLD by the authors' own Lean function (tested against real Go, not proved from fmt's source: count such statements apart). THE CARD IS WHAT COUNTS. Prove the row's statement (the work); the ties are given (YtfdookpjhbjndaaGreatDoorTie.lean); close each card by the builder's one call (the guide's Derived/Test/ToyasCard.lean, 'card_holds'). Laid BY PROGRAM, IN A SANDBOX (cutbox-door.mjs). By AI agents, Wed Nov 11 2026. No macro, syntax, notation, axiom, sorry.
-/
import Derived.Test.YtfdookpjhbjndaaGreatDoorRows
import GoSem.ClaimSeven
namespace Go.Proofs.YtfdookpjhbjndaaGreatDoor
namespace Rows

/-- THE TIED CARD OF 'trellislaw.MoveRows'. -/
def moveRowsCard : Claim7 := { stood := { row := moveRowsRow, standIns := [], harness := (true, "f200cb886f966dd438d6d842b38b026db46749a9a17a8fbdd49480e1d70a2297"), looks := false }, kinds := [], alts := [], laidByText := true, laidKinds := [.data], laidTests := true, laidLooks := .later }
def MoveRowsCardSaid : Prop := Claim7.holds Tryz.pinned (.plain (OpenSpec.ofChange moveRowsSpec)) moveRowsCard

/-- THE TIED CARD OF 'trellislaw.MoveTo'. -/
def moveToCard : Claim7 := { stood := { row := moveToRow, standIns := [], harness := (true, "f200cb886f966dd438d6d842b38b026db46749a9a17a8fbdd49480e1d70a2297"), looks := false }, kinds := [], alts := [], laidByText := true, laidKinds := [.data], laidTests := true, laidLooks := .later }
def MoveToCardSaid : Prop := Claim7.holds Tryz.pinned (.plain (OpenSpec.ofChange moveToSpec)) moveToCard

/-- THE TIED CARD OF 'trellislaw.MoveTabs'. -/
def moveTabsCard : Claim7 := { stood := { row := moveTabsRow, standIns := [], harness := (true, "f200cb886f966dd438d6d842b38b026db46749a9a17a8fbdd49480e1d70a2297"), looks := false }, kinds := [], alts := [], laidByText := true, laidKinds := [.data], laidTests := true, laidLooks := .later }
def MoveTabsCardSaid : Prop := Claim7.holds Tryz.pinned (.plain (OpenSpec.ofChange moveTabsSpec)) moveTabsCard

/-- THE TIED CARD OF 'trellislaw.WipeLine'. -/
def wipeLineCard : Claim7 := { stood := { row := wipeLineRow, standIns := [], harness := (true, "f200cb886f966dd438d6d842b38b026db46749a9a17a8fbdd49480e1d70a2297"), looks := false }, kinds := [], alts := [], laidByText := true, laidKinds := [.data], laidTests := true, laidLooks := .later }
def WipeLineCardSaid : Prop := Claim7.holds Tryz.pinned (.plain (OpenSpec.ofChange wipeLineSpec)) wipeLineCard

/-- THE SECOND FORM's CARD OF 'trellislaw.MoveRows'. -/
def moveRowsUptoCard : Claim7 := { stood := { row := moveRowsUptoRow, standIns := [], harness := (true, "f200cb886f966dd438d6d842b38b026db46749a9a17a8fbdd49480e1d70a2297"), looks := false }, kinds := [], alts := [], laidByText := true, laidKinds := [.data], laidTests := true, laidLooks := .later }
def MoveRowsUptoCardSaid : Prop := Claim7.holds Tryz.pinned (.plain (OpenSpec.upto moveRowsSpec)) moveRowsUptoCard

/-- THE SECOND FORM's CARD OF 'trellislaw.MoveTo'. -/
def moveToUptoCard : Claim7 := { stood := { row := moveToUptoRow, standIns := [], harness := (true, "f200cb886f966dd438d6d842b38b026db46749a9a17a8fbdd49480e1d70a2297"), looks := false }, kinds := [], alts := [], laidByText := true, laidKinds := [.data], laidTests := true, laidLooks := .later }
def MoveToUptoCardSaid : Prop := Claim7.holds Tryz.pinned (.plain (OpenSpec.upto moveToSpec)) moveToUptoCard

/-- THE SECOND FORM's CARD OF 'trellislaw.MoveTabs'. -/
def moveTabsUptoCard : Claim7 := { stood := { row := moveTabsUptoRow, standIns := [], harness := (true, "f200cb886f966dd438d6d842b38b026db46749a9a17a8fbdd49480e1d70a2297"), looks := false }, kinds := [], alts := [], laidByText := true, laidKinds := [.data], laidTests := true, laidLooks := .later }
def MoveTabsUptoCardSaid : Prop := Claim7.holds Tryz.pinned (.plain (OpenSpec.upto moveTabsSpec)) moveTabsUptoCard

/-- THE SECOND FORM's CARD OF 'trellislaw.WipeLine'. -/
def wipeLineUptoCard : Claim7 := { stood := { row := wipeLineUptoRow, standIns := [], harness := (true, "f200cb886f966dd438d6d842b38b026db46749a9a17a8fbdd49480e1d70a2297"), looks := false }, kinds := [], alts := [], laidByText := true, laidKinds := [.data], laidTests := true, laidLooks := .later }
def WipeLineUptoCardSaid : Prop := Claim7.holds Tryz.pinned (.plain (OpenSpec.upto wipeLineSpec)) wipeLineUptoCard
end Rows
end Go.Proofs.YtfdookpjhbjndaaGreatDoor
