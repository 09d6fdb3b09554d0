/-
  DERIVED. GIVEN WITH THE SEED: THE CARDS: each row of YtjhaepongomccaaGreatDoorRows.lean that lists a variable, with what it lists TIED to the program's text (the seventh form; the later family's looks); each row that meets fmt, with fmt's text TOLD by the authors' own Lean function (tested against real Go, not proved from fmt's source: count such statements apart). THE CARD IS WHAT COUNTS. Prove the row's statement (the work); the ties are given (YtjhaepongomccaaGreatDoorTie.lean); close each card by the builder's one call (the guide's Derived/Test/ToyasCard.lean, 'card_holds'). Laid BY PROGRAM, IN A SANDBOX (cutbox-door.mjs). By AI agents, Wed Nov 11 2026. No macro, syntax, notation, axiom, sorry.
-/
import Derived.Test.YtjhaepongomccaaGreatDoorRows
import GoSem.ClaimSeven
namespace Go.Proofs.YtjhaepongomccaaGreatDoor
namespace Rows

/-- THE TIED CARD OF 'trellislaw.MoveRows'. -/
def moveRowsCard : Claim7 := { stood := { row := moveRowsRow, standIns := [], harness := (true, "b0d8d708260c59b8e81d0cf1e2008cf4fb19fdb8bb7e2788f612d3b82e48e9ef"), looks := false }, kinds := [], alts := [], laidByText := true, laidKinds := [.data], laidTests := true, laidLooks := .later }
def MoveRowsCardSaid : Prop := Claim7.holds Tryz.pinned (.plain (OpenSpec.ofChange moveRowsSpec)) moveRowsCard

/-- THE TIED CARD OF 'trellislaw.MoveTo'. -/
def moveToCard : Claim7 := { stood := { row := moveToRow, standIns := [], harness := (true, "b0d8d708260c59b8e81d0cf1e2008cf4fb19fdb8bb7e2788f612d3b82e48e9ef"), looks := false }, kinds := [], alts := [], laidByText := true, laidKinds := [.data], laidTests := true, laidLooks := .later }
def MoveToCardSaid : Prop := Claim7.holds Tryz.pinned (.plain (OpenSpec.ofChange moveToSpec)) moveToCard

/-- THE TIED CARD OF 'trellislaw.MoveTabs'. -/
def moveTabsCard : Claim7 := { stood := { row := moveTabsRow, standIns := [], harness := (true, "b0d8d708260c59b8e81d0cf1e2008cf4fb19fdb8bb7e2788f612d3b82e48e9ef"), looks := false }, kinds := [], alts := [], laidByText := true, laidKinds := [.data], laidTests := true, laidLooks := .later }
def MoveTabsCardSaid : Prop := Claim7.holds Tryz.pinned (.plain (OpenSpec.ofChange moveTabsSpec)) moveTabsCard

/-- THE TIED CARD OF 'trellislaw.WipeLine'. -/
def wipeLineCard : Claim7 := { stood := { row := wipeLineRow, standIns := [], harness := (true, "b0d8d708260c59b8e81d0cf1e2008cf4fb19fdb8bb7e2788f612d3b82e48e9ef"), looks := false }, kinds := [], alts := [], laidByText := true, laidKinds := [.data], laidTests := true, laidLooks := .later }
def WipeLineCardSaid : Prop := Claim7.holds Tryz.pinned (.plain (OpenSpec.ofChange wipeLineSpec)) wipeLineCard

/-- THE TIED CARD OF 'trellislaw.PutText'. -/
def putTextCard : Claim7 := { stood := { row := putTextRow, standIns := [], harness := (true, "b0d8d708260c59b8e81d0cf1e2008cf4fb19fdb8bb7e2788f612d3b82e48e9ef"), looks := false }, kinds := [], alts := [], laidByText := true, laidKinds := [.data], laidTests := true, laidLooks := .later }
def PutTextCardSaid : Prop := Claim7.holds Tryz.pinned (.plain (OpenSpec.ofChange putTextSpec)) putTextCard

/-- THE TIED CARD OF 'trellislaw.PutAgain'. -/
def putAgainCard : Claim7 := { stood := { row := putAgainRow, standIns := [], harness := (true, "b0d8d708260c59b8e81d0cf1e2008cf4fb19fdb8bb7e2788f612d3b82e48e9ef"), looks := false }, kinds := [], alts := [], laidByText := true, laidKinds := [.data], laidTests := true, laidLooks := .later }
def PutAgainCardSaid : Prop := Claim7.holds Tryz.pinned (.plain (OpenSpec.ofChange putAgainSpec)) putAgainCard

/-- THE SECOND FORM's CARD OF 'trellislaw.MoveRows'. -/
def moveRowsUptoCard : Claim7 := { stood := { row := moveRowsUptoRow, standIns := [], harness := (true, "b0d8d708260c59b8e81d0cf1e2008cf4fb19fdb8bb7e2788f612d3b82e48e9ef"), looks := false }, kinds := [], alts := [], laidByText := true, laidKinds := [.data], laidTests := true, laidLooks := .later }
def MoveRowsUptoCardSaid : Prop := Claim7.holds Tryz.pinned (.plain (OpenSpec.upto moveRowsSpec)) moveRowsUptoCard

/-- THE SECOND FORM's CARD OF 'trellislaw.MoveTo'. -/
def moveToUptoCard : Claim7 := { stood := { row := moveToUptoRow, standIns := [], harness := (true, "b0d8d708260c59b8e81d0cf1e2008cf4fb19fdb8bb7e2788f612d3b82e48e9ef"), looks := false }, kinds := [], alts := [], laidByText := true, laidKinds := [.data], laidTests := true, laidLooks := .later }
def MoveToUptoCardSaid : Prop := Claim7.holds Tryz.pinned (.plain (OpenSpec.upto moveToSpec)) moveToUptoCard

/-- THE SECOND FORM's CARD OF 'trellislaw.MoveTabs'. -/
def moveTabsUptoCard : Claim7 := { stood := { row := moveTabsUptoRow, standIns := [], harness := (true, "b0d8d708260c59b8e81d0cf1e2008cf4fb19fdb8bb7e2788f612d3b82e48e9ef"), looks := false }, kinds := [], alts := [], laidByText := true, laidKinds := [.data], laidTests := true, laidLooks := .later }
def MoveTabsUptoCardSaid : Prop := Claim7.holds Tryz.pinned (.plain (OpenSpec.upto moveTabsSpec)) moveTabsUptoCard

/-- THE SECOND FORM's CARD OF 'trellislaw.WipeLine'. -/
def wipeLineUptoCard : Claim7 := { stood := { row := wipeLineUptoRow, standIns := [], harness := (true, "b0d8d708260c59b8e81d0cf1e2008cf4fb19fdb8bb7e2788f612d3b82e48e9ef"), looks := false }, kinds := [], alts := [], laidByText := true, laidKinds := [.data], laidTests := true, laidLooks := .later }
def WipeLineUptoCardSaid : Prop := Claim7.holds Tryz.pinned (.plain (OpenSpec.upto wipeLineSpec)) wipeLineUptoCard

/-- THE SECOND FORM's CARD OF 'trellislaw.PutText'. -/
def putTextUptoCard : Claim7 := { stood := { row := putTextUptoRow, standIns := [], harness := (true, "b0d8d708260c59b8e81d0cf1e2008cf4fb19fdb8bb7e2788f612d3b82e48e9ef"), looks := false }, kinds := [], alts := [], laidByText := true, laidKinds := [.data], laidTests := true, laidLooks := .later }
def PutTextUptoCardSaid : Prop := Claim7.holds Tryz.pinned (.plain (OpenSpec.upto putTextSpec)) putTextUptoCard

/-- THE SECOND FORM's CARD OF 'trellislaw.PutAgain'. -/
def putAgainUptoCard : Claim7 := { stood := { row := putAgainUptoRow, standIns := [], harness := (true, "b0d8d708260c59b8e81d0cf1e2008cf4fb19fdb8bb7e2788f612d3b82e48e9ef"), looks := false }, kinds := [], alts := [], laidByText := true, laidKinds := [.data], laidTests := true, laidLooks := .later }
def PutAgainUptoCardSaid : Prop := Claim7.holds Tryz.pinned (.plain (OpenSpec.upto putAgainSpec)) putAgainUptoCard
end Rows
end Go.Proofs.YtjhaepongomccaaGreatDoor
