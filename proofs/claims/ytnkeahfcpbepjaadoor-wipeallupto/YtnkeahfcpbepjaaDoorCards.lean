/-
  DERIVED. GIVEN WITH THE SEED: THE CARDS: each row of YtnkeahfcpbepjaaDoorRows.lean that lists a variable, with what it lists TIED to the program's text (the seventh form; the later family's looks); each row that meets fmt, with fmt's text TOLD by the authors' own Lean function (tested against real Go, not proved from fmt's source: count such statements apart). THE CARD IS WHAT COUNTS. Prove the row's statement (the work); the ties are given (YtnkeahfcpbepjaaDoorTie.lean); close each card by the builder's one call (the guide's Derived/Test/ToyasCard.lean, 'card_holds'). Laid BY PROGRAM, IN A SANDBOX (cutbox-door.mjs). By AI agents, Wed Nov 11 2026. No macro, syntax, notation, axiom, sorry.
-/
import Derived.Test.YtnkeahfcpbepjaaDoorRows
import GoSem.ClaimSeven
namespace Go.Proofs.YtnkeahfcpbepjaaDoor
namespace Rows

/-- THE TIED CARD OF 'trellislaw.PutCheck'. -/
def putCheckCard : Claim7 := { stood := { row := putCheckRow, standIns := [], harness := (true, "0049fe7dce55842e57660893bb9bfc20c8bb131ac224d9510205f782e0166ad4"), looks := false }, kinds := [], alts := [], laidByText := true, laidKinds := [.data], laidTests := true, laidLooks := .later }
def PutCheckCardSaid : Prop := Claim7.holds Tryd.pinned (.plain (OpenSpec.ofChange putCheckSpec)) putCheckCard

/-- THE TIED CARD OF 'trellislaw.PutText'. -/
def putTextCard : Claim7 := { stood := { row := putTextRow, standIns := [], harness := (true, "0049fe7dce55842e57660893bb9bfc20c8bb131ac224d9510205f782e0166ad4"), looks := false }, kinds := [], alts := [], laidByText := true, laidKinds := [.data], laidTests := true, laidLooks := .later }
def PutTextCardSaid : Prop := Claim7.holds Tryd.pinned (.plain (OpenSpec.ofChange putTextSpec)) putTextCard

/-- THE TIED CARD OF 'trellislaw.PutRow'. -/
def putRowCard : Claim7 := { stood := { row := putRowRow, standIns := [], harness := (true, "0049fe7dce55842e57660893bb9bfc20c8bb131ac224d9510205f782e0166ad4"), looks := false }, kinds := [], alts := [], laidByText := true, laidKinds := [.data, .data, .pinned], laidTests := true, laidLooks := .later }
def PutRowCardSaid : Prop := Claim7.holds Tryd.pinned (.plain (OpenSpec.ofChange putRowSpec)) putRowCard

/-- THE TIED CARD OF 'trellislaw.PutStands'. -/
def putStandsCard : Claim7 := { stood := { row := putStandsRow, standIns := [], harness := (true, "0049fe7dce55842e57660893bb9bfc20c8bb131ac224d9510205f782e0166ad4"), looks := false }, kinds := [], alts := [], laidByText := true, laidKinds := [.data, .data, .pinned], laidTests := true, laidLooks := .later }
def PutStandsCardSaid : Prop := Claim7.holds Tryd.pinned (.plain (OpenSpec.ofChange putStandsSpec)) putStandsCard

/-- THE TIED CARD OF 'trellislaw.MoveBack'. -/
def moveBackCard : Claim7 := { stood := { row := moveBackRow, standIns := [], harness := (true, "0049fe7dce55842e57660893bb9bfc20c8bb131ac224d9510205f782e0166ad4"), looks := false }, kinds := [], alts := [], laidByText := true, laidKinds := [.data], laidTests := true, laidLooks := .later }
def MoveBackCardSaid : Prop := Claim7.holds Tryd.pinned (.plain (OpenSpec.ofChange moveBackSpec)) moveBackCard

/-- THE TIED CARD OF 'trellislaw.WipeAll'. -/
def wipeAllCard : Claim7 := { stood := { row := wipeAllRow, standIns := [], harness := (true, "0049fe7dce55842e57660893bb9bfc20c8bb131ac224d9510205f782e0166ad4"), looks := false }, kinds := [], alts := [], laidByText := true, laidKinds := [.data], laidTests := true, laidLooks := .later }
def WipeAllCardSaid : Prop := Claim7.holds Tryd.pinned (.plain (OpenSpec.ofChange wipeAllSpec)) wipeAllCard

/-- THE TIED CARD OF 'trellislaw.ModeKeeps'. -/
def modeKeepsCard : Claim7 := { stood := { row := modeKeepsRow, standIns := [], harness := (true, "0049fe7dce55842e57660893bb9bfc20c8bb131ac224d9510205f782e0166ad4"), looks := false }, kinds := [], alts := [], laidByText := true, laidKinds := [.data, .data], laidTests := true, laidLooks := .later }
def ModeKeepsCardSaid : Prop := Claim7.holds Tryd.pinned (.plain (OpenSpec.ofChange modeKeepsSpec)) modeKeepsCard

/-- THE SECOND FORM's CARD OF 'trellislaw.PutCheck'. -/
def putCheckUptoCard : Claim7 := { stood := { row := putCheckUptoRow, standIns := [], harness := (true, "0049fe7dce55842e57660893bb9bfc20c8bb131ac224d9510205f782e0166ad4"), looks := false }, kinds := [], alts := [], laidByText := true, laidKinds := [.data], laidTests := true, laidLooks := .later }
def PutCheckUptoCardSaid : Prop := Claim7.holds Tryd.pinned (.plain (OpenSpec.upto putCheckSpec)) putCheckUptoCard

/-- THE SECOND FORM's CARD OF 'trellislaw.PutText'. -/
def putTextUptoCard : Claim7 := { stood := { row := putTextUptoRow, standIns := [], harness := (true, "0049fe7dce55842e57660893bb9bfc20c8bb131ac224d9510205f782e0166ad4"), looks := false }, kinds := [], alts := [], laidByText := true, laidKinds := [.data], laidTests := true, laidLooks := .later }
def PutTextUptoCardSaid : Prop := Claim7.holds Tryd.pinned (.plain (OpenSpec.upto putTextSpec)) putTextUptoCard

/-- THE SECOND FORM's CARD OF 'trellislaw.PutRow'. -/
def putRowUptoCard : Claim7 := { stood := { row := putRowUptoRow, standIns := [], harness := (true, "0049fe7dce55842e57660893bb9bfc20c8bb131ac224d9510205f782e0166ad4"), looks := false }, kinds := [], alts := [], laidByText := true, laidKinds := [.data, .data, .pinned], laidTests := true, laidLooks := .later }
def PutRowUptoCardSaid : Prop := Claim7.holds Tryd.pinned (.plain (OpenSpec.upto putRowSpec)) putRowUptoCard

/-- THE SECOND FORM's CARD OF 'trellislaw.PutStands'. -/
def putStandsUptoCard : Claim7 := { stood := { row := putStandsUptoRow, standIns := [], harness := (true, "0049fe7dce55842e57660893bb9bfc20c8bb131ac224d9510205f782e0166ad4"), looks := false }, kinds := [], alts := [], laidByText := true, laidKinds := [.data, .data, .pinned], laidTests := true, laidLooks := .later }
def PutStandsUptoCardSaid : Prop := Claim7.holds Tryd.pinned (.plain (OpenSpec.upto putStandsSpec)) putStandsUptoCard

/-- THE SECOND FORM's CARD OF 'trellislaw.MoveBack'. -/
def moveBackUptoCard : Claim7 := { stood := { row := moveBackUptoRow, standIns := [], harness := (true, "0049fe7dce55842e57660893bb9bfc20c8bb131ac224d9510205f782e0166ad4"), looks := false }, kinds := [], alts := [], laidByText := true, laidKinds := [.data], laidTests := true, laidLooks := .later }
def MoveBackUptoCardSaid : Prop := Claim7.holds Tryd.pinned (.plain (OpenSpec.upto moveBackSpec)) moveBackUptoCard

/-- THE SECOND FORM's CARD OF 'trellislaw.WipeAll'. -/
def wipeAllUptoCard : Claim7 := { stood := { row := wipeAllUptoRow, standIns := [], harness := (true, "0049fe7dce55842e57660893bb9bfc20c8bb131ac224d9510205f782e0166ad4"), looks := false }, kinds := [], alts := [], laidByText := true, laidKinds := [.data], laidTests := true, laidLooks := .later }
def WipeAllUptoCardSaid : Prop := Claim7.holds Tryd.pinned (.plain (OpenSpec.upto wipeAllSpec)) wipeAllUptoCard

/-- THE SECOND FORM's CARD OF 'trellislaw.ModeKeeps'. -/
def modeKeepsUptoCard : Claim7 := { stood := { row := modeKeepsUptoRow, standIns := [], harness := (true, "0049fe7dce55842e57660893bb9bfc20c8bb131ac224d9510205f782e0166ad4"), looks := false }, kinds := [], alts := [], laidByText := true, laidKinds := [.data, .data], laidTests := true, laidLooks := .later }
def ModeKeepsUptoCardSaid : Prop := Claim7.holds Tryd.pinned (.plain (OpenSpec.upto modeKeepsSpec)) modeKeepsUptoCard
end Rows
end Go.Proofs.YtnkeahfcpbepjaaDoor
