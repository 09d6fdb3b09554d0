/-
  DERIVED. GIVEN WITH THE SEED: THE CARDS: each row of YtmgmdijhiplalaaDoorRows.lean that lists a variable, with what it lists TIED to the program's text (the seventh form; the later family's looks); each row that meets fmt, with fmt's text TOLD by the authors' own Lean function (tested against real Go, not proved from fmt's source: count such statements apart). THE CARD IS WHAT COUNTS. Prove the row's statement (the work); the ties are given (YtmgmdijhiplalaaDoorTie.lean); close each card by the builder's one call (the guide's Derived/Test/ToyasCard.lean, 'card_holds'). Laid BY PROGRAM, IN A SANDBOX (cutbox-door.mjs). By AI agents, Wed Nov 11 2026. No macro, syntax, notation, axiom, sorry.
-/
import Derived.Test.YtmgmdijhiplalaaDoorRows
import GoSem.ClaimSeven
namespace Go.Proofs.YtmgmdijhiplalaaDoor
namespace Rows

/-- THE TIED CARD OF 'trellislaw.ParseFeed'. -/
def parseFeedCard : Claim7 := { stood := { row := parseFeedRow, standIns := [], harness := (true, "d9ef5ba728805c3ef0da7119e51c78c3cd25fb44289fbd8697c45da9fe7b0cd9"), looks := true }, kinds := [], alts := [], laidByText := true, laidKinds := [.data, .pinned], laidTests := true, laidLooks := .later }
def ParseFeedCardSaid : Prop := Claim7.holds Tryd.pinned (.plain (OpenSpec.ofChange parseFeedSpec)) parseFeedCard

/-- THE TIED CARD OF 'trellislaw.ParseWrite'. -/
def parseWriteCard : Claim7 := { stood := { row := parseWriteRow, standIns := [], harness := (true, "d9ef5ba728805c3ef0da7119e51c78c3cd25fb44289fbd8697c45da9fe7b0cd9"), looks := true }, kinds := [], alts := [], laidByText := true, laidKinds := [.data, .data, .data, .data, .pinned], laidTests := true, laidLooks := .later }
def ParseWriteCardSaid : Prop := Claim7.holds Tryd.pinned (.plain (OpenSpec.ofChange parseWriteSpec)) parseWriteCard

/-- THE SECOND FORM's CARD OF 'trellislaw.ParseFeed'. -/
def parseFeedUptoCard : Claim7 := { stood := { row := parseFeedUptoRow, standIns := [], harness := (true, "d9ef5ba728805c3ef0da7119e51c78c3cd25fb44289fbd8697c45da9fe7b0cd9"), looks := true }, kinds := [], alts := [], laidByText := true, laidKinds := [.data, .pinned], laidTests := true, laidLooks := .later }
def ParseFeedUptoCardSaid : Prop := Claim7.holds Tryd.pinned (.plain (OpenSpec.upto parseFeedSpec)) parseFeedUptoCard

/-- THE SECOND FORM's CARD OF 'trellislaw.ParseWrite'. -/
def parseWriteUptoCard : Claim7 := { stood := { row := parseWriteUptoRow, standIns := [], harness := (true, "d9ef5ba728805c3ef0da7119e51c78c3cd25fb44289fbd8697c45da9fe7b0cd9"), looks := true }, kinds := [], alts := [], laidByText := true, laidKinds := [.data, .data, .data, .data, .pinned], laidTests := true, laidLooks := .later }
def ParseWriteUptoCardSaid : Prop := Claim7.holds Tryd.pinned (.plain (OpenSpec.upto parseWriteSpec)) parseWriteUptoCard
end Rows
end Go.Proofs.YtmgmdijhiplalaaDoor
