/-
  NARROWER THAN 'FOR EVERY INPUT', by the rows' own cells (each row's printed sentence says how): MoveRows: laid · MoveTabs: laid · MoveTo: laid · ShiftRegion: laid · ShiftFeed: laid · ShiftLines: laid.
  DERIVED. THE GIVEN ROWS OF THIS SEAT. 6 by the template 'for every input the law returns true; each argument reads behind the call as it read before'; 0 by the template 'total and deterministic' (their statements: YtmhmmpicedlcpaaGreatDoorTotals.lean).
  GIVEN WITH THE SEED: the statements are not yours to turn. If you find one false, say at which input.
  Laid BY PROGRAM, IN A SANDBOX (cutbox-rows.mjs): the forced cells as the released guide's own fill.sh prints them over the translation 7f95b77e60622c11… (all of the seat's roots in one cut). By AI agents, Wed Nov 11 2026. No macro, syntax, notation, axiom, sorry.
-/
import Derived.Test.YtmhmmpicedlcpaaGreatDoorChecked
import GoSem.Claim
import GoSem.ClaimJoined
import GoSem.ClaimMapViews
import Derived.JoinedTies
import Derived.KernelRfl
namespace Go.Proofs.YtmhmmpicedlcpaaGreatDoor
/- THE CELL 'sum', in the pinned program and in every row, IS THE sha256 OF THE DUMP (.gsa) THAT YtmhmmpicedlcpaaGreatDoorProg.lean LOADS. Nothing in Lean hashes anything: it is a label: what it is worth is what the hold of that sum in a sandbox is worth. -/
noncomputable def Tryz.pinned : Pinned := { name := "ytmhmmpicedlcpaagreatdoor", sum := "7f95b77e60622c11784b9a4366f045be81ddeec41a35d523810e107a32f0dd30", checked := Tryz.checked }
namespace Rows
def none {H : Type} : Left H := { results := [], args := [] }

/- WHAT THE LISTED PACKAGE-LEVEL VARIABLES READ AS WHEN THE CALL BEGINS. Each datum BY PROGRAM (the guide's laid-datum.mjs) off the statement by which the dump's own 'gosem.cut.vars' lays the variable. In a bare row this is a premise. The card (YtmhmmpicedlcpaaGreatDoorCards.lean) ties it to the program's text. -/
def laid_trellis_text_spans {H : Type} : DataW H := .agg [.agg [.lit (.int .i32 0), .lit (.int .i32 31), .lit (.int .i64 0)], .agg [.lit (.int .i32 127), .lit (.int .i32 159), .lit (.int .i64 0)], .agg [.lit (.int .i32 768), .lit (.int .i32 879), .lit (.int .i64 0)], .agg [.lit (.int .i32 4352), .lit (.int .i32 4447), .lit (.int .i64 2)], .agg [.lit (.int .i32 8203), .lit (.int .i32 8207), .lit (.int .i64 0)], .agg [.lit (.int .i32 8232), .lit (.int .i32 8238), .lit (.int .i64 0)], .agg [.lit (.int .i32 8400), .lit (.int .i32 8447), .lit (.int .i64 0)], .agg [.lit (.int .i32 11904), .lit (.int .i32 12350), .lit (.int .i64 2)], .agg [.lit (.int .i32 12353), .lit (.int .i32 19903), .lit (.int .i64 2)], .agg [.lit (.int .i32 19968), .lit (.int .i32 42191), .lit (.int .i64 2)], .agg [.lit (.int .i32 44032), .lit (.int .i32 55203), .lit (.int .i64 2)], .agg [.lit (.int .i32 55296), .lit (.int .i32 57343), .lit (.int .i64 0)], .agg [.lit (.int .i32 63744), .lit (.int .i32 64255), .lit (.int .i64 2)], .agg [.lit (.int .i32 65024), .lit (.int .i32 65039), .lit (.int .i64 0)], .agg [.lit (.int .i32 65072), .lit (.int .i32 65135), .lit (.int .i64 2)], .agg [.lit (.int .i32 65279), .lit (.int .i32 65279), .lit (.int .i64 0)], .agg [.lit (.int .i32 65280), .lit (.int .i32 65376), .lit (.int .i64 2)], .agg [.lit (.int .i32 65504), .lit (.int .i32 65510), .lit (.int .i64 2)], .agg [.lit (.int .i32 127744), .lit (.int .i32 128591), .lit (.int .i64 2)], .agg [.lit (.int .i32 129280), .lit (.int .i32 129535), .lit (.int .i64 2)], .agg [.lit (.int .i32 131072), .lit (.int .i32 262141), .lit (.int .i64 2)]]

/-- 'trellislaw.MoveRows': WHATEVER THE INPUT: true; the input reads as it did. -/
def moveRowsSpec : ChangeSpec := { name := "moveRows", fn := fun _ => fun
  | [d1, d2] => { results := [.lit (.bool true)], args := [d1, d2] }
  | _ => none }
def moveRowsRow : OpenClaim := { program := "ytmhmmpicedlcpaagreatdoor", sum := "7f95b77e60622c11784b9a4366f045be81ddeec41a35d523810e107a32f0dd30", func := "trellis/trellislaw.MoveRows", spec := "moveRows", inPlace := ["slices.overlaps[[]trellis/api.Cell]", "internal/abi.NoEscape"], unfollowed := true, recurses := true, named := ["trellis/text.spans"], apart := false, laid := [("trellis/text.spans", laid_trellis_text_spans)] }
def MoveRowsSaid : Prop := moveRowsRow.holds Tryz.pinned (OpenSpec.ofChange moveRowsSpec)

/-- ITS FALSE NEIGHBOUR: 'it returns false'. Refute it at one input. -/
def moveRowsWrong : ChangeSpec := { name := "moveRows", fn := fun _ => fun
  | [d1, d2] => { results := [.lit (.bool false)], args := [d1, d2] }
  | _ => none }
def MoveRowsWrongFalsely : Prop := moveRowsRow.holds Tryz.pinned (OpenSpec.ofChange moveRowsWrong)

/-- 'trellislaw.MoveTabs': WHATEVER THE INPUT: true; the input reads as it did. -/
def moveTabsSpec : ChangeSpec := { name := "moveTabs", fn := fun _ => fun
  | [d1, d2] => { results := [.lit (.bool true)], args := [d1, d2] }
  | _ => none }
def moveTabsRow : OpenClaim := { program := "ytmhmmpicedlcpaagreatdoor", sum := "7f95b77e60622c11784b9a4366f045be81ddeec41a35d523810e107a32f0dd30", func := "trellis/trellislaw.MoveTabs", spec := "moveTabs", inPlace := ["slices.overlaps[[]trellis/api.Cell]", "internal/abi.NoEscape"], unfollowed := true, recurses := true, named := ["trellis/text.spans"], apart := false, laid := [("trellis/text.spans", laid_trellis_text_spans)] }
def MoveTabsSaid : Prop := moveTabsRow.holds Tryz.pinned (OpenSpec.ofChange moveTabsSpec)

/-- ITS FALSE NEIGHBOUR: 'it returns false'. Refute it at one input. -/
def moveTabsWrong : ChangeSpec := { name := "moveTabs", fn := fun _ => fun
  | [d1, d2] => { results := [.lit (.bool false)], args := [d1, d2] }
  | _ => none }
def MoveTabsWrongFalsely : Prop := moveTabsRow.holds Tryz.pinned (OpenSpec.ofChange moveTabsWrong)

/-- 'trellislaw.MoveTo': WHATEVER THE INPUT: true; the input reads as it did. -/
def moveToSpec : ChangeSpec := { name := "moveTo", fn := fun _ => fun
  | [d1, d2, d3] => { results := [.lit (.bool true)], args := [d1, d2, d3] }
  | _ => none }
def moveToRow : OpenClaim := { program := "ytmhmmpicedlcpaagreatdoor", sum := "7f95b77e60622c11784b9a4366f045be81ddeec41a35d523810e107a32f0dd30", func := "trellis/trellislaw.MoveTo", spec := "moveTo", inPlace := ["internal/abi.NoEscape", "slices.overlaps[[]trellis/api.Cell]"], unfollowed := true, recurses := true, named := ["trellis/text.spans"], apart := false, laid := [("trellis/text.spans", laid_trellis_text_spans)] }
def MoveToSaid : Prop := moveToRow.holds Tryz.pinned (OpenSpec.ofChange moveToSpec)

/-- ITS FALSE NEIGHBOUR: 'it returns false'. Refute it at one input. -/
def moveToWrong : ChangeSpec := { name := "moveTo", fn := fun _ => fun
  | [d1, d2, d3] => { results := [.lit (.bool false)], args := [d1, d2, d3] }
  | _ => none }
def MoveToWrongFalsely : Prop := moveToRow.holds Tryz.pinned (OpenSpec.ofChange moveToWrong)

/-- 'trellislaw.ShiftRegion': WHATEVER THE INPUT: true; the input reads as it did. -/
def shiftRegionSpec : ChangeSpec := { name := "shiftRegion", fn := fun _ => fun
  | [d1, d2, d3] => { results := [.lit (.bool true)], args := [d1, d2, d3] }
  | _ => none }
def shiftRegionRow : OpenClaim := { program := "ytmhmmpicedlcpaagreatdoor", sum := "7f95b77e60622c11784b9a4366f045be81ddeec41a35d523810e107a32f0dd30", func := "trellis/trellislaw.ShiftRegion", spec := "shiftRegion", inPlace := ["internal/abi.NoEscape", "slices.overlaps[[]trellis/api.Cell]"], unfollowed := true, recurses := true, named := ["trellis/text.spans"], apart := false, laid := [("trellis/text.spans", laid_trellis_text_spans)] }
def ShiftRegionSaid : Prop := shiftRegionRow.holds Tryz.pinned (OpenSpec.ofChange shiftRegionSpec)

/-- ITS FALSE NEIGHBOUR: 'it returns false'. Refute it at one input. -/
def shiftRegionWrong : ChangeSpec := { name := "shiftRegion", fn := fun _ => fun
  | [d1, d2, d3] => { results := [.lit (.bool false)], args := [d1, d2, d3] }
  | _ => none }
def ShiftRegionWrongFalsely : Prop := shiftRegionRow.holds Tryz.pinned (OpenSpec.ofChange shiftRegionWrong)

/-- 'trellislaw.ShiftFeed': WHATEVER THE INPUT: true; the input reads as it did. -/
def shiftFeedSpec : ChangeSpec := { name := "shiftFeed", fn := fun _ => fun
  | [d] => { results := [.lit (.bool true)], args := [d] }
  | _ => none }
def shiftFeedRow : OpenClaim := { program := "ytmhmmpicedlcpaagreatdoor", sum := "7f95b77e60622c11784b9a4366f045be81ddeec41a35d523810e107a32f0dd30", func := "trellis/trellislaw.ShiftFeed", spec := "shiftFeed", inPlace := ["slices.overlaps[[]trellis/api.Cell]", "internal/abi.NoEscape"], unfollowed := true, recurses := true, named := ["trellis/text.spans"], apart := false, laid := [("trellis/text.spans", laid_trellis_text_spans)] }
def ShiftFeedSaid : Prop := shiftFeedRow.holds Tryz.pinned (OpenSpec.ofChange shiftFeedSpec)

/-- ITS FALSE NEIGHBOUR: 'it returns false'. Refute it at one input. -/
def shiftFeedWrong : ChangeSpec := { name := "shiftFeed", fn := fun _ => fun
  | [d] => { results := [.lit (.bool false)], args := [d] }
  | _ => none }
def ShiftFeedWrongFalsely : Prop := shiftFeedRow.holds Tryz.pinned (OpenSpec.ofChange shiftFeedWrong)

/-- 'trellislaw.ShiftLines': WHATEVER THE INPUT: true; the input reads as it did. -/
def shiftLinesSpec : ChangeSpec := { name := "shiftLines", fn := fun _ => fun
  | [d1, d2] => { results := [.lit (.bool true)], args := [d1, d2] }
  | _ => none }
def shiftLinesRow : OpenClaim := { program := "ytmhmmpicedlcpaagreatdoor", sum := "7f95b77e60622c11784b9a4366f045be81ddeec41a35d523810e107a32f0dd30", func := "trellis/trellislaw.ShiftLines", spec := "shiftLines", inPlace := ["slices.overlaps[[]trellis/api.Cell]", "internal/abi.NoEscape"], unfollowed := true, recurses := true, named := ["trellis/text.spans"], apart := false, laid := [("trellis/text.spans", laid_trellis_text_spans)] }
def ShiftLinesSaid : Prop := shiftLinesRow.holds Tryz.pinned (OpenSpec.ofChange shiftLinesSpec)

/-- ITS FALSE NEIGHBOUR: 'it returns false'. Refute it at one input. -/
def shiftLinesWrong : ChangeSpec := { name := "shiftLines", fn := fun _ => fun
  | [d1, d2] => { results := [.lit (.bool false)], args := [d1, d2] }
  | _ => none }
def ShiftLinesWrongFalsely : Prop := shiftLinesRow.holds Tryz.pinned (OpenSpec.ofChange shiftLinesWrong)

/- THE SECOND FORM. 'bulk': how many values and letters a reading holds, each counted each time it is reached (what is shared counts as often as it is met; a slice's spare places count too). A statement '..UptoSaid' is the law's where the arguments, and the package variables that the reading takes, are together of bulk at most 1048576: NARROWER than '..Said'. Prove '..Said' where nothing that the law and all that it calls make is longer than what came in: it says more and counts as full. Else prove '..UptoSaid'. A law counts once. -/
mutual
def uptoBulk {H : Type} : DataW H → Nat
  | .lit (.string bytes) => bytes.length + 1
  | .lit _ => 1
  | .nil => 1
  | .ptr d => uptoBulk d + 1
  | .slice elems spare => uptoBulkAll elems + uptoBulkAll spare + 1
  | .agg parts => uptoBulkAll parts + 1
  | .iface _ d => uptoBulk d + 1
  | .map entries => uptoBulkEntries entries + 1
  | .held _ => 1
def uptoBulkAll {H : Type} : List (DataW H) → Nat
  | [] => 0
  | d :: r => uptoBulk d + uptoBulkAll r
def uptoBulkEntries {H : Type} : List (Lit × DataW H) → Nat
  | [] => 0
  | x :: r => uptoBulkEntry x + uptoBulkEntries r
def uptoBulkEntry {H : Type} : Lit × DataW H → Nat
  | (.string bytes, d) => bytes.length + uptoBulk d + 1
  | (_, d) => uptoBulk d + 1
 end
def uptoSmall : (H : Type) → List (DataW H) → Bool := fun _ ds => decide (uptoBulkAll ds ≤ 1048576)
def OpenSpec.upto (s : _root_.Go.ChangeSpec) : _root_.Go.OpenSpec := { _root_.Go.OpenSpec.ofChange s with cond := some uptoSmall }

/-- 'trellislaw.MoveRows', WHERE WHAT IT READS IS OF BULK AT MOST 1048576: true; the input reads as it did. -/
def moveRowsUptoRow : OpenClaim := { program := "ytmhmmpicedlcpaagreatdoor", sum := "7f95b77e60622c11784b9a4366f045be81ddeec41a35d523810e107a32f0dd30", func := "trellis/trellislaw.MoveRows", spec := "moveRows", inPlace := ["slices.overlaps[[]trellis/api.Cell]", "internal/abi.NoEscape"], unfollowed := true, recurses := true, named := ["trellis/text.spans"], apart := false, laid := [("trellis/text.spans", laid_trellis_text_spans)], narrowed := true }
def MoveRowsUptoSaid : Prop := moveRowsUptoRow.holds Tryz.pinned (OpenSpec.upto moveRowsSpec)

/-- 'trellislaw.MoveTabs', WHERE WHAT IT READS IS OF BULK AT MOST 1048576: true; the input reads as it did. -/
def moveTabsUptoRow : OpenClaim := { program := "ytmhmmpicedlcpaagreatdoor", sum := "7f95b77e60622c11784b9a4366f045be81ddeec41a35d523810e107a32f0dd30", func := "trellis/trellislaw.MoveTabs", spec := "moveTabs", inPlace := ["slices.overlaps[[]trellis/api.Cell]", "internal/abi.NoEscape"], unfollowed := true, recurses := true, named := ["trellis/text.spans"], apart := false, laid := [("trellis/text.spans", laid_trellis_text_spans)], narrowed := true }
def MoveTabsUptoSaid : Prop := moveTabsUptoRow.holds Tryz.pinned (OpenSpec.upto moveTabsSpec)

/-- 'trellislaw.MoveTo', WHERE WHAT IT READS IS OF BULK AT MOST 1048576: true; the input reads as it did. -/
def moveToUptoRow : OpenClaim := { program := "ytmhmmpicedlcpaagreatdoor", sum := "7f95b77e60622c11784b9a4366f045be81ddeec41a35d523810e107a32f0dd30", func := "trellis/trellislaw.MoveTo", spec := "moveTo", inPlace := ["internal/abi.NoEscape", "slices.overlaps[[]trellis/api.Cell]"], unfollowed := true, recurses := true, named := ["trellis/text.spans"], apart := false, laid := [("trellis/text.spans", laid_trellis_text_spans)], narrowed := true }
def MoveToUptoSaid : Prop := moveToUptoRow.holds Tryz.pinned (OpenSpec.upto moveToSpec)

/-- 'trellislaw.ShiftRegion', WHERE WHAT IT READS IS OF BULK AT MOST 1048576: true; the input reads as it did. -/
def shiftRegionUptoRow : OpenClaim := { program := "ytmhmmpicedlcpaagreatdoor", sum := "7f95b77e60622c11784b9a4366f045be81ddeec41a35d523810e107a32f0dd30", func := "trellis/trellislaw.ShiftRegion", spec := "shiftRegion", inPlace := ["internal/abi.NoEscape", "slices.overlaps[[]trellis/api.Cell]"], unfollowed := true, recurses := true, named := ["trellis/text.spans"], apart := false, laid := [("trellis/text.spans", laid_trellis_text_spans)], narrowed := true }
def ShiftRegionUptoSaid : Prop := shiftRegionUptoRow.holds Tryz.pinned (OpenSpec.upto shiftRegionSpec)

/-- 'trellislaw.ShiftFeed', WHERE WHAT IT READS IS OF BULK AT MOST 1048576: true; the input reads as it did. -/
def shiftFeedUptoRow : OpenClaim := { program := "ytmhmmpicedlcpaagreatdoor", sum := "7f95b77e60622c11784b9a4366f045be81ddeec41a35d523810e107a32f0dd30", func := "trellis/trellislaw.ShiftFeed", spec := "shiftFeed", inPlace := ["slices.overlaps[[]trellis/api.Cell]", "internal/abi.NoEscape"], unfollowed := true, recurses := true, named := ["trellis/text.spans"], apart := false, laid := [("trellis/text.spans", laid_trellis_text_spans)], narrowed := true }
def ShiftFeedUptoSaid : Prop := shiftFeedUptoRow.holds Tryz.pinned (OpenSpec.upto shiftFeedSpec)

/-- 'trellislaw.ShiftLines', WHERE WHAT IT READS IS OF BULK AT MOST 1048576: true; the input reads as it did. -/
def shiftLinesUptoRow : OpenClaim := { program := "ytmhmmpicedlcpaagreatdoor", sum := "7f95b77e60622c11784b9a4366f045be81ddeec41a35d523810e107a32f0dd30", func := "trellis/trellislaw.ShiftLines", spec := "shiftLines", inPlace := ["slices.overlaps[[]trellis/api.Cell]", "internal/abi.NoEscape"], unfollowed := true, recurses := true, named := ["trellis/text.spans"], apart := false, laid := [("trellis/text.spans", laid_trellis_text_spans)], narrowed := true }
def ShiftLinesUptoSaid : Prop := shiftLinesUptoRow.holds Tryz.pinned (OpenSpec.upto shiftLinesSpec)

end Rows
end Go.Proofs.YtmhmmpicedlcpaaGreatDoor
