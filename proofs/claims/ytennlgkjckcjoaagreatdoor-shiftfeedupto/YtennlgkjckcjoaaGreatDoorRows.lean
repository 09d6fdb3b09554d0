/-
  NARROWER THAN 'FOR EVERY INPUT', by the rows' own cells (each row's printed sentence says how): MoveTo: laid · WipeLine: laid · ShiftCells: laid · ShiftLines: laid · ShiftFeed: laid.
  DERIVED. THE GIVEN ROWS OF THIS SEAT. 5 by the template 'for every input the law returns true; each argument reads behind the call as it read before'; 0 by the template 'total and deterministic' (their statements: YtennlgkjckcjoaaGreatDoorTotals.lean).
  GIVEN WITH THE SEED: the statements are not yours to turn. If you find one false, say at which input.
  Laid BY PROGRAM, IN A SANDBOX (cutbox-rows.mjs): the forced cells as the released guide's own fill.sh prints them over the translation c1ae574d05d9e6c5… (all of the seat's roots in one cut). By AI agents, Wed Nov 11 2026. No macro, syntax, notation, axiom, sorry.
-/
import Derived.Test.YtennlgkjckcjoaaGreatDoorChecked
import GoSem.Claim
import GoSem.ClaimJoined
import GoSem.ClaimMapViews
import Derived.JoinedTies
import Derived.KernelRfl
namespace Go.Proofs.YtennlgkjckcjoaaGreatDoor
/- THE CELL 'sum', in the pinned program and in every row, IS THE sha256 OF THE DUMP (.gsa) THAT YtennlgkjckcjoaaGreatDoorProg.lean LOADS. Nothing in Lean hashes anything: it is a label: what it is worth is what the hold of that sum in a sandbox is worth. -/
noncomputable def Tryz.pinned : Pinned := { name := "ytennlgkjckcjoaagreatdoor", sum := "c1ae574d05d9e6c526e2713c4f957da384e255d537db1e072515786e6b1baa47", checked := Tryz.checked }
namespace Rows
def none {H : Type} : Left H := { results := [], args := [] }

/- WHAT THE LISTED PACKAGE-LEVEL VARIABLES READ AS WHEN THE CALL BEGINS. Each datum BY PROGRAM (the guide's laid-datum.mjs) off the statement by which the dump's own 'gosem.cut.vars' lays the variable. In a bare row this is a premise. The card (YtennlgkjckcjoaaGreatDoorCards.lean) ties it to the program's text. -/
def laid_trellis_text_spans {H : Type} : DataW H := .agg [.agg [.lit (.int .i32 0), .lit (.int .i32 31), .lit (.int .i64 0)], .agg [.lit (.int .i32 127), .lit (.int .i32 159), .lit (.int .i64 0)], .agg [.lit (.int .i32 768), .lit (.int .i32 879), .lit (.int .i64 0)], .agg [.lit (.int .i32 4352), .lit (.int .i32 4447), .lit (.int .i64 2)], .agg [.lit (.int .i32 8203), .lit (.int .i32 8207), .lit (.int .i64 0)], .agg [.lit (.int .i32 8232), .lit (.int .i32 8238), .lit (.int .i64 0)], .agg [.lit (.int .i32 8400), .lit (.int .i32 8447), .lit (.int .i64 0)], .agg [.lit (.int .i32 11904), .lit (.int .i32 12350), .lit (.int .i64 2)], .agg [.lit (.int .i32 12353), .lit (.int .i32 19903), .lit (.int .i64 2)], .agg [.lit (.int .i32 19968), .lit (.int .i32 42191), .lit (.int .i64 2)], .agg [.lit (.int .i32 44032), .lit (.int .i32 55203), .lit (.int .i64 2)], .agg [.lit (.int .i32 55296), .lit (.int .i32 57343), .lit (.int .i64 0)], .agg [.lit (.int .i32 63744), .lit (.int .i32 64255), .lit (.int .i64 2)], .agg [.lit (.int .i32 65024), .lit (.int .i32 65039), .lit (.int .i64 0)], .agg [.lit (.int .i32 65072), .lit (.int .i32 65135), .lit (.int .i64 2)], .agg [.lit (.int .i32 65279), .lit (.int .i32 65279), .lit (.int .i64 0)], .agg [.lit (.int .i32 65280), .lit (.int .i32 65376), .lit (.int .i64 2)], .agg [.lit (.int .i32 65504), .lit (.int .i32 65510), .lit (.int .i64 2)], .agg [.lit (.int .i32 127744), .lit (.int .i32 128591), .lit (.int .i64 2)], .agg [.lit (.int .i32 129280), .lit (.int .i32 129535), .lit (.int .i64 2)], .agg [.lit (.int .i32 131072), .lit (.int .i32 262141), .lit (.int .i64 2)]]

/-- 'trellislaw.MoveTo': WHATEVER THE INPUT: true; the input reads as it did. -/
def moveToSpec : ChangeSpec := { name := "moveTo", fn := fun _ => fun
  | [d1, d2, d3] => { results := [.lit (.bool true)], args := [d1, d2, d3] }
  | _ => none }
def moveToRow : OpenClaim := { program := "ytennlgkjckcjoaagreatdoor", sum := "c1ae574d05d9e6c526e2713c4f957da384e255d537db1e072515786e6b1baa47", func := "trellis/trellislaw.MoveTo", spec := "moveTo", inPlace := ["internal/abi.NoEscape", "slices.overlaps[[]trellis/api.Cell]"], unfollowed := true, recurses := true, named := ["trellis/text.spans"], apart := false, laid := [("trellis/text.spans", laid_trellis_text_spans)] }
def MoveToSaid : Prop := moveToRow.holds Tryz.pinned (OpenSpec.ofChange moveToSpec)

/-- ITS FALSE NEIGHBOUR: 'it returns false'. Refute it at one input. -/
def moveToWrong : ChangeSpec := { name := "moveTo", fn := fun _ => fun
  | [d1, d2, d3] => { results := [.lit (.bool false)], args := [d1, d2, d3] }
  | _ => none }
def MoveToWrongFalsely : Prop := moveToRow.holds Tryz.pinned (OpenSpec.ofChange moveToWrong)

/-- 'trellislaw.WipeLine': WHATEVER THE INPUT: true; the input reads as it did. -/
def wipeLineSpec : ChangeSpec := { name := "wipeLine", fn := fun _ => fun
  | [d1, d2, d3] => { results := [.lit (.bool true)], args := [d1, d2, d3] }
  | _ => none }
def wipeLineRow : OpenClaim := { program := "ytennlgkjckcjoaagreatdoor", sum := "c1ae574d05d9e6c526e2713c4f957da384e255d537db1e072515786e6b1baa47", func := "trellis/trellislaw.WipeLine", spec := "wipeLine", inPlace := ["slices.overlaps[[]trellis/api.Cell]", "internal/abi.NoEscape"], unfollowed := true, recurses := true, named := ["trellis/text.spans"], apart := false, laid := [("trellis/text.spans", laid_trellis_text_spans)] }
def WipeLineSaid : Prop := wipeLineRow.holds Tryz.pinned (OpenSpec.ofChange wipeLineSpec)

/-- ITS FALSE NEIGHBOUR: 'it returns false'. Refute it at one input. -/
def wipeLineWrong : ChangeSpec := { name := "wipeLine", fn := fun _ => fun
  | [d1, d2, d3] => { results := [.lit (.bool false)], args := [d1, d2, d3] }
  | _ => none }
def WipeLineWrongFalsely : Prop := wipeLineRow.holds Tryz.pinned (OpenSpec.ofChange wipeLineWrong)

/-- 'trellislaw.ShiftCells': WHATEVER THE INPUT: true; the input reads as it did. -/
def shiftCellsSpec : ChangeSpec := { name := "shiftCells", fn := fun _ => fun
  | [d1, d2] => { results := [.lit (.bool true)], args := [d1, d2] }
  | _ => none }
def shiftCellsRow : OpenClaim := { program := "ytennlgkjckcjoaagreatdoor", sum := "c1ae574d05d9e6c526e2713c4f957da384e255d537db1e072515786e6b1baa47", func := "trellis/trellislaw.ShiftCells", spec := "shiftCells", inPlace := ["slices.overlaps[[]trellis/api.Cell]", "internal/abi.NoEscape"], unfollowed := true, recurses := true, named := ["trellis/text.spans"], apart := false, laid := [("trellis/text.spans", laid_trellis_text_spans)] }
def ShiftCellsSaid : Prop := shiftCellsRow.holds Tryz.pinned (OpenSpec.ofChange shiftCellsSpec)

/-- ITS FALSE NEIGHBOUR: 'it returns false'. Refute it at one input. -/
def shiftCellsWrong : ChangeSpec := { name := "shiftCells", fn := fun _ => fun
  | [d1, d2] => { results := [.lit (.bool false)], args := [d1, d2] }
  | _ => none }
def ShiftCellsWrongFalsely : Prop := shiftCellsRow.holds Tryz.pinned (OpenSpec.ofChange shiftCellsWrong)

/-- 'trellislaw.ShiftLines': WHATEVER THE INPUT: true; the input reads as it did. -/
def shiftLinesSpec : ChangeSpec := { name := "shiftLines", fn := fun _ => fun
  | [d1, d2] => { results := [.lit (.bool true)], args := [d1, d2] }
  | _ => none }
def shiftLinesRow : OpenClaim := { program := "ytennlgkjckcjoaagreatdoor", sum := "c1ae574d05d9e6c526e2713c4f957da384e255d537db1e072515786e6b1baa47", func := "trellis/trellislaw.ShiftLines", spec := "shiftLines", inPlace := ["slices.overlaps[[]trellis/api.Cell]", "internal/abi.NoEscape"], unfollowed := true, recurses := true, named := ["trellis/text.spans"], apart := false, laid := [("trellis/text.spans", laid_trellis_text_spans)] }
def ShiftLinesSaid : Prop := shiftLinesRow.holds Tryz.pinned (OpenSpec.ofChange shiftLinesSpec)

/-- ITS FALSE NEIGHBOUR: 'it returns false'. Refute it at one input. -/
def shiftLinesWrong : ChangeSpec := { name := "shiftLines", fn := fun _ => fun
  | [d1, d2] => { results := [.lit (.bool false)], args := [d1, d2] }
  | _ => none }
def ShiftLinesWrongFalsely : Prop := shiftLinesRow.holds Tryz.pinned (OpenSpec.ofChange shiftLinesWrong)

/-- 'trellislaw.ShiftFeed': WHATEVER THE INPUT: true; the input reads as it did. -/
def shiftFeedSpec : ChangeSpec := { name := "shiftFeed", fn := fun _ => fun
  | [d] => { results := [.lit (.bool true)], args := [d] }
  | _ => none }
def shiftFeedRow : OpenClaim := { program := "ytennlgkjckcjoaagreatdoor", sum := "c1ae574d05d9e6c526e2713c4f957da384e255d537db1e072515786e6b1baa47", func := "trellis/trellislaw.ShiftFeed", spec := "shiftFeed", inPlace := ["slices.overlaps[[]trellis/api.Cell]", "internal/abi.NoEscape"], unfollowed := true, recurses := true, named := ["trellis/text.spans"], apart := false, laid := [("trellis/text.spans", laid_trellis_text_spans)] }
def ShiftFeedSaid : Prop := shiftFeedRow.holds Tryz.pinned (OpenSpec.ofChange shiftFeedSpec)

/-- ITS FALSE NEIGHBOUR: 'it returns false'. Refute it at one input. -/
def shiftFeedWrong : ChangeSpec := { name := "shiftFeed", fn := fun _ => fun
  | [d] => { results := [.lit (.bool false)], args := [d] }
  | _ => none }
def ShiftFeedWrongFalsely : Prop := shiftFeedRow.holds Tryz.pinned (OpenSpec.ofChange shiftFeedWrong)

/- THE SECOND FORM. 'bulk': how many values and letters a reading holds, each counted each time it is reached (what is shared counts as often as it is met; a slice's spare places count too). A statement '..UptoSaid' is the law's where the arguments, and the package variables that the reading takes, are together of bulk at most 1048576: NARROWER than '..Said'. Prove '..Said' where nothing that the law and all that it calls make is longer than what came in: it says more and counts as full. Else prove '..UptoSaid'. A law counts once. -/
mutual
def uptoBulk {H : Type} : DataW H → Nat
  | .lit (.string bytes) => bytes.length + 1
  | .lit _ => 1
  | .nil => 1
  | .ptr d => uptoBulk d + 1
  | .slice elems spare => uptoBulkAll elems + uptoBulkAll spare + 1
  | .agg parts => uptoBulkAll parts + 1
  | .iface _ d => uptoBulk d + 1
  | .map entries => uptoBulkEntries entries + 1
  | .held _ => 1
def uptoBulkAll {H : Type} : List (DataW H) → Nat
  | [] => 0
  | d :: r => uptoBulk d + uptoBulkAll r
def uptoBulkEntries {H : Type} : List (Lit × DataW H) → Nat
  | [] => 0
  | x :: r => uptoBulkEntry x + uptoBulkEntries r
def uptoBulkEntry {H : Type} : Lit × DataW H → Nat
  | (.string bytes, d) => bytes.length + uptoBulk d + 1
  | (_, d) => uptoBulk d + 1
 end
def uptoSmall : (H : Type) → List (DataW H) → Bool := fun _ ds => decide (uptoBulkAll ds ≤ 1048576)
def OpenSpec.upto (s : _root_.Go.ChangeSpec) : _root_.Go.OpenSpec := { _root_.Go.OpenSpec.ofChange s with cond := some uptoSmall }

/-- 'trellislaw.MoveTo', WHERE WHAT IT READS IS OF BULK AT MOST 1048576: true; the input reads as it did. -/
def moveToUptoRow : OpenClaim := { program := "ytennlgkjckcjoaagreatdoor", sum := "c1ae574d05d9e6c526e2713c4f957da384e255d537db1e072515786e6b1baa47", func := "trellis/trellislaw.MoveTo", spec := "moveTo", inPlace := ["internal/abi.NoEscape", "slices.overlaps[[]trellis/api.Cell]"], unfollowed := true, recurses := true, named := ["trellis/text.spans"], apart := false, laid := [("trellis/text.spans", laid_trellis_text_spans)], narrowed := true }
def MoveToUptoSaid : Prop := moveToUptoRow.holds Tryz.pinned (OpenSpec.upto moveToSpec)

/-- 'trellislaw.WipeLine', WHERE WHAT IT READS IS OF BULK AT MOST 1048576: true; the input reads as it did. -/
def wipeLineUptoRow : OpenClaim := { program := "ytennlgkjckcjoaagreatdoor", sum := "c1ae574d05d9e6c526e2713c4f957da384e255d537db1e072515786e6b1baa47", func := "trellis/trellislaw.WipeLine", spec := "wipeLine", inPlace := ["slices.overlaps[[]trellis/api.Cell]", "internal/abi.NoEscape"], unfollowed := true, recurses := true, named := ["trellis/text.spans"], apart := false, laid := [("trellis/text.spans", laid_trellis_text_spans)], narrowed := true }
def WipeLineUptoSaid : Prop := wipeLineUptoRow.holds Tryz.pinned (OpenSpec.upto wipeLineSpec)

/-- 'trellislaw.ShiftCells', WHERE WHAT IT READS IS OF BULK AT MOST 1048576: true; the input reads as it did. -/
def shiftCellsUptoRow : OpenClaim := { program := "ytennlgkjckcjoaagreatdoor", sum := "c1ae574d05d9e6c526e2713c4f957da384e255d537db1e072515786e6b1baa47", func := "trellis/trellislaw.ShiftCells", spec := "shiftCells", inPlace := ["slices.overlaps[[]trellis/api.Cell]", "internal/abi.NoEscape"], unfollowed := true, recurses := true, named := ["trellis/text.spans"], apart := false, laid := [("trellis/text.spans", laid_trellis_text_spans)], narrowed := true }
def ShiftCellsUptoSaid : Prop := shiftCellsUptoRow.holds Tryz.pinned (OpenSpec.upto shiftCellsSpec)

/-- 'trellislaw.ShiftLines', WHERE WHAT IT READS IS OF BULK AT MOST 1048576: true; the input reads as it did. -/
def shiftLinesUptoRow : OpenClaim := { program := "ytennlgkjckcjoaagreatdoor", sum := "c1ae574d05d9e6c526e2713c4f957da384e255d537db1e072515786e6b1baa47", func := "trellis/trellislaw.ShiftLines", spec := "shiftLines", inPlace := ["slices.overlaps[[]trellis/api.Cell]", "internal/abi.NoEscape"], unfollowed := true, recurses := true, named := ["trellis/text.spans"], apart := false, laid := [("trellis/text.spans", laid_trellis_text_spans)], narrowed := true }
def ShiftLinesUptoSaid : Prop := shiftLinesUptoRow.holds Tryz.pinned (OpenSpec.upto shiftLinesSpec)

/-- 'trellislaw.ShiftFeed', WHERE WHAT IT READS IS OF BULK AT MOST 1048576: true; the input reads as it did. -/
def shiftFeedUptoRow : OpenClaim := { program := "ytennlgkjckcjoaagreatdoor", sum := "c1ae574d05d9e6c526e2713c4f957da384e255d537db1e072515786e6b1baa47", func := "trellis/trellislaw.ShiftFeed", spec := "shiftFeed", inPlace := ["slices.overlaps[[]trellis/api.Cell]", "internal/abi.NoEscape"], unfollowed := true, recurses := true, named := ["trellis/text.spans"], apart := false, laid := [("trellis/text.spans", laid_trellis_text_spans)], narrowed := true }
def ShiftFeedUptoSaid : Prop := shiftFeedUptoRow.holds Tryz.pinned (OpenSpec.upto shiftFeedSpec)

end Rows
end Go.Proofs.YtennlgkjckcjoaaGreatDoor
