/-
  NARROWER THAN 'FOR EVERY INPUT', by the rows' own cells (each row's printed sentence says how): PutAgain: laid · MoveTabs: laid · WipeLine: laid · ModeSet: laid · ModeLook: laid.
  DERIVED. THE GIVEN ROWS OF THIS SEAT. 5 by the template 'for every input the law returns true; each argument reads behind the call as it read before'; 0 by the template 'total and deterministic' (their statements: YtnkeahfcpbepjaaGreatDoorTotals.lean).
  GIVEN WITH THE SEED: the statements are not yours to turn. If you find one false, say at which input.
  Laid BY PROGRAM, IN A SANDBOX (cutbox-rows.mjs): the forced cells as the released guide's own fill.sh prints them over the translation 0ede2637ed0ab3b8… (all of the seat's roots in one cut). By AI agents, Wed Nov 11 2026. No macro, syntax, notation, axiom, sorry.
-/
import Derived.Test.YtnkeahfcpbepjaaGreatDoorChecked
import GoSem.Claim
import GoSem.ClaimJoined
import GoSem.ClaimMapViews
import Derived.JoinedTies
import Derived.KernelRfl
namespace Go.Proofs.YtnkeahfcpbepjaaGreatDoor
/- THE CELL 'sum', in the pinned program and in every row, IS THE sha256 OF THE DUMP (.gsa) THAT YtnkeahfcpbepjaaGreatDoorProg.lean LOADS. Nothing in Lean hashes anything: it is a label: what it is worth is what the hold of that sum in a sandbox is worth. -/
noncomputable def Tryz.pinned : Pinned := { name := "ytnkeahfcpbepjaagreatdoor", sum := "0ede2637ed0ab3b899a3f84c97af948740687a778671bf4b5f2b3a82827429cf", checked := Tryz.checked }
namespace Rows
def none {H : Type} : Left H := { results := [], args := [] }

/- WHAT THE LISTED PACKAGE-LEVEL VARIABLES READ AS WHEN THE CALL BEGINS. Each datum BY PROGRAM (the guide's laid-datum.mjs) off the statement by which the dump's own 'gosem.cut.vars' lays the variable. In a bare row this is a premise. The card (YtnkeahfcpbepjaaGreatDoorCards.lean) ties it to the program's text. -/
def laid_trellis_text_spans {H : Type} : DataW H := .agg [.agg [.lit (.int .i32 0), .lit (.int .i32 31), .lit (.int .i64 0)], .agg [.lit (.int .i32 127), .lit (.int .i32 159), .lit (.int .i64 0)], .agg [.lit (.int .i32 768), .lit (.int .i32 879), .lit (.int .i64 0)], .agg [.lit (.int .i32 4352), .lit (.int .i32 4447), .lit (.int .i64 2)], .agg [.lit (.int .i32 8203), .lit (.int .i32 8207), .lit (.int .i64 0)], .agg [.lit (.int .i32 8232), .lit (.int .i32 8238), .lit (.int .i64 0)], .agg [.lit (.int .i32 8400), .lit (.int .i32 8447), .lit (.int .i64 0)], .agg [.lit (.int .i32 11904), .lit (.int .i32 12350), .lit (.int .i64 2)], .agg [.lit (.int .i32 12353), .lit (.int .i32 19903), .lit (.int .i64 2)], .agg [.lit (.int .i32 19968), .lit (.int .i32 42191), .lit (.int .i64 2)], .agg [.lit (.int .i32 44032), .lit (.int .i32 55203), .lit (.int .i64 2)], .agg [.lit (.int .i32 55296), .lit (.int .i32 57343), .lit (.int .i64 0)], .agg [.lit (.int .i32 63744), .lit (.int .i32 64255), .lit (.int .i64 2)], .agg [.lit (.int .i32 65024), .lit (.int .i32 65039), .lit (.int .i64 0)], .agg [.lit (.int .i32 65072), .lit (.int .i32 65135), .lit (.int .i64 2)], .agg [.lit (.int .i32 65279), .lit (.int .i32 65279), .lit (.int .i64 0)], .agg [.lit (.int .i32 65280), .lit (.int .i32 65376), .lit (.int .i64 2)], .agg [.lit (.int .i32 65504), .lit (.int .i32 65510), .lit (.int .i64 2)], .agg [.lit (.int .i32 127744), .lit (.int .i32 128591), .lit (.int .i64 2)], .agg [.lit (.int .i32 129280), .lit (.int .i32 129535), .lit (.int .i64 2)], .agg [.lit (.int .i32 131072), .lit (.int .i32 262141), .lit (.int .i64 2)]]
def laid_trellis_style_looks {H : Type} : DataW H := .agg [.agg [.lit (.int .i64 1), .lit (.int .i64 22), .lit (.int .i64 1)], .agg [.lit (.int .i64 2), .lit (.int .i64 22), .lit (.int .i64 2)], .agg [.lit (.int .i64 3), .lit (.int .i64 23), .lit (.int .i64 4)], .agg [.lit (.int .i64 4), .lit (.int .i64 24), .lit (.int .i64 8)], .agg [.lit (.int .i64 5), .lit (.int .i64 25), .lit (.int .i64 16)], .agg [.lit (.int .i64 7), .lit (.int .i64 27), .lit (.int .i64 32)], .agg [.lit (.int .i64 9), .lit (.int .i64 29), .lit (.int .i64 64)]]

/-- 'trellislaw.PutAgain': WHATEVER THE INPUT: true; the input reads as it did. -/
def putAgainSpec : ChangeSpec := { name := "putAgain", fn := fun _ => fun
  | [d1, d2] => { results := [.lit (.bool true)], args := [d1, d2] }
  | _ => none }
def putAgainRow : OpenClaim := { program := "ytnkeahfcpbepjaagreatdoor", sum := "0ede2637ed0ab3b899a3f84c97af948740687a778671bf4b5f2b3a82827429cf", func := "trellis/trellislaw.PutAgain", spec := "putAgain", inPlace := ["slices.overlaps[[]trellis/api.Cell]", "internal/abi.NoEscape"], unfollowed := true, recurses := true, named := ["trellis/text.spans"], apart := false, laid := [("trellis/text.spans", laid_trellis_text_spans)] }
def PutAgainSaid : Prop := putAgainRow.holds Tryz.pinned (OpenSpec.ofChange putAgainSpec)

/-- ITS FALSE NEIGHBOUR: 'it returns false'. Refute it at one input. -/
def putAgainWrong : ChangeSpec := { name := "putAgain", fn := fun _ => fun
  | [d1, d2] => { results := [.lit (.bool false)], args := [d1, d2] }
  | _ => none }
def PutAgainWrongFalsely : Prop := putAgainRow.holds Tryz.pinned (OpenSpec.ofChange putAgainWrong)

/-- 'trellislaw.MoveTabs': WHATEVER THE INPUT: true; the input reads as it did. -/
def moveTabsSpec : ChangeSpec := { name := "moveTabs", fn := fun _ => fun
  | [d1, d2] => { results := [.lit (.bool true)], args := [d1, d2] }
  | _ => none }
def moveTabsRow : OpenClaim := { program := "ytnkeahfcpbepjaagreatdoor", sum := "0ede2637ed0ab3b899a3f84c97af948740687a778671bf4b5f2b3a82827429cf", func := "trellis/trellislaw.MoveTabs", spec := "moveTabs", inPlace := ["slices.overlaps[[]trellis/api.Cell]", "internal/abi.NoEscape"], unfollowed := true, recurses := true, named := ["trellis/text.spans"], apart := false, laid := [("trellis/text.spans", laid_trellis_text_spans)] }
def MoveTabsSaid : Prop := moveTabsRow.holds Tryz.pinned (OpenSpec.ofChange moveTabsSpec)

/-- ITS FALSE NEIGHBOUR: 'it returns false'. Refute it at one input. -/
def moveTabsWrong : ChangeSpec := { name := "moveTabs", fn := fun _ => fun
  | [d1, d2] => { results := [.lit (.bool false)], args := [d1, d2] }
  | _ => none }
def MoveTabsWrongFalsely : Prop := moveTabsRow.holds Tryz.pinned (OpenSpec.ofChange moveTabsWrong)

/-- 'trellislaw.WipeLine': WHATEVER THE INPUT: true; the input reads as it did. -/
def wipeLineSpec : ChangeSpec := { name := "wipeLine", fn := fun _ => fun
  | [d1, d2, d3] => { results := [.lit (.bool true)], args := [d1, d2, d3] }
  | _ => none }
def wipeLineRow : OpenClaim := { program := "ytnkeahfcpbepjaagreatdoor", sum := "0ede2637ed0ab3b899a3f84c97af948740687a778671bf4b5f2b3a82827429cf", func := "trellis/trellislaw.WipeLine", spec := "wipeLine", inPlace := ["slices.overlaps[[]trellis/api.Cell]", "internal/abi.NoEscape"], unfollowed := true, recurses := true, named := ["trellis/text.spans"], apart := false, laid := [("trellis/text.spans", laid_trellis_text_spans)] }
def WipeLineSaid : Prop := wipeLineRow.holds Tryz.pinned (OpenSpec.ofChange wipeLineSpec)

/-- ITS FALSE NEIGHBOUR: 'it returns false'. Refute it at one input. -/
def wipeLineWrong : ChangeSpec := { name := "wipeLine", fn := fun _ => fun
  | [d1, d2, d3] => { results := [.lit (.bool false)], args := [d1, d2, d3] }
  | _ => none }
def WipeLineWrongFalsely : Prop := wipeLineRow.holds Tryz.pinned (OpenSpec.ofChange wipeLineWrong)

/-- 'trellislaw.ModeSet': WHATEVER THE INPUT: true; the input reads as it did. -/
def modeSetSpec : ChangeSpec := { name := "modeSet", fn := fun _ => fun
  | [d1, d2, d3] => { results := [.lit (.bool true)], args := [d1, d2, d3] }
  | _ => none }
def modeSetRow : OpenClaim := { program := "ytnkeahfcpbepjaagreatdoor", sum := "0ede2637ed0ab3b899a3f84c97af948740687a778671bf4b5f2b3a82827429cf", func := "trellis/trellislaw.ModeSet", spec := "modeSet", inPlace := ["internal/abi.NoEscape", "slices.overlaps[[]trellis/api.Cell]"], unfollowed := true, recurses := true, named := ["trellis/text.spans"], apart := false, laid := [("trellis/text.spans", laid_trellis_text_spans)] }
def ModeSetSaid : Prop := modeSetRow.holds Tryz.pinned (OpenSpec.ofChange modeSetSpec)

/-- ITS FALSE NEIGHBOUR: 'it returns false'. Refute it at one input. -/
def modeSetWrong : ChangeSpec := { name := "modeSet", fn := fun _ => fun
  | [d1, d2, d3] => { results := [.lit (.bool false)], args := [d1, d2, d3] }
  | _ => none }
def ModeSetWrongFalsely : Prop := modeSetRow.holds Tryz.pinned (OpenSpec.ofChange modeSetWrong)

/-- 'trellislaw.ModeLook': WHATEVER THE INPUT: true; the input reads as it did. -/
def modeLookSpec : ChangeSpec := { name := "modeLook", fn := fun _ => fun
  | [d1, d2, d3] => { results := [.lit (.bool true)], args := [d1, d2, d3] }
  | _ => none }
def modeLookRow : OpenClaim := { program := "ytnkeahfcpbepjaagreatdoor", sum := "0ede2637ed0ab3b899a3f84c97af948740687a778671bf4b5f2b3a82827429cf", func := "trellis/trellislaw.ModeLook", spec := "modeLook", inPlace := ["internal/abi.NoEscape", "slices.overlaps[[]trellis/api.Cell]"], unfollowed := true, recurses := true, named := ["trellis/style.looks", "trellis/text.spans"], apart := false, laid := [("trellis/style.looks", laid_trellis_style_looks), ("trellis/text.spans", laid_trellis_text_spans)] }
def ModeLookSaid : Prop := modeLookRow.holds Tryz.pinned (OpenSpec.ofChange modeLookSpec)

/-- ITS FALSE NEIGHBOUR: 'it returns false'. Refute it at one input. -/
def modeLookWrong : ChangeSpec := { name := "modeLook", fn := fun _ => fun
  | [d1, d2, d3] => { results := [.lit (.bool false)], args := [d1, d2, d3] }
  | _ => none }
def ModeLookWrongFalsely : Prop := modeLookRow.holds Tryz.pinned (OpenSpec.ofChange modeLookWrong)

/- THE SECOND FORM. 'bulk': how many values and letters a reading holds, each counted each time it is reached (what is shared counts as often as it is met; a slice's spare places count too). A statement '..UptoSaid' is the law's where the arguments, and the package variables that the reading takes, are together of bulk at most 1048576: NARROWER than '..Said'. Prove '..Said' where nothing that the law and all that it calls make is longer than what came in: it says more and counts as full. Else prove '..UptoSaid'. A law counts once. -/
mutual
def uptoBulk {H : Type} : DataW H → Nat
  | .lit (.string bytes) => bytes.length + 1
  | .lit _ => 1
  | .nil => 1
  | .ptr d => uptoBulk d + 1
  | .slice elems spare => uptoBulkAll elems + uptoBulkAll spare + 1
  | .agg parts => uptoBulkAll parts + 1
  | .iface _ d => uptoBulk d + 1
  | .map entries => uptoBulkEntries entries + 1
  | .held _ => 1
def uptoBulkAll {H : Type} : List (DataW H) → Nat
  | [] => 0
  | d :: r => uptoBulk d + uptoBulkAll r
def uptoBulkEntries {H : Type} : List (Lit × DataW H) → Nat
  | [] => 0
  | x :: r => uptoBulkEntry x + uptoBulkEntries r
def uptoBulkEntry {H : Type} : Lit × DataW H → Nat
  | (.string bytes, d) => bytes.length + uptoBulk d + 1
  | (_, d) => uptoBulk d + 1
 end
def uptoSmall : (H : Type) → List (DataW H) → Bool := fun _ ds => decide (uptoBulkAll ds ≤ 1048576)
def OpenSpec.upto (s : _root_.Go.ChangeSpec) : _root_.Go.OpenSpec := { _root_.Go.OpenSpec.ofChange s with cond := some uptoSmall }

/-- 'trellislaw.PutAgain', WHERE WHAT IT READS IS OF BULK AT MOST 1048576: true; the input reads as it did. -/
def putAgainUptoRow : OpenClaim := { program := "ytnkeahfcpbepjaagreatdoor", sum := "0ede2637ed0ab3b899a3f84c97af948740687a778671bf4b5f2b3a82827429cf", func := "trellis/trellislaw.PutAgain", spec := "putAgain", inPlace := ["slices.overlaps[[]trellis/api.Cell]", "internal/abi.NoEscape"], unfollowed := true, recurses := true, named := ["trellis/text.spans"], apart := false, laid := [("trellis/text.spans", laid_trellis_text_spans)], narrowed := true }
def PutAgainUptoSaid : Prop := putAgainUptoRow.holds Tryz.pinned (OpenSpec.upto putAgainSpec)

/-- 'trellislaw.MoveTabs', WHERE WHAT IT READS IS OF BULK AT MOST 1048576: true; the input reads as it did. -/
def moveTabsUptoRow : OpenClaim := { program := "ytnkeahfcpbepjaagreatdoor", sum := "0ede2637ed0ab3b899a3f84c97af948740687a778671bf4b5f2b3a82827429cf", func := "trellis/trellislaw.MoveTabs", spec := "moveTabs", inPlace := ["slices.overlaps[[]trellis/api.Cell]", "internal/abi.NoEscape"], unfollowed := true, recurses := true, named := ["trellis/text.spans"], apart := false, laid := [("trellis/text.spans", laid_trellis_text_spans)], narrowed := true }
def MoveTabsUptoSaid : Prop := moveTabsUptoRow.holds Tryz.pinned (OpenSpec.upto moveTabsSpec)

/-- 'trellislaw.WipeLine', WHERE WHAT IT READS IS OF BULK AT MOST 1048576: true; the input reads as it did. -/
def wipeLineUptoRow : OpenClaim := { program := "ytnkeahfcpbepjaagreatdoor", sum := "0ede2637ed0ab3b899a3f84c97af948740687a778671bf4b5f2b3a82827429cf", func := "trellis/trellislaw.WipeLine", spec := "wipeLine", inPlace := ["slices.overlaps[[]trellis/api.Cell]", "internal/abi.NoEscape"], unfollowed := true, recurses := true, named := ["trellis/text.spans"], apart := false, laid := [("trellis/text.spans", laid_trellis_text_spans)], narrowed := true }
def WipeLineUptoSaid : Prop := wipeLineUptoRow.holds Tryz.pinned (OpenSpec.upto wipeLineSpec)

/-- 'trellislaw.ModeSet', WHERE WHAT IT READS IS OF BULK AT MOST 1048576: true; the input reads as it did. -/
def modeSetUptoRow : OpenClaim := { program := "ytnkeahfcpbepjaagreatdoor", sum := "0ede2637ed0ab3b899a3f84c97af948740687a778671bf4b5f2b3a82827429cf", func := "trellis/trellislaw.ModeSet", spec := "modeSet", inPlace := ["internal/abi.NoEscape", "slices.overlaps[[]trellis/api.Cell]"], unfollowed := true, recurses := true, named := ["trellis/text.spans"], apart := false, laid := [("trellis/text.spans", laid_trellis_text_spans)], narrowed := true }
def ModeSetUptoSaid : Prop := modeSetUptoRow.holds Tryz.pinned (OpenSpec.upto modeSetSpec)

/-- 'trellislaw.ModeLook', WHERE WHAT IT READS IS OF BULK AT MOST 1048576: true; the input reads as it did. -/
def modeLookUptoRow : OpenClaim := { program := "ytnkeahfcpbepjaagreatdoor", sum := "0ede2637ed0ab3b899a3f84c97af948740687a778671bf4b5f2b3a82827429cf", func := "trellis/trellislaw.ModeLook", spec := "modeLook", inPlace := ["internal/abi.NoEscape", "slices.overlaps[[]trellis/api.Cell]"], unfollowed := true, recurses := true, named := ["trellis/style.looks", "trellis/text.spans"], apart := false, laid := [("trellis/style.looks", laid_trellis_style_looks), ("trellis/text.spans", laid_trellis_text_spans)], narrowed := true }
def ModeLookUptoSaid : Prop := modeLookUptoRow.holds Tryz.pinned (OpenSpec.upto modeLookSpec)

end Rows
end Go.Proofs.YtnkeahfcpbepjaaGreatDoor
