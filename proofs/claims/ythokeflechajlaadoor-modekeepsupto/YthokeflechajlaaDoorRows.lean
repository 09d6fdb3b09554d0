/-
  NARROWER THAN 'FOR EVERY INPUT', by the rows' own cells (each row's printed sentence says how): ShiftHolds: laid · ShiftGone: laid · ModeKeeps: laid.
  DERIVED. THE GIVEN ROWS OF THIS SEAT. 3 by the template 'for every input the law returns true; each argument reads behind the call as it read before'; 0 by the template 'total and deterministic' (their statements: YthokeflechajlaaDoorTotals.lean).
  GIVEN WITH THE SEED: the statements are not yours to turn. If you find one false, say at which input.
  Laid BY PROGRAM, IN A SANDBOX (cutbox-rows.mjs): the forced cells as the released guide's own fill.sh prints them over the translation c6802d3b02762ef7… (all of the seat's roots in one cut). By AI agents, Wed Nov 11 2026. No macro, syntax, notation, axiom, sorry.
-/
import Derived.Test.YthokeflechajlaaDoorChecked
import GoSem.Claim
import GoSem.ClaimJoined
import GoSem.ClaimMapViews
import Derived.JoinedTies
import Derived.KernelRfl
namespace Go.Proofs.YthokeflechajlaaDoor
/- THE CELL 'sum', in the pinned program and in every row, IS THE sha256 OF THE DUMP (.gsa) THAT YthokeflechajlaaDoorProg.lean LOADS. Nothing in Lean hashes anything: it is a label: what it is worth is what the hold of that sum in a sandbox is worth. -/
noncomputable def Tryd.pinned : Pinned := { name := "ythokeflechajlaadoor", sum := "c6802d3b02762ef7417f56a30c4f052f71338db147badb6cdd6d1cfea19cafcc", checked := Tryd.checked }
namespace Rows
def none {H : Type} : Left H := { results := [], args := [] }

/- WHAT THE LISTED PACKAGE-LEVEL VARIABLES READ AS WHEN THE CALL BEGINS. Each datum BY PROGRAM (the guide's laid-datum.mjs) off the statement by which the dump's own 'gosem.cut.vars' lays the variable. In a bare row this is a premise. The card (YthokeflechajlaaDoorCards.lean) ties it to the program's text. -/
def laid_trellis_text_spans {H : Type} : DataW H := .agg [.agg [.lit (.int .i32 0), .lit (.int .i32 31), .lit (.int .i64 0)], .agg [.lit (.int .i32 127), .lit (.int .i32 159), .lit (.int .i64 0)], .agg [.lit (.int .i32 768), .lit (.int .i32 879), .lit (.int .i64 0)], .agg [.lit (.int .i32 4352), .lit (.int .i32 4447), .lit (.int .i64 2)], .agg [.lit (.int .i32 8203), .lit (.int .i32 8207), .lit (.int .i64 0)], .agg [.lit (.int .i32 8232), .lit (.int .i32 8238), .lit (.int .i64 0)], .agg [.lit (.int .i32 8400), .lit (.int .i32 8447), .lit (.int .i64 0)], .agg [.lit (.int .i32 11904), .lit (.int .i32 12350), .lit (.int .i64 2)], .agg [.lit (.int .i32 12353), .lit (.int .i32 19903), .lit (.int .i64 2)], .agg [.lit (.int .i32 19968), .lit (.int .i32 42191), .lit (.int .i64 2)], .agg [.lit (.int .i32 44032), .lit (.int .i32 55203), .lit (.int .i64 2)], .agg [.lit (.int .i32 55296), .lit (.int .i32 57343), .lit (.int .i64 0)], .agg [.lit (.int .i32 63744), .lit (.int .i32 64255), .lit (.int .i64 2)], .agg [.lit (.int .i32 65024), .lit (.int .i32 65039), .lit (.int .i64 0)], .agg [.lit (.int .i32 65072), .lit (.int .i32 65135), .lit (.int .i64 2)], .agg [.lit (.int .i32 65279), .lit (.int .i32 65279), .lit (.int .i64 0)], .agg [.lit (.int .i32 65280), .lit (.int .i32 65376), .lit (.int .i64 2)], .agg [.lit (.int .i32 65504), .lit (.int .i32 65510), .lit (.int .i64 2)], .agg [.lit (.int .i32 127744), .lit (.int .i32 128591), .lit (.int .i64 2)], .agg [.lit (.int .i32 129280), .lit (.int .i32 129535), .lit (.int .i64 2)], .agg [.lit (.int .i32 131072), .lit (.int .i32 262141), .lit (.int .i64 2)]]
def laid_trellis_style_looks {H : Type} : DataW H := .agg [.agg [.lit (.int .i64 1), .lit (.int .i64 22), .lit (.int .i64 1)], .agg [.lit (.int .i64 2), .lit (.int .i64 22), .lit (.int .i64 2)], .agg [.lit (.int .i64 3), .lit (.int .i64 23), .lit (.int .i64 4)], .agg [.lit (.int .i64 4), .lit (.int .i64 24), .lit (.int .i64 8)], .agg [.lit (.int .i64 5), .lit (.int .i64 25), .lit (.int .i64 16)], .agg [.lit (.int .i64 7), .lit (.int .i64 27), .lit (.int .i64 32)], .agg [.lit (.int .i64 9), .lit (.int .i64 29), .lit (.int .i64 64)]]

/-- 'trellislaw.ShiftHolds': WHATEVER THE INPUT: true; the input reads as it did. -/
def shiftHoldsSpec : ChangeSpec := { name := "shiftHolds", fn := fun _ => fun
  | [d1, d2] => { results := [.lit (.bool true)], args := [d1, d2] }
  | _ => none }
def shiftHoldsRow : OpenClaim := { program := "ythokeflechajlaadoor", sum := "c6802d3b02762ef7417f56a30c4f052f71338db147badb6cdd6d1cfea19cafcc", func := "trellis/trellislaw.ShiftHolds", spec := "shiftHolds", inPlace := ["internal/abi.NoEscape", "slices.overlaps[[]trellis/api.Cell]"], unfollowed := true, recurses := true, named := ["trellis/text.spans"], apart := false, laid := [("trellis/text.spans", laid_trellis_text_spans)] }
def ShiftHoldsSaid : Prop := shiftHoldsRow.holds Tryd.pinned (OpenSpec.ofChange shiftHoldsSpec)

/-- ITS FALSE NEIGHBOUR: 'it returns false'. Refute it at one input. -/
def shiftHoldsWrong : ChangeSpec := { name := "shiftHolds", fn := fun _ => fun
  | [d1, d2] => { results := [.lit (.bool false)], args := [d1, d2] }
  | _ => none }
def ShiftHoldsWrongFalsely : Prop := shiftHoldsRow.holds Tryd.pinned (OpenSpec.ofChange shiftHoldsWrong)

/-- 'trellislaw.ShiftGone': WHATEVER THE INPUT: true; the input reads as it did. -/
def shiftGoneSpec : ChangeSpec := { name := "shiftGone", fn := fun _ => fun
  | [d1, d2] => { results := [.lit (.bool true)], args := [d1, d2] }
  | _ => none }
def shiftGoneRow : OpenClaim := { program := "ythokeflechajlaadoor", sum := "c6802d3b02762ef7417f56a30c4f052f71338db147badb6cdd6d1cfea19cafcc", func := "trellis/trellislaw.ShiftGone", spec := "shiftGone", inPlace := ["internal/abi.NoEscape", "slices.overlaps[[]trellis/api.Cell]"], unfollowed := true, recurses := true, named := ["trellis/text.spans"], apart := false, laid := [("trellis/text.spans", laid_trellis_text_spans)] }
def ShiftGoneSaid : Prop := shiftGoneRow.holds Tryd.pinned (OpenSpec.ofChange shiftGoneSpec)

/-- ITS FALSE NEIGHBOUR: 'it returns false'. Refute it at one input. -/
def shiftGoneWrong : ChangeSpec := { name := "shiftGone", fn := fun _ => fun
  | [d1, d2] => { results := [.lit (.bool false)], args := [d1, d2] }
  | _ => none }
def ShiftGoneWrongFalsely : Prop := shiftGoneRow.holds Tryd.pinned (OpenSpec.ofChange shiftGoneWrong)

/-- 'trellislaw.ModeKeeps': WHATEVER THE INPUT: true; the input reads as it did. -/
def modeKeepsSpec : ChangeSpec := { name := "modeKeeps", fn := fun _ => fun
  | [d1, d2, d3, d4, d5] => { results := [.lit (.bool true)], args := [d1, d2, d3, d4, d5] }
  | _ => none }
def modeKeepsRow : OpenClaim := { program := "ythokeflechajlaadoor", sum := "c6802d3b02762ef7417f56a30c4f052f71338db147badb6cdd6d1cfea19cafcc", func := "trellis/trellislaw.ModeKeeps", spec := "modeKeeps", inPlace := ["internal/abi.NoEscape", "slices.overlaps[[]trellis/api.Cell]"], unfollowed := true, recurses := true, named := ["trellis/text.spans", "trellis/style.looks"], apart := false, laid := [("trellis/style.looks", laid_trellis_style_looks), ("trellis/text.spans", laid_trellis_text_spans)] }
def ModeKeepsSaid : Prop := modeKeepsRow.holds Tryd.pinned (OpenSpec.ofChange modeKeepsSpec)

/-- ITS FALSE NEIGHBOUR: 'it returns false'. Refute it at one input. -/
def modeKeepsWrong : ChangeSpec := { name := "modeKeeps", fn := fun _ => fun
  | [d1, d2, d3, d4, d5] => { results := [.lit (.bool false)], args := [d1, d2, d3, d4, d5] }
  | _ => none }
def ModeKeepsWrongFalsely : Prop := modeKeepsRow.holds Tryd.pinned (OpenSpec.ofChange modeKeepsWrong)

/- THE SECOND FORM. 'bulk': how many values and letters a reading holds, each counted each time it is reached (what is shared counts as often as it is met; a slice's spare places count too). A statement '..UptoSaid' is the law's where the arguments, and the package variables that the reading takes, are together of bulk at most 1048576: NARROWER than '..Said'. Prove '..Said' where nothing that the law and all that it calls make is longer than what came in: it says more and counts as full. Else prove '..UptoSaid'. A law counts once. -/
mutual
def uptoBulk {H : Type} : DataW H → Nat
  | .lit (.string bytes) => bytes.length + 1
  | .lit _ => 1
  | .nil => 1
  | .ptr d => uptoBulk d + 1
  | .slice elems spare => uptoBulkAll elems + uptoBulkAll spare + 1
  | .agg parts => uptoBulkAll parts + 1
  | .iface _ d => uptoBulk d + 1
  | .map entries => uptoBulkEntries entries + 1
  | .held _ => 1
def uptoBulkAll {H : Type} : List (DataW H) → Nat
  | [] => 0
  | d :: r => uptoBulk d + uptoBulkAll r
def uptoBulkEntries {H : Type} : List (Lit × DataW H) → Nat
  | [] => 0
  | x :: r => uptoBulkEntry x + uptoBulkEntries r
def uptoBulkEntry {H : Type} : Lit × DataW H → Nat
  | (.string bytes, d) => bytes.length + uptoBulk d + 1
  | (_, d) => uptoBulk d + 1
 end
def uptoSmall : (H : Type) → List (DataW H) → Bool := fun _ ds => decide (uptoBulkAll ds ≤ 1048576)
def OpenSpec.upto (s : _root_.Go.ChangeSpec) : _root_.Go.OpenSpec := { _root_.Go.OpenSpec.ofChange s with cond := some uptoSmall }

/-- 'trellislaw.ShiftHolds', WHERE WHAT IT READS IS OF BULK AT MOST 1048576: true; the input reads as it did. -/
def shiftHoldsUptoRow : OpenClaim := { program := "ythokeflechajlaadoor", sum := "c6802d3b02762ef7417f56a30c4f052f71338db147badb6cdd6d1cfea19cafcc", func := "trellis/trellislaw.ShiftHolds", spec := "shiftHolds", inPlace := ["internal/abi.NoEscape", "slices.overlaps[[]trellis/api.Cell]"], unfollowed := true, recurses := true, named := ["trellis/text.spans"], apart := false, laid := [("trellis/text.spans", laid_trellis_text_spans)], narrowed := true }
def ShiftHoldsUptoSaid : Prop := shiftHoldsUptoRow.holds Tryd.pinned (OpenSpec.upto shiftHoldsSpec)

/-- 'trellislaw.ShiftGone', WHERE WHAT IT READS IS OF BULK AT MOST 1048576: true; the input reads as it did. -/
def shiftGoneUptoRow : OpenClaim := { program := "ythokeflechajlaadoor", sum := "c6802d3b02762ef7417f56a30c4f052f71338db147badb6cdd6d1cfea19cafcc", func := "trellis/trellislaw.ShiftGone", spec := "shiftGone", inPlace := ["internal/abi.NoEscape", "slices.overlaps[[]trellis/api.Cell]"], unfollowed := true, recurses := true, named := ["trellis/text.spans"], apart := false, laid := [("trellis/text.spans", laid_trellis_text_spans)], narrowed := true }
def ShiftGoneUptoSaid : Prop := shiftGoneUptoRow.holds Tryd.pinned (OpenSpec.upto shiftGoneSpec)

/-- 'trellislaw.ModeKeeps', WHERE WHAT IT READS IS OF BULK AT MOST 1048576: true; the input reads as it did. -/
def modeKeepsUptoRow : OpenClaim := { program := "ythokeflechajlaadoor", sum := "c6802d3b02762ef7417f56a30c4f052f71338db147badb6cdd6d1cfea19cafcc", func := "trellis/trellislaw.ModeKeeps", spec := "modeKeeps", inPlace := ["internal/abi.NoEscape", "slices.overlaps[[]trellis/api.Cell]"], unfollowed := true, recurses := true, named := ["trellis/text.spans", "trellis/style.looks"], apart := false, laid := [("trellis/style.looks", laid_trellis_style_looks), ("trellis/text.spans", laid_trellis_text_spans)], narrowed := true }
def ModeKeepsUptoSaid : Prop := modeKeepsUptoRow.holds Tryd.pinned (OpenSpec.upto modeKeepsSpec)

end Rows
end Go.Proofs.YthokeflechajlaaDoor
