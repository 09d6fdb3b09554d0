/-
  NARROWER THAN 'FOR EVERY INPUT', by the rows' own cells (each row's printed sentence says how): CopyMove: laid · CopyTake: laid · CopySeek: laid.
  DERIVED. THE GIVEN ROWS OF THIS SEAT. 3 by the template 'for every input the law returns true; each argument reads behind the call as it read before'; 0 by the template 'total and deterministic' (their statements: YtlodmffiengnaaaDoorTotals.lean).
  GIVEN WITH THE SEED: the statements are not yours to turn. If you find one false, say at which input.
  Laid BY PROGRAM, IN A SANDBOX (cutbox-rows.mjs): the forced cells as the released guide's own fill.sh prints them over the translation 1b5ca8395d06b0e6… (all of the seat's roots in one cut). By AI agents, Wed Nov 11 2026. No macro, syntax, notation, axiom, sorry.
-/
import Derived.Test.YtlodmffiengnaaaDoorChecked
import GoSem.Claim
import GoSem.ClaimJoined
import GoSem.ClaimMapViews
import Derived.JoinedTies
import Derived.KernelRfl
namespace Go.Proofs.YtlodmffiengnaaaDoor
/- THE CELL 'sum', in the pinned program and in every row, IS THE sha256 OF THE DUMP (.gsa) THAT YtlodmffiengnaaaDoorProg.lean LOADS. Nothing in Lean hashes anything: it is a label: what it is worth is what the hold of that sum in a sandbox is worth. -/
noncomputable def Tryd.pinned : Pinned := { name := "ytlodmffiengnaaadoor", sum := "1b5ca8395d06b0e615d7cfa88a703df956679bfa130e965bfaa3272fd4fdc9af", checked := Tryd.checked }
namespace Rows
def none {H : Type} : Left H := { results := [], args := [] }

/- WHAT THE LISTED PACKAGE-LEVEL VARIABLES READ AS WHEN THE CALL BEGINS. Each datum BY PROGRAM (the guide's laid-datum.mjs) off the statement by which the dump's own 'gosem.cut.vars' lays the variable. In a bare row this is a premise. The card (YtlodmffiengnaaaDoorCards.lean) ties it to the program's text. -/
def laid_trellis_text_spans {H : Type} : DataW H := .agg [.agg [.lit (.int .i32 0), .lit (.int .i32 31), .lit (.int .i64 0)], .agg [.lit (.int .i32 127), .lit (.int .i32 159), .lit (.int .i64 0)], .agg [.lit (.int .i32 768), .lit (.int .i32 879), .lit (.int .i64 0)], .agg [.lit (.int .i32 4352), .lit (.int .i32 4447), .lit (.int .i64 2)], .agg [.lit (.int .i32 8203), .lit (.int .i32 8207), .lit (.int .i64 0)], .agg [.lit (.int .i32 8232), .lit (.int .i32 8238), .lit (.int .i64 0)], .agg [.lit (.int .i32 8400), .lit (.int .i32 8447), .lit (.int .i64 0)], .agg [.lit (.int .i32 11904), .lit (.int .i32 12350), .lit (.int .i64 2)], .agg [.lit (.int .i32 12353), .lit (.int .i32 19903), .lit (.int .i64 2)], .agg [.lit (.int .i32 19968), .lit (.int .i32 42191), .lit (.int .i64 2)], .agg [.lit (.int .i32 44032), .lit (.int .i32 55203), .lit (.int .i64 2)], .agg [.lit (.int .i32 55296), .lit (.int .i32 57343), .lit (.int .i64 0)], .agg [.lit (.int .i32 63744), .lit (.int .i32 64255), .lit (.int .i64 2)], .agg [.lit (.int .i32 65024), .lit (.int .i32 65039), .lit (.int .i64 0)], .agg [.lit (.int .i32 65072), .lit (.int .i32 65135), .lit (.int .i64 2)], .agg [.lit (.int .i32 65279), .lit (.int .i32 65279), .lit (.int .i64 0)], .agg [.lit (.int .i32 65280), .lit (.int .i32 65376), .lit (.int .i64 2)], .agg [.lit (.int .i32 65504), .lit (.int .i32 65510), .lit (.int .i64 2)], .agg [.lit (.int .i32 127744), .lit (.int .i32 128591), .lit (.int .i64 2)], .agg [.lit (.int .i32 129280), .lit (.int .i32 129535), .lit (.int .i64 2)], .agg [.lit (.int .i32 131072), .lit (.int .i32 262141), .lit (.int .i64 2)]]

/-- 'trellislaw.CopyMove': WHATEVER THE INPUT: true; the input reads as it did. -/
def copyMoveSpec : ChangeSpec := { name := "copyMove", fn := fun _ => fun
  | [d1, d2, d3] => { results := [.lit (.bool true)], args := [d1, d2, d3] }
  | _ => none }
def copyMoveRow : OpenClaim := { program := "ytlodmffiengnaaadoor", sum := "1b5ca8395d06b0e615d7cfa88a703df956679bfa130e965bfaa3272fd4fdc9af", func := "trellis/trellislaw.CopyMove", spec := "copyMove", inPlace := ["internal/abi.NoEscape", "internal/bytealg.IndexByteString", "internal/bytealg.IndexString", "internal/bytealg.MakeNoZero"], unfollowed := true, recurses := true, named := ["trellis/text.spans", "internal/bytealg.MaxLen"], apart := false, laid := [("trellis/text.spans", laid_trellis_text_spans)] }
def CopyMoveSaid : Prop := copyMoveRow.holds Tryd.pinned (OpenSpec.ofChange copyMoveSpec)

/-- ITS FALSE NEIGHBOUR: 'it returns false'. Refute it at one input. -/
def copyMoveWrong : ChangeSpec := { name := "copyMove", fn := fun _ => fun
  | [d1, d2, d3] => { results := [.lit (.bool false)], args := [d1, d2, d3] }
  | _ => none }
def CopyMoveWrongFalsely : Prop := copyMoveRow.holds Tryd.pinned (OpenSpec.ofChange copyMoveWrong)

/-- 'trellislaw.CopyTake': WHATEVER THE INPUT: true; the input reads as it did. -/
def copyTakeSpec : ChangeSpec := { name := "copyTake", fn := fun _ => fun
  | [d1, d2, d3] => { results := [.lit (.bool true)], args := [d1, d2, d3] }
  | _ => none }
def copyTakeRow : OpenClaim := { program := "ytlodmffiengnaaadoor", sum := "1b5ca8395d06b0e615d7cfa88a703df956679bfa130e965bfaa3272fd4fdc9af", func := "trellis/trellislaw.CopyTake", spec := "copyTake", inPlace := ["internal/abi.NoEscape", "internal/bytealg.MakeNoZero", "internal/bytealg.IndexByteString", "internal/bytealg.IndexString"], unfollowed := true, recurses := true, named := ["trellis/text.spans", "internal/bytealg.MaxLen"], apart := false, laid := [("trellis/text.spans", laid_trellis_text_spans)] }
def CopyTakeSaid : Prop := copyTakeRow.holds Tryd.pinned (OpenSpec.ofChange copyTakeSpec)

/-- ITS FALSE NEIGHBOUR: 'it returns false'. Refute it at one input. -/
def copyTakeWrong : ChangeSpec := { name := "copyTake", fn := fun _ => fun
  | [d1, d2, d3] => { results := [.lit (.bool false)], args := [d1, d2, d3] }
  | _ => none }
def CopyTakeWrongFalsely : Prop := copyTakeRow.holds Tryd.pinned (OpenSpec.ofChange copyTakeWrong)

/-- 'trellislaw.CopySeek': WHATEVER THE INPUT: true; the input reads as it did. -/
def copySeekSpec : ChangeSpec := { name := "copySeek", fn := fun _ => fun
  | [d1, d2, d3] => { results := [.lit (.bool true)], args := [d1, d2, d3] }
  | _ => none }
def copySeekRow : OpenClaim := { program := "ytlodmffiengnaaadoor", sum := "1b5ca8395d06b0e615d7cfa88a703df956679bfa130e965bfaa3272fd4fdc9af", func := "trellis/trellislaw.CopySeek", spec := "copySeek", inPlace := ["internal/abi.NoEscape", "internal/bytealg.IndexByteString", "internal/bytealg.IndexString", "internal/bytealg.MakeNoZero"], unfollowed := true, recurses := true, named := ["trellis/text.spans", "internal/bytealg.MaxLen"], apart := false, laid := [("trellis/text.spans", laid_trellis_text_spans)] }
def CopySeekSaid : Prop := copySeekRow.holds Tryd.pinned (OpenSpec.ofChange copySeekSpec)

/-- ITS FALSE NEIGHBOUR: 'it returns false'. Refute it at one input. -/
def copySeekWrong : ChangeSpec := { name := "copySeek", fn := fun _ => fun
  | [d1, d2, d3] => { results := [.lit (.bool false)], args := [d1, d2, d3] }
  | _ => none }
def CopySeekWrongFalsely : Prop := copySeekRow.holds Tryd.pinned (OpenSpec.ofChange copySeekWrong)

/- THE SECOND FORM. 'bulk': how many values and letters a reading holds, each counted each time it is reached (what is shared counts as often as it is met; a slice's spare places count too). A statement '..UptoSaid' is the law's where the arguments, and the package variables that the reading takes, are together of bulk at most 1048576: NARROWER than '..Said'. Prove '..Said' where nothing that the law and all that it calls make is longer than what came in: it says more and counts as full. Else prove '..UptoSaid'. A law counts once. -/
mutual
def uptoBulk {H : Type} : DataW H → Nat
  | .lit (.string bytes) => bytes.length + 1
  | .lit _ => 1
  | .nil => 1
  | .ptr d => uptoBulk d + 1
  | .slice elems spare => uptoBulkAll elems + uptoBulkAll spare + 1
  | .agg parts => uptoBulkAll parts + 1
  | .iface _ d => uptoBulk d + 1
  | .map entries => uptoBulkEntries entries + 1
  | .held _ => 1
def uptoBulkAll {H : Type} : List (DataW H) → Nat
  | [] => 0
  | d :: r => uptoBulk d + uptoBulkAll r
def uptoBulkEntries {H : Type} : List (Lit × DataW H) → Nat
  | [] => 0
  | x :: r => uptoBulkEntry x + uptoBulkEntries r
def uptoBulkEntry {H : Type} : Lit × DataW H → Nat
  | (.string bytes, d) => bytes.length + uptoBulk d + 1
  | (_, d) => uptoBulk d + 1
 end
def uptoSmall : (H : Type) → List (DataW H) → Bool := fun _ ds => decide (uptoBulkAll ds ≤ 1048576)
def OpenSpec.upto (s : _root_.Go.ChangeSpec) : _root_.Go.OpenSpec := { _root_.Go.OpenSpec.ofChange s with cond := some uptoSmall }

/-- 'trellislaw.CopyMove', WHERE WHAT IT READS IS OF BULK AT MOST 1048576: true; the input reads as it did. -/
def copyMoveUptoRow : OpenClaim := { program := "ytlodmffiengnaaadoor", sum := "1b5ca8395d06b0e615d7cfa88a703df956679bfa130e965bfaa3272fd4fdc9af", func := "trellis/trellislaw.CopyMove", spec := "copyMove", inPlace := ["internal/abi.NoEscape", "internal/bytealg.IndexByteString", "internal/bytealg.IndexString", "internal/bytealg.MakeNoZero"], unfollowed := true, recurses := true, named := ["trellis/text.spans", "internal/bytealg.MaxLen"], apart := false, laid := [("trellis/text.spans", laid_trellis_text_spans)], narrowed := true }
def CopyMoveUptoSaid : Prop := copyMoveUptoRow.holds Tryd.pinned (OpenSpec.upto copyMoveSpec)

/-- 'trellislaw.CopyTake', WHERE WHAT IT READS IS OF BULK AT MOST 1048576: true; the input reads as it did. -/
def copyTakeUptoRow : OpenClaim := { program := "ytlodmffiengnaaadoor", sum := "1b5ca8395d06b0e615d7cfa88a703df956679bfa130e965bfaa3272fd4fdc9af", func := "trellis/trellislaw.CopyTake", spec := "copyTake", inPlace := ["internal/abi.NoEscape", "internal/bytealg.MakeNoZero", "internal/bytealg.IndexByteString", "internal/bytealg.IndexString"], unfollowed := true, recurses := true, named := ["trellis/text.spans", "internal/bytealg.MaxLen"], apart := false, laid := [("trellis/text.spans", laid_trellis_text_spans)], narrowed := true }
def CopyTakeUptoSaid : Prop := copyTakeUptoRow.holds Tryd.pinned (OpenSpec.upto copyTakeSpec)

/-- 'trellislaw.CopySeek', WHERE WHAT IT READS IS OF BULK AT MOST 1048576: true; the input reads as it did. -/
def copySeekUptoRow : OpenClaim := { program := "ytlodmffiengnaaadoor", sum := "1b5ca8395d06b0e615d7cfa88a703df956679bfa130e965bfaa3272fd4fdc9af", func := "trellis/trellislaw.CopySeek", spec := "copySeek", inPlace := ["internal/abi.NoEscape", "internal/bytealg.IndexByteString", "internal/bytealg.IndexString", "internal/bytealg.MakeNoZero"], unfollowed := true, recurses := true, named := ["trellis/text.spans", "internal/bytealg.MaxLen"], apart := false, laid := [("trellis/text.spans", laid_trellis_text_spans)], narrowed := true }
def CopySeekUptoSaid : Prop := copySeekUptoRow.holds Tryd.pinned (OpenSpec.upto copySeekSpec)

end Rows
end Go.Proofs.YtlodmffiengnaaaDoor
