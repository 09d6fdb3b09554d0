/-
  NARROWER THAN 'FOR EVERY INPUT', by the rows' own cells (each row's printed sentence says how): PutCheck: laid · PutText: laid · PutRow: laid · PutStands: laid · MoveBack: laid · WipeAll: laid · ModeKeeps: laid.
  DERIVED. THE GIVEN ROWS OF THIS SEAT. 7 by the template 'for every input the law returns true; each argument reads behind the call as it read before'; 0 by the template 'total and deterministic' (their statements: YtnkeahfcpbepjaaDoorTotals.lean).
  GIVEN WITH THE SEED: the statements are not yours to turn. If you find one false, say at which input.
  Laid BY PROGRAM, IN A SANDBOX (cutbox-rows.mjs): the forced cells as the released guide's own fill.sh prints them over the translation b24f1510a0fae47e… (all of the seat's roots in one cut). By AI agents, Wed Nov 11 2026. No macro, syntax, notation, axiom, sorry.
-/
import Derived.Test.YtnkeahfcpbepjaaDoorChecked
import GoSem.PinnedTables
import GoSem.Claim
import GoSem.ClaimJoined
import GoSem.ClaimMapViews
import Derived.JoinedTies
import Derived.KernelRfl
namespace Go.Proofs.YtnkeahfcpbepjaaDoor
/- THE CELL 'sum', in the pinned program and in every row, IS THE sha256 OF THE DUMP (.gsa) THAT YtnkeahfcpbepjaaDoorProg.lean LOADS. Nothing in Lean hashes anything: it is a label: what it is worth is what the hold of that sum in a sandbox is worth. -/
noncomputable def Tryd.pinned : Pinned := { name := "ytnkeahfcpbepjaadoor", sum := "b24f1510a0fae47efccb694144147d29d0a53cf7c9b1a6e9075f23b196c81d28", checked := Tryd.checked }
namespace Rows
def none {H : Type} : Left H := { results := [], args := [] }

/- WHAT THE LISTED PACKAGE-LEVEL VARIABLES READ AS WHEN THE CALL BEGINS. Each datum BY PROGRAM (the guide's laid-datum.mjs) off the statement by which the dump's own 'gosem.cut.vars' lays the variable. In a bare row this is a premise. The card (YtnkeahfcpbepjaaDoorCards.lean) ties it to the program's text. -/
def laid_trellis_text_spans {H : Type} : DataW H := .agg [.agg [.lit (.int .i32 0), .lit (.int .i32 31), .lit (.int .i64 0)], .agg [.lit (.int .i32 127), .lit (.int .i32 159), .lit (.int .i64 0)], .agg [.lit (.int .i32 768), .lit (.int .i32 879), .lit (.int .i64 0)], .agg [.lit (.int .i32 4352), .lit (.int .i32 4447), .lit (.int .i64 2)], .agg [.lit (.int .i32 8203), .lit (.int .i32 8207), .lit (.int .i64 0)], .agg [.lit (.int .i32 8232), .lit (.int .i32 8238), .lit (.int .i64 0)], .agg [.lit (.int .i32 8400), .lit (.int .i32 8447), .lit (.int .i64 0)], .agg [.lit (.int .i32 11904), .lit (.int .i32 12350), .lit (.int .i64 2)], .agg [.lit (.int .i32 12353), .lit (.int .i32 19903), .lit (.int .i64 2)], .agg [.lit (.int .i32 19968), .lit (.int .i32 42191), .lit (.int .i64 2)], .agg [.lit (.int .i32 44032), .lit (.int .i32 55203), .lit (.int .i64 2)], .agg [.lit (.int .i32 55296), .lit (.int .i32 57343), .lit (.int .i64 0)], .agg [.lit (.int .i32 63744), .lit (.int .i32 64255), .lit (.int .i64 2)], .agg [.lit (.int .i32 65024), .lit (.int .i32 65039), .lit (.int .i64 0)], .agg [.lit (.int .i32 65072), .lit (.int .i32 65135), .lit (.int .i64 2)], .agg [.lit (.int .i32 65279), .lit (.int .i32 65279), .lit (.int .i64 0)], .agg [.lit (.int .i32 65280), .lit (.int .i32 65376), .lit (.int .i64 2)], .agg [.lit (.int .i32 65504), .lit (.int .i32 65510), .lit (.int .i64 2)], .agg [.lit (.int .i32 127744), .lit (.int .i32 128591), .lit (.int .i64 2)], .agg [.lit (.int .i32 129280), .lit (.int .i32 129535), .lit (.int .i64 2)], .agg [.lit (.int .i32 131072), .lit (.int .i32 262141), .lit (.int .i64 2)]]
def laid_unicode_utf8_acceptRanges {H : Type} : DataW H := .agg [.agg [.lit (.int .u8 128), .lit (.int .u8 191)], .agg [.lit (.int .u8 160), .lit (.int .u8 191)], .agg [.lit (.int .u8 128), .lit (.int .u8 159)], .agg [.lit (.int .u8 144), .lit (.int .u8 191)], .agg [.lit (.int .u8 128), .lit (.int .u8 143)], .agg [.lit (.int .u8 0), .lit (.int .u8 0)], .agg [.lit (.int .u8 0), .lit (.int .u8 0)], .agg [.lit (.int .u8 0), .lit (.int .u8 0)], .agg [.lit (.int .u8 0), .lit (.int .u8 0)], .agg [.lit (.int .u8 0), .lit (.int .u8 0)], .agg [.lit (.int .u8 0), .lit (.int .u8 0)], .agg [.lit (.int .u8 0), .lit (.int .u8 0)], .agg [.lit (.int .u8 0), .lit (.int .u8 0)], .agg [.lit (.int .u8 0), .lit (.int .u8 0)], .agg [.lit (.int .u8 0), .lit (.int .u8 0)], .agg [.lit (.int .u8 0), .lit (.int .u8 0)]]
/-- One of Go's own tables, pinned by name: the form's constant. -/
def laid_unicode_utf8_first : DataW Unit := Go.Pinned.utf8First
def laid_trellis_style_looks {H : Type} : DataW H := .agg [.agg [.lit (.int .i64 1), .lit (.int .i64 22), .lit (.int .i64 1)], .agg [.lit (.int .i64 2), .lit (.int .i64 22), .lit (.int .i64 2)], .agg [.lit (.int .i64 3), .lit (.int .i64 23), .lit (.int .i64 4)], .agg [.lit (.int .i64 4), .lit (.int .i64 24), .lit (.int .i64 8)], .agg [.lit (.int .i64 5), .lit (.int .i64 25), .lit (.int .i64 16)], .agg [.lit (.int .i64 7), .lit (.int .i64 27), .lit (.int .i64 32)], .agg [.lit (.int .i64 9), .lit (.int .i64 29), .lit (.int .i64 64)]]

/-- 'trellislaw.PutCheck': WHATEVER THE INPUT: true; the input reads as it did. -/
def putCheckSpec : ChangeSpec := { name := "putCheck", fn := fun _ => fun
  | [d1, d2, d3] => { results := [.lit (.bool true)], args := [d1, d2, d3] }
  | _ => none }
def putCheckRow : OpenClaim := { program := "ytnkeahfcpbepjaadoor", sum := "b24f1510a0fae47efccb694144147d29d0a53cf7c9b1a6e9075f23b196c81d28", func := "trellis/trellislaw.PutCheck", spec := "putCheck", inPlace := ["internal/abi.NoEscape", "slices.overlaps[[]trellis/api.Cell]"], unfollowed := true, recurses := true, named := ["trellis/text.spans"], apart := false, laid := [("trellis/text.spans", laid_trellis_text_spans)] }
def PutCheckSaid : Prop := putCheckRow.holds Tryd.pinned (OpenSpec.ofChange putCheckSpec)

/-- ITS FALSE NEIGHBOUR: 'it returns false'. Refute it at one input. -/
def putCheckWrong : ChangeSpec := { name := "putCheck", fn := fun _ => fun
  | [d1, d2, d3] => { results := [.lit (.bool false)], args := [d1, d2, d3] }
  | _ => none }
def PutCheckWrongFalsely : Prop := putCheckRow.holds Tryd.pinned (OpenSpec.ofChange putCheckWrong)

/-- 'trellislaw.PutText': WHATEVER THE INPUT: true; the input reads as it did. -/
def putTextSpec : ChangeSpec := { name := "putText", fn := fun _ => fun
  | [d1, d2] => { results := [.lit (.bool true)], args := [d1, d2] }
  | _ => none }
def putTextRow : OpenClaim := { program := "ytnkeahfcpbepjaadoor", sum := "b24f1510a0fae47efccb694144147d29d0a53cf7c9b1a6e9075f23b196c81d28", func := "trellis/trellislaw.PutText", spec := "putText", inPlace := ["internal/abi.NoEscape", "slices.overlaps[[]trellis/api.Cell]"], unfollowed := true, recurses := true, named := ["trellis/text.spans"], apart := false, laid := [("trellis/text.spans", laid_trellis_text_spans)] }
def PutTextSaid : Prop := putTextRow.holds Tryd.pinned (OpenSpec.ofChange putTextSpec)

/-- ITS FALSE NEIGHBOUR: 'it returns false'. Refute it at one input. -/
def putTextWrong : ChangeSpec := { name := "putText", fn := fun _ => fun
  | [d1, d2] => { results := [.lit (.bool false)], args := [d1, d2] }
  | _ => none }
def PutTextWrongFalsely : Prop := putTextRow.holds Tryd.pinned (OpenSpec.ofChange putTextWrong)

/-- 'trellislaw.PutRow': WHATEVER THE INPUT: true; the input reads as it did. -/
def putRowSpec : ChangeSpec := { name := "putRow", fn := fun _ => fun
  | [d1, d2, d3] => { results := [.lit (.bool true)], args := [d1, d2, d3] }
  | _ => none }
def putRowRow : OpenClaim := { program := "ytnkeahfcpbepjaadoor", sum := "b24f1510a0fae47efccb694144147d29d0a53cf7c9b1a6e9075f23b196c81d28", func := "trellis/trellislaw.PutRow", spec := "putRow", inPlace := ["internal/abi.NoEscape", "slices.overlaps[[]trellis/api.Cell]"], unfollowed := true, recurses := true, named := ["unicode/utf8.first", "unicode/utf8.acceptRanges", "trellis/text.spans"], apart := false, laid := [("unicode/utf8.acceptRanges", laid_unicode_utf8_acceptRanges), ("trellis/text.spans", laid_trellis_text_spans), ("unicode/utf8.first", laid_unicode_utf8_first)] }
def PutRowSaid : Prop := putRowRow.holds Tryd.pinned (OpenSpec.ofChange putRowSpec)

/-- ITS FALSE NEIGHBOUR: 'it returns false'. Refute it at one input. -/
def putRowWrong : ChangeSpec := { name := "putRow", fn := fun _ => fun
  | [d1, d2, d3] => { results := [.lit (.bool false)], args := [d1, d2, d3] }
  | _ => none }
def PutRowWrongFalsely : Prop := putRowRow.holds Tryd.pinned (OpenSpec.ofChange putRowWrong)

/-- 'trellislaw.PutStands': WHATEVER THE INPUT: true; the input reads as it did. -/
def putStandsSpec : ChangeSpec := { name := "putStands", fn := fun _ => fun
  | [d1, d2] => { results := [.lit (.bool true)], args := [d1, d2] }
  | _ => none }
def putStandsRow : OpenClaim := { program := "ytnkeahfcpbepjaadoor", sum := "b24f1510a0fae47efccb694144147d29d0a53cf7c9b1a6e9075f23b196c81d28", func := "trellis/trellislaw.PutStands", spec := "putStands", inPlace := ["internal/abi.NoEscape", "slices.overlaps[[]trellis/api.Cell]", "internal/bytealg.IndexByteString", "internal/bytealg.IndexString"], unfollowed := true, recurses := true, named := ["trellis/text.spans", "unicode/utf8.first", "unicode/utf8.acceptRanges", "internal/bytealg.MaxLen"], apart := false, laid := [("unicode/utf8.acceptRanges", laid_unicode_utf8_acceptRanges), ("trellis/text.spans", laid_trellis_text_spans), ("unicode/utf8.first", laid_unicode_utf8_first)] }
def PutStandsSaid : Prop := putStandsRow.holds Tryd.pinned (OpenSpec.ofChange putStandsSpec)

/-- ITS FALSE NEIGHBOUR: 'it returns false'. Refute it at one input. -/
def putStandsWrong : ChangeSpec := { name := "putStands", fn := fun _ => fun
  | [d1, d2] => { results := [.lit (.bool false)], args := [d1, d2] }
  | _ => none }
def PutStandsWrongFalsely : Prop := putStandsRow.holds Tryd.pinned (OpenSpec.ofChange putStandsWrong)

/-- 'trellislaw.MoveBack': WHATEVER THE INPUT: true; the input reads as it did. -/
def moveBackSpec : ChangeSpec := { name := "moveBack", fn := fun _ => fun
  | [d1, d2, d3, d4] => { results := [.lit (.bool true)], args := [d1, d2, d3, d4] }
  | _ => none }
def moveBackRow : OpenClaim := { program := "ytnkeahfcpbepjaadoor", sum := "b24f1510a0fae47efccb694144147d29d0a53cf7c9b1a6e9075f23b196c81d28", func := "trellis/trellislaw.MoveBack", spec := "moveBack", inPlace := ["internal/abi.NoEscape", "slices.overlaps[[]trellis/api.Cell]"], unfollowed := true, recurses := true, named := ["trellis/text.spans"], apart := false, laid := [("trellis/text.spans", laid_trellis_text_spans)] }
def MoveBackSaid : Prop := moveBackRow.holds Tryd.pinned (OpenSpec.ofChange moveBackSpec)

/-- ITS FALSE NEIGHBOUR: 'it returns false'. Refute it at one input. -/
def moveBackWrong : ChangeSpec := { name := "moveBack", fn := fun _ => fun
  | [d1, d2, d3, d4] => { results := [.lit (.bool false)], args := [d1, d2, d3, d4] }
  | _ => none }
def MoveBackWrongFalsely : Prop := moveBackRow.holds Tryd.pinned (OpenSpec.ofChange moveBackWrong)

/-- 'trellislaw.WipeAll': WHATEVER THE INPUT: true; the input reads as it did. -/
def wipeAllSpec : ChangeSpec := { name := "wipeAll", fn := fun _ => fun
  | [d1, d2] => { results := [.lit (.bool true)], args := [d1, d2] }
  | _ => none }
def wipeAllRow : OpenClaim := { program := "ytnkeahfcpbepjaadoor", sum := "b24f1510a0fae47efccb694144147d29d0a53cf7c9b1a6e9075f23b196c81d28", func := "trellis/trellislaw.WipeAll", spec := "wipeAll", inPlace := ["internal/abi.NoEscape", "slices.overlaps[[]trellis/api.Cell]"], unfollowed := true, recurses := true, named := ["trellis/text.spans"], apart := false, laid := [("trellis/text.spans", laid_trellis_text_spans)] }
def WipeAllSaid : Prop := wipeAllRow.holds Tryd.pinned (OpenSpec.ofChange wipeAllSpec)

/-- ITS FALSE NEIGHBOUR: 'it returns false'. Refute it at one input. -/
def wipeAllWrong : ChangeSpec := { name := "wipeAll", fn := fun _ => fun
  | [d1, d2] => { results := [.lit (.bool false)], args := [d1, d2] }
  | _ => none }
def WipeAllWrongFalsely : Prop := wipeAllRow.holds Tryd.pinned (OpenSpec.ofChange wipeAllWrong)

/-- 'trellislaw.ModeKeeps': WHATEVER THE INPUT: true; the input reads as it did. -/
def modeKeepsSpec : ChangeSpec := { name := "modeKeeps", fn := fun _ => fun
  | [d1, d2, d3, d4, d5] => { results := [.lit (.bool true)], args := [d1, d2, d3, d4, d5] }
  | _ => none }
def modeKeepsRow : OpenClaim := { program := "ytnkeahfcpbepjaadoor", sum := "b24f1510a0fae47efccb694144147d29d0a53cf7c9b1a6e9075f23b196c81d28", func := "trellis/trellislaw.ModeKeeps", spec := "modeKeeps", inPlace := ["internal/abi.NoEscape", "slices.overlaps[[]trellis/api.Cell]"], unfollowed := true, recurses := true, named := ["trellis/text.spans", "trellis/style.looks"], apart := false, laid := [("trellis/style.looks", laid_trellis_style_looks), ("trellis/text.spans", laid_trellis_text_spans)] }
def ModeKeepsSaid : Prop := modeKeepsRow.holds Tryd.pinned (OpenSpec.ofChange modeKeepsSpec)

/-- ITS FALSE NEIGHBOUR: 'it returns false'. Refute it at one input. -/
def modeKeepsWrong : ChangeSpec := { name := "modeKeeps", fn := fun _ => fun
  | [d1, d2, d3, d4, d5] => { results := [.lit (.bool false)], args := [d1, d2, d3, d4, d5] }
  | _ => none }
def ModeKeepsWrongFalsely : Prop := modeKeepsRow.holds Tryd.pinned (OpenSpec.ofChange modeKeepsWrong)

/- THE SECOND FORM. 'bulk': how many values and letters a reading holds, each counted each time it is reached (what is shared counts as often as it is met; a slice's spare places count too). A statement '..UptoSaid' is the law's where the arguments, and the package variables that the reading takes, are together of bulk at most 1048576: NARROWER than '..Said'. Prove '..Said' where nothing that the law and all that it calls make is longer than what came in: it says more and counts as full. Else prove '..UptoSaid'. A law counts once. -/
mutual
def uptoBulk {H : Type} : DataW H → Nat
  | .lit (.string bytes) => bytes.length + 1
  | .lit _ => 1
  | .nil => 1
  | .ptr d => uptoBulk d + 1
  | .slice elems spare => uptoBulkAll elems + uptoBulkAll spare + 1
  | .agg parts => uptoBulkAll parts + 1
  | .iface _ d => uptoBulk d + 1
  | .map entries => uptoBulkEntries entries + 1
  | .held _ => 1
def uptoBulkAll {H : Type} : List (DataW H) → Nat
  | [] => 0
  | d :: r => uptoBulk d + uptoBulkAll r
def uptoBulkEntries {H : Type} : List (Lit × DataW H) → Nat
  | [] => 0
  | x :: r => uptoBulkEntry x + uptoBulkEntries r
def uptoBulkEntry {H : Type} : Lit × DataW H → Nat
  | (.string bytes, d) => bytes.length + uptoBulk d + 1
  | (_, d) => uptoBulk d + 1
 end
def uptoSmall : (H : Type) → List (DataW H) → Bool := fun _ ds => decide (uptoBulkAll ds ≤ 1048576)
def OpenSpec.upto (s : _root_.Go.ChangeSpec) : _root_.Go.OpenSpec := { _root_.Go.OpenSpec.ofChange s with cond := some uptoSmall }

/-- 'trellislaw.PutCheck', WHERE WHAT IT READS IS OF BULK AT MOST 1048576: true; the input reads as it did. -/
def putCheckUptoRow : OpenClaim := { program := "ytnkeahfcpbepjaadoor", sum := "b24f1510a0fae47efccb694144147d29d0a53cf7c9b1a6e9075f23b196c81d28", func := "trellis/trellislaw.PutCheck", spec := "putCheck", inPlace := ["internal/abi.NoEscape", "slices.overlaps[[]trellis/api.Cell]"], unfollowed := true, recurses := true, named := ["trellis/text.spans"], apart := false, laid := [("trellis/text.spans", laid_trellis_text_spans)], narrowed := true }
def PutCheckUptoSaid : Prop := putCheckUptoRow.holds Tryd.pinned (OpenSpec.upto putCheckSpec)

/-- 'trellislaw.PutText', WHERE WHAT IT READS IS OF BULK AT MOST 1048576: true; the input reads as it did. -/
def putTextUptoRow : OpenClaim := { program := "ytnkeahfcpbepjaadoor", sum := "b24f1510a0fae47efccb694144147d29d0a53cf7c9b1a6e9075f23b196c81d28", func := "trellis/trellislaw.PutText", spec := "putText", inPlace := ["internal/abi.NoEscape", "slices.overlaps[[]trellis/api.Cell]"], unfollowed := true, recurses := true, named := ["trellis/text.spans"], apart := false, laid := [("trellis/text.spans", laid_trellis_text_spans)], narrowed := true }
def PutTextUptoSaid : Prop := putTextUptoRow.holds Tryd.pinned (OpenSpec.upto putTextSpec)

/-- 'trellislaw.PutRow', WHERE WHAT IT READS IS OF BULK AT MOST 1048576: true; the input reads as it did. -/
def putRowUptoRow : OpenClaim := { program := "ytnkeahfcpbepjaadoor", sum := "b24f1510a0fae47efccb694144147d29d0a53cf7c9b1a6e9075f23b196c81d28", func := "trellis/trellislaw.PutRow", spec := "putRow", inPlace := ["internal/abi.NoEscape", "slices.overlaps[[]trellis/api.Cell]"], unfollowed := true, recurses := true, named := ["unicode/utf8.first", "unicode/utf8.acceptRanges", "trellis/text.spans"], apart := false, laid := [("unicode/utf8.acceptRanges", laid_unicode_utf8_acceptRanges), ("trellis/text.spans", laid_trellis_text_spans), ("unicode/utf8.first", laid_unicode_utf8_first)], narrowed := true }
def PutRowUptoSaid : Prop := putRowUptoRow.holds Tryd.pinned (OpenSpec.upto putRowSpec)

/-- 'trellislaw.PutStands', WHERE WHAT IT READS IS OF BULK AT MOST 1048576: true; the input reads as it did. -/
def putStandsUptoRow : OpenClaim := { program := "ytnkeahfcpbepjaadoor", sum := "b24f1510a0fae47efccb694144147d29d0a53cf7c9b1a6e9075f23b196c81d28", func := "trellis/trellislaw.PutStands", spec := "putStands", inPlace := ["internal/abi.NoEscape", "slices.overlaps[[]trellis/api.Cell]", "internal/bytealg.IndexByteString", "internal/bytealg.IndexString"], unfollowed := true, recurses := true, named := ["trellis/text.spans", "unicode/utf8.first", "unicode/utf8.acceptRanges", "internal/bytealg.MaxLen"], apart := false, laid := [("unicode/utf8.acceptRanges", laid_unicode_utf8_acceptRanges), ("trellis/text.spans", laid_trellis_text_spans), ("unicode/utf8.first", laid_unicode_utf8_first)], narrowed := true }
def PutStandsUptoSaid : Prop := putStandsUptoRow.holds Tryd.pinned (OpenSpec.upto putStandsSpec)

/-- 'trellislaw.MoveBack', WHERE WHAT IT READS IS OF BULK AT MOST 1048576: true; the input reads as it did. -/
def moveBackUptoRow : OpenClaim := { program := "ytnkeahfcpbepjaadoor", sum := "b24f1510a0fae47efccb694144147d29d0a53cf7c9b1a6e9075f23b196c81d28", func := "trellis/trellislaw.MoveBack", spec := "moveBack", inPlace := ["internal/abi.NoEscape", "slices.overlaps[[]trellis/api.Cell]"], unfollowed := true, recurses := true, named := ["trellis/text.spans"], apart := false, laid := [("trellis/text.spans", laid_trellis_text_spans)], narrowed := true }
def MoveBackUptoSaid : Prop := moveBackUptoRow.holds Tryd.pinned (OpenSpec.upto moveBackSpec)

/-- 'trellislaw.WipeAll', WHERE WHAT IT READS IS OF BULK AT MOST 1048576: true; the input reads as it did. -/
def wipeAllUptoRow : OpenClaim := { program := "ytnkeahfcpbepjaadoor", sum := "b24f1510a0fae47efccb694144147d29d0a53cf7c9b1a6e9075f23b196c81d28", func := "trellis/trellislaw.WipeAll", spec := "wipeAll", inPlace := ["internal/abi.NoEscape", "slices.overlaps[[]trellis/api.Cell]"], unfollowed := true, recurses := true, named := ["trellis/text.spans"], apart := false, laid := [("trellis/text.spans", laid_trellis_text_spans)], narrowed := true }
def WipeAllUptoSaid : Prop := wipeAllUptoRow.holds Tryd.pinned (OpenSpec.upto wipeAllSpec)

/-- 'trellislaw.ModeKeeps', WHERE WHAT IT READS IS OF BULK AT MOST 1048576: true; the input reads as it did. -/
def modeKeepsUptoRow : OpenClaim := { program := "ytnkeahfcpbepjaadoor", sum := "b24f1510a0fae47efccb694144147d29d0a53cf7c9b1a6e9075f23b196c81d28", func := "trellis/trellislaw.ModeKeeps", spec := "modeKeeps", inPlace := ["internal/abi.NoEscape", "slices.overlaps[[]trellis/api.Cell]"], unfollowed := true, recurses := true, named := ["trellis/text.spans", "trellis/style.looks"], apart := false, laid := [("trellis/style.looks", laid_trellis_style_looks), ("trellis/text.spans", laid_trellis_text_spans)], narrowed := true }
def ModeKeepsUptoSaid : Prop := modeKeepsUptoRow.holds Tryd.pinned (OpenSpec.upto modeKeepsSpec)

end Rows
end Go.Proofs.YtnkeahfcpbepjaaDoor
