/-
  NARROWER THAN 'FOR EVERY INPUT', by the rows' own cells (each row's printed sentence says how): SplitLay: loops, laid · SplitCut: loops, laid · SplitSwap: loops, laid · SplitEven: loops, laid · SplitText: loops, laid · SplitFills: loops, laid · SplitBack: loops, laid.
  DERIVED. THE GIVEN ROWS OF THIS SEAT. 7 by the template 'for every input the law returns true; each argument reads behind the call as it read before'; 0 by the template 'total and deterministic' (their statements: YtckkbmgdaplaaaaDoorTotals.lean).
  GIVEN WITH THE SEED: the statements are not yours to turn. If you find one false, say at which input.
  Laid BY PROGRAM, IN A SANDBOX (cutbox-rows.mjs): the forced cells as the released guide's own fill.sh prints them over the translation db8da38d0b5aa4e6… (all of the seat's roots in one cut). By AI agents, Wed Nov 11 2026. No macro, syntax, notation, axiom, sorry.
-/
import Derived.Test.YtckkbmgdaplaaaaDoorChecked
import GoSem.Claim
import GoSem.ClaimJoined
import GoSem.ClaimMapViews
import Derived.JoinedTies
import Derived.KernelRfl
namespace Go.Proofs.YtckkbmgdaplaaaaDoor
/- THE CELL 'sum', in the pinned program and in every row, IS THE sha256 OF THE DUMP (.gsa) THAT YtckkbmgdaplaaaaDoorProg.lean LOADS. Nothing in Lean hashes anything: it is a label: what it is worth is what the hold of that sum in a sandbox is worth. -/
noncomputable def Tryd.pinned : Pinned := { name := "ytckkbmgdaplaaaadoor", sum := "db8da38d0b5aa4e668a6abda7e78d601b94a6df5c1fac954f065c22327451458", checked := Tryd.checked }
namespace Rows
def none {H : Type} : Left H := { results := [], args := [] }

/- WHAT THE LISTED PACKAGE-LEVEL VARIABLES READ AS WHEN THE CALL BEGINS. Each datum BY PROGRAM (the guide's laid-datum.mjs) off the statement by which the dump's own 'gosem.cut.vars' lays the variable. In a bare row this is a premise. The card (YtckkbmgdaplaaaaDoorCards.lean) ties it to the program's text. -/
def laid_math_bits_deBruijn32tab {H : Type} : DataW H := .agg [.lit (.int .u8 0), .lit (.int .u8 1), .lit (.int .u8 28), .lit (.int .u8 2), .lit (.int .u8 29), .lit (.int .u8 14), .lit (.int .u8 24), .lit (.int .u8 3), .lit (.int .u8 30), .lit (.int .u8 22), .lit (.int .u8 20), .lit (.int .u8 15), .lit (.int .u8 25), .lit (.int .u8 17), .lit (.int .u8 4), .lit (.int .u8 8), .lit (.int .u8 31), .lit (.int .u8 27), .lit (.int .u8 13), .lit (.int .u8 23), .lit (.int .u8 21), .lit (.int .u8 19), .lit (.int .u8 16), .lit (.int .u8 7), .lit (.int .u8 26), .lit (.int .u8 12), .lit (.int .u8 18), .lit (.int .u8 6), .lit (.int .u8 11), .lit (.int .u8 5), .lit (.int .u8 10), .lit (.int .u8 9)]
def laid_math_bits_deBruijn64tab {H : Type} : DataW H := .agg [.lit (.int .u8 0), .lit (.int .u8 1), .lit (.int .u8 56), .lit (.int .u8 2), .lit (.int .u8 57), .lit (.int .u8 49), .lit (.int .u8 28), .lit (.int .u8 3), .lit (.int .u8 61), .lit (.int .u8 58), .lit (.int .u8 42), .lit (.int .u8 50), .lit (.int .u8 38), .lit (.int .u8 29), .lit (.int .u8 17), .lit (.int .u8 4), .lit (.int .u8 62), .lit (.int .u8 47), .lit (.int .u8 59), .lit (.int .u8 36), .lit (.int .u8 45), .lit (.int .u8 43), .lit (.int .u8 51), .lit (.int .u8 22), .lit (.int .u8 53), .lit (.int .u8 39), .lit (.int .u8 33), .lit (.int .u8 30), .lit (.int .u8 24), .lit (.int .u8 18), .lit (.int .u8 12), .lit (.int .u8 5), .lit (.int .u8 63), .lit (.int .u8 55), .lit (.int .u8 48), .lit (.int .u8 27), .lit (.int .u8 60), .lit (.int .u8 41), .lit (.int .u8 37), .lit (.int .u8 16), .lit (.int .u8 46), .lit (.int .u8 35), .lit (.int .u8 44), .lit (.int .u8 21), .lit (.int .u8 52), .lit (.int .u8 32), .lit (.int .u8 23), .lit (.int .u8 11), .lit (.int .u8 54), .lit (.int .u8 26), .lit (.int .u8 40), .lit (.int .u8 15), .lit (.int .u8 34), .lit (.int .u8 20), .lit (.int .u8 31), .lit (.int .u8 10), .lit (.int .u8 25), .lit (.int .u8 14), .lit (.int .u8 19), .lit (.int .u8 9), .lit (.int .u8 13), .lit (.int .u8 8), .lit (.int .u8 7), .lit (.int .u8 6)]
def laid_internal_strconv_uint64pow10 {H : Type} : DataW H := .agg [.lit (.int .u64 1), .lit (.int .u64 10), .lit (.int .u64 100), .lit (.int .u64 1000), .lit (.int .u64 10000), .lit (.int .u64 100000), .lit (.int .u64 1000000), .lit (.int .u64 10000000), .lit (.int .u64 100000000), .lit (.int .u64 1000000000), .lit (.int .u64 10000000000), .lit (.int .u64 100000000000), .lit (.int .u64 1000000000000), .lit (.int .u64 10000000000000), .lit (.int .u64 100000000000000), .lit (.int .u64 1000000000000000), .lit (.int .u64 10000000000000000), .lit (.int .u64 100000000000000000), .lit (.int .u64 1000000000000000000), .lit (.int .u64 10000000000000000000)]
def laid_strconv_ErrRange {H : Type} : DataW H := .iface "*errors.errorString" (.ptr (.agg [.lit (.string [118, 97, 108, 117, 101, 32, 111, 117, 116, 32, 111, 102, 32, 114, 97, 110, 103, 101])]))
def laid_strconv_ErrSyntax {H : Type} : DataW H := .iface "*errors.errorString" (.ptr (.agg [.lit (.string [105, 110, 118, 97, 108, 105, 100, 32, 115, 121, 110, 116, 97, 120])]))
def laid_trellis_split_brackets {H : Type} : DataW H := .agg [.lit (.string []), .lit (.string [123, 125]), .lit (.string [91, 93])]

/-- 'trellislaw.SplitLay': WHATEVER THE INPUT: true; the input reads as it did. -/
def splitLaySpec : ChangeSpec := { name := "splitLay", fn := fun _ => fun
  | [d1, d2, d3] => { results := [.lit (.bool true)], args := [d1, d2, d3] }
  | _ => none }
def splitLayRow : OpenClaim := { program := "ytckkbmgdaplaaaadoor", sum := "db8da38d0b5aa4e668a6abda7e78d601b94a6df5c1fac954f065c22327451458", func := "trellis/trellislaw.SplitLay", spec := "splitLay", unfollowed := true, recurses := true, named := ["trellis/split.brackets", "strconv.ErrSyntax", "strconv.ErrRange", "internal/strconv.uint64pow10", "math/bits.deBruijn32tab", "math/bits.deBruijn64tab"], loops := true, apart := false, laid := [("math/bits.deBruijn32tab", laid_math_bits_deBruijn32tab), ("math/bits.deBruijn64tab", laid_math_bits_deBruijn64tab), ("internal/strconv.uint64pow10", laid_internal_strconv_uint64pow10), ("strconv.ErrRange", laid_strconv_ErrRange), ("strconv.ErrSyntax", laid_strconv_ErrSyntax), ("trellis/split.brackets", laid_trellis_split_brackets)] }
def SplitLaySaid : Prop := splitLayRow.holds Tryd.pinned (OpenSpec.ofChange splitLaySpec)

/-- ITS FALSE NEIGHBOUR: 'it returns false'. Refute it at one input. -/
def splitLayWrong : ChangeSpec := { name := "splitLay", fn := fun _ => fun
  | [d1, d2, d3] => { results := [.lit (.bool false)], args := [d1, d2, d3] }
  | _ => none }
def SplitLayWrongFalsely : Prop := splitLayRow.holds Tryd.pinned (OpenSpec.ofChange splitLayWrong)

/-- 'trellislaw.SplitCut': WHATEVER THE INPUT: true; the input reads as it did. -/
def splitCutSpec : ChangeSpec := { name := "splitCut", fn := fun _ => fun
  | [d1, d2, d3, d4] => { results := [.lit (.bool true)], args := [d1, d2, d3, d4] }
  | _ => none }
def splitCutRow : OpenClaim := { program := "ytckkbmgdaplaaaadoor", sum := "db8da38d0b5aa4e668a6abda7e78d601b94a6df5c1fac954f065c22327451458", func := "trellis/trellislaw.SplitCut", spec := "splitCut", unfollowed := true, recurses := true, named := ["trellis/split.brackets", "strconv.ErrSyntax", "strconv.ErrRange", "internal/strconv.uint64pow10", "math/bits.deBruijn32tab", "math/bits.deBruijn64tab"], loops := true, apart := false, laid := [("math/bits.deBruijn32tab", laid_math_bits_deBruijn32tab), ("math/bits.deBruijn64tab", laid_math_bits_deBruijn64tab), ("internal/strconv.uint64pow10", laid_internal_strconv_uint64pow10), ("strconv.ErrRange", laid_strconv_ErrRange), ("strconv.ErrSyntax", laid_strconv_ErrSyntax), ("trellis/split.brackets", laid_trellis_split_brackets)] }
def SplitCutSaid : Prop := splitCutRow.holds Tryd.pinned (OpenSpec.ofChange splitCutSpec)

/-- ITS FALSE NEIGHBOUR: 'it returns false'. Refute it at one input. -/
def splitCutWrong : ChangeSpec := { name := "splitCut", fn := fun _ => fun
  | [d1, d2, d3, d4] => { results := [.lit (.bool false)], args := [d1, d2, d3, d4] }
  | _ => none }
def SplitCutWrongFalsely : Prop := splitCutRow.holds Tryd.pinned (OpenSpec.ofChange splitCutWrong)

/-- 'trellislaw.SplitSwap': WHATEVER THE INPUT: true; the input reads as it did. -/
def splitSwapSpec : ChangeSpec := { name := "splitSwap", fn := fun _ => fun
  | [d1, d2, d3, d4] => { results := [.lit (.bool true)], args := [d1, d2, d3, d4] }
  | _ => none }
def splitSwapRow : OpenClaim := { program := "ytckkbmgdaplaaaadoor", sum := "db8da38d0b5aa4e668a6abda7e78d601b94a6df5c1fac954f065c22327451458", func := "trellis/trellislaw.SplitSwap", spec := "splitSwap", unfollowed := true, recurses := true, named := ["trellis/split.brackets", "strconv.ErrSyntax", "strconv.ErrRange", "internal/strconv.uint64pow10", "math/bits.deBruijn32tab", "math/bits.deBruijn64tab"], loops := true, apart := false, laid := [("math/bits.deBruijn32tab", laid_math_bits_deBruijn32tab), ("math/bits.deBruijn64tab", laid_math_bits_deBruijn64tab), ("internal/strconv.uint64pow10", laid_internal_strconv_uint64pow10), ("strconv.ErrRange", laid_strconv_ErrRange), ("strconv.ErrSyntax", laid_strconv_ErrSyntax), ("trellis/split.brackets", laid_trellis_split_brackets)] }
def SplitSwapSaid : Prop := splitSwapRow.holds Tryd.pinned (OpenSpec.ofChange splitSwapSpec)

/-- ITS FALSE NEIGHBOUR: 'it returns false'. Refute it at one input. -/
def splitSwapWrong : ChangeSpec := { name := "splitSwap", fn := fun _ => fun
  | [d1, d2, d3, d4] => { results := [.lit (.bool false)], args := [d1, d2, d3, d4] }
  | _ => none }
def SplitSwapWrongFalsely : Prop := splitSwapRow.holds Tryd.pinned (OpenSpec.ofChange splitSwapWrong)

/-- 'trellislaw.SplitEven': WHATEVER THE INPUT: true; the input reads as it did. -/
def splitEvenSpec : ChangeSpec := { name := "splitEven", fn := fun _ => fun
  | [d1, d2] => { results := [.lit (.bool true)], args := [d1, d2] }
  | _ => none }
def splitEvenRow : OpenClaim := { program := "ytckkbmgdaplaaaadoor", sum := "db8da38d0b5aa4e668a6abda7e78d601b94a6df5c1fac954f065c22327451458", func := "trellis/trellislaw.SplitEven", spec := "splitEven", unfollowed := true, recurses := true, named := ["trellis/split.brackets", "strconv.ErrSyntax", "strconv.ErrRange", "internal/strconv.uint64pow10", "math/bits.deBruijn32tab", "math/bits.deBruijn64tab"], loops := true, apart := false, laid := [("math/bits.deBruijn32tab", laid_math_bits_deBruijn32tab), ("math/bits.deBruijn64tab", laid_math_bits_deBruijn64tab), ("internal/strconv.uint64pow10", laid_internal_strconv_uint64pow10), ("strconv.ErrRange", laid_strconv_ErrRange), ("strconv.ErrSyntax", laid_strconv_ErrSyntax), ("trellis/split.brackets", laid_trellis_split_brackets)] }
def SplitEvenSaid : Prop := splitEvenRow.holds Tryd.pinned (OpenSpec.ofChange splitEvenSpec)

/-- ITS FALSE NEIGHBOUR: 'it returns false'. Refute it at one input. -/
def splitEvenWrong : ChangeSpec := { name := "splitEven", fn := fun _ => fun
  | [d1, d2] => { results := [.lit (.bool false)], args := [d1, d2] }
  | _ => none }
def SplitEvenWrongFalsely : Prop := splitEvenRow.holds Tryd.pinned (OpenSpec.ofChange splitEvenWrong)

/-- 'trellislaw.SplitText': WHATEVER THE INPUT: true; the input reads as it did. -/
def splitTextSpec : ChangeSpec := { name := "splitText", fn := fun _ => fun
  | [d1, d2] => { results := [.lit (.bool true)], args := [d1, d2] }
  | _ => none }
def splitTextRow : OpenClaim := { program := "ytckkbmgdaplaaaadoor", sum := "db8da38d0b5aa4e668a6abda7e78d601b94a6df5c1fac954f065c22327451458", func := "trellis/trellislaw.SplitText", spec := "splitText", inPlace := ["internal/abi.NoEscape", "internal/bytealg.MakeNoZero"], unfollowed := true, recurses := true, named := ["internal/strconv.uint64pow10", "math/bits.deBruijn32tab", "math/bits.deBruijn64tab", "trellis/split.brackets", "strconv.ErrSyntax", "strconv.ErrRange"], loops := true, apart := false, laid := [("math/bits.deBruijn32tab", laid_math_bits_deBruijn32tab), ("math/bits.deBruijn64tab", laid_math_bits_deBruijn64tab), ("internal/strconv.uint64pow10", laid_internal_strconv_uint64pow10), ("strconv.ErrRange", laid_strconv_ErrRange), ("strconv.ErrSyntax", laid_strconv_ErrSyntax), ("trellis/split.brackets", laid_trellis_split_brackets)] }
def SplitTextSaid : Prop := splitTextRow.holds Tryd.pinned (OpenSpec.ofChange splitTextSpec)

/-- ITS FALSE NEIGHBOUR: 'it returns false'. Refute it at one input. -/
def splitTextWrong : ChangeSpec := { name := "splitText", fn := fun _ => fun
  | [d1, d2] => { results := [.lit (.bool false)], args := [d1, d2] }
  | _ => none }
def SplitTextWrongFalsely : Prop := splitTextRow.holds Tryd.pinned (OpenSpec.ofChange splitTextWrong)

/-- 'trellislaw.SplitFills': WHATEVER THE INPUT: true; the input reads as it did. -/
def splitFillsSpec : ChangeSpec := { name := "splitFills", fn := fun _ => fun
  | [d1, d2, d3] => { results := [.lit (.bool true)], args := [d1, d2, d3] }
  | _ => none }
def splitFillsRow : OpenClaim := { program := "ytckkbmgdaplaaaadoor", sum := "db8da38d0b5aa4e668a6abda7e78d601b94a6df5c1fac954f065c22327451458", func := "trellis/trellislaw.SplitFills", spec := "splitFills", unfollowed := true, recurses := true, named := ["trellis/split.brackets", "strconv.ErrSyntax", "strconv.ErrRange", "internal/strconv.uint64pow10", "math/bits.deBruijn32tab", "math/bits.deBruijn64tab"], loops := true, apart := false, laid := [("math/bits.deBruijn32tab", laid_math_bits_deBruijn32tab), ("math/bits.deBruijn64tab", laid_math_bits_deBruijn64tab), ("internal/strconv.uint64pow10", laid_internal_strconv_uint64pow10), ("strconv.ErrRange", laid_strconv_ErrRange), ("strconv.ErrSyntax", laid_strconv_ErrSyntax), ("trellis/split.brackets", laid_trellis_split_brackets)] }
def SplitFillsSaid : Prop := splitFillsRow.holds Tryd.pinned (OpenSpec.ofChange splitFillsSpec)

/-- ITS FALSE NEIGHBOUR: 'it returns false'. Refute it at one input. -/
def splitFillsWrong : ChangeSpec := { name := "splitFills", fn := fun _ => fun
  | [d1, d2, d3] => { results := [.lit (.bool false)], args := [d1, d2, d3] }
  | _ => none }
def SplitFillsWrongFalsely : Prop := splitFillsRow.holds Tryd.pinned (OpenSpec.ofChange splitFillsWrong)

/-- 'trellislaw.SplitBack': WHATEVER THE INPUT: true; the input reads as it did. -/
def splitBackSpec : ChangeSpec := { name := "splitBack", fn := fun _ => fun
  | [d1, d2, d3, d4] => { results := [.lit (.bool true)], args := [d1, d2, d3, d4] }
  | _ => none }
def splitBackRow : OpenClaim := { program := "ytckkbmgdaplaaaadoor", sum := "db8da38d0b5aa4e668a6abda7e78d601b94a6df5c1fac954f065c22327451458", func := "trellis/trellislaw.SplitBack", spec := "splitBack", inPlace := ["internal/abi.NoEscape", "internal/bytealg.MakeNoZero"], unfollowed := true, recurses := true, named := ["trellis/split.brackets", "strconv.ErrSyntax", "strconv.ErrRange", "internal/strconv.uint64pow10", "math/bits.deBruijn32tab", "math/bits.deBruijn64tab"], loops := true, apart := false, laid := [("math/bits.deBruijn32tab", laid_math_bits_deBruijn32tab), ("math/bits.deBruijn64tab", laid_math_bits_deBruijn64tab), ("internal/strconv.uint64pow10", laid_internal_strconv_uint64pow10), ("strconv.ErrRange", laid_strconv_ErrRange), ("strconv.ErrSyntax", laid_strconv_ErrSyntax), ("trellis/split.brackets", laid_trellis_split_brackets)] }
def SplitBackSaid : Prop := splitBackRow.holds Tryd.pinned (OpenSpec.ofChange splitBackSpec)

/-- ITS FALSE NEIGHBOUR: 'it returns false'. Refute it at one input. -/
def splitBackWrong : ChangeSpec := { name := "splitBack", fn := fun _ => fun
  | [d1, d2, d3, d4] => { results := [.lit (.bool false)], args := [d1, d2, d3, d4] }
  | _ => none }
def SplitBackWrongFalsely : Prop := splitBackRow.holds Tryd.pinned (OpenSpec.ofChange splitBackWrong)

/- THE SECOND FORM. 'bulk': how many values and letters a reading holds, each counted each time it is reached (what is shared counts as often as it is met; a slice's spare places count too). A statement '..UptoSaid' is the law's where the arguments, and the package variables that the reading takes, are together of bulk at most 1048576: NARROWER than '..Said'. Prove '..Said' where nothing that the law and all that it calls make is longer than what came in: it says more and counts as full. Else prove '..UptoSaid'. A law counts once. -/
mutual
def uptoBulk {H : Type} : DataW H → Nat
  | .lit (.string bytes) => bytes.length + 1
  | .lit _ => 1
  | .nil => 1
  | .ptr d => uptoBulk d + 1
  | .slice elems spare => uptoBulkAll elems + uptoBulkAll spare + 1
  | .agg parts => uptoBulkAll parts + 1
  | .iface _ d => uptoBulk d + 1
  | .map entries => uptoBulkEntries entries + 1
  | .held _ => 1
def uptoBulkAll {H : Type} : List (DataW H) → Nat
  | [] => 0
  | d :: r => uptoBulk d + uptoBulkAll r
def uptoBulkEntries {H : Type} : List (Lit × DataW H) → Nat
  | [] => 0
  | x :: r => uptoBulkEntry x + uptoBulkEntries r
def uptoBulkEntry {H : Type} : Lit × DataW H → Nat
  | (.string bytes, d) => bytes.length + uptoBulk d + 1
  | (_, d) => uptoBulk d + 1
 end
def uptoSmall : (H : Type) → List (DataW H) → Bool := fun _ ds => decide (uptoBulkAll ds ≤ 1048576)
def OpenSpec.upto (s : _root_.Go.ChangeSpec) : _root_.Go.OpenSpec := { _root_.Go.OpenSpec.ofChange s with cond := some uptoSmall }

/-- 'trellislaw.SplitLay', WHERE WHAT IT READS IS OF BULK AT MOST 1048576: true; the input reads as it did. -/
def splitLayUptoRow : OpenClaim := { program := "ytckkbmgdaplaaaadoor", sum := "db8da38d0b5aa4e668a6abda7e78d601b94a6df5c1fac954f065c22327451458", func := "trellis/trellislaw.SplitLay", spec := "splitLay", unfollowed := true, recurses := true, named := ["trellis/split.brackets", "strconv.ErrSyntax", "strconv.ErrRange", "internal/strconv.uint64pow10", "math/bits.deBruijn32tab", "math/bits.deBruijn64tab"], loops := true, apart := false, laid := [("math/bits.deBruijn32tab", laid_math_bits_deBruijn32tab), ("math/bits.deBruijn64tab", laid_math_bits_deBruijn64tab), ("internal/strconv.uint64pow10", laid_internal_strconv_uint64pow10), ("strconv.ErrRange", laid_strconv_ErrRange), ("strconv.ErrSyntax", laid_strconv_ErrSyntax), ("trellis/split.brackets", laid_trellis_split_brackets)], narrowed := true }
def SplitLayUptoSaid : Prop := splitLayUptoRow.holds Tryd.pinned (OpenSpec.upto splitLaySpec)

/-- 'trellislaw.SplitCut', WHERE WHAT IT READS IS OF BULK AT MOST 1048576: true; the input reads as it did. -/
def splitCutUptoRow : OpenClaim := { program := "ytckkbmgdaplaaaadoor", sum := "db8da38d0b5aa4e668a6abda7e78d601b94a6df5c1fac954f065c22327451458", func := "trellis/trellislaw.SplitCut", spec := "splitCut", unfollowed := true, recurses := true, named := ["trellis/split.brackets", "strconv.ErrSyntax", "strconv.ErrRange", "internal/strconv.uint64pow10", "math/bits.deBruijn32tab", "math/bits.deBruijn64tab"], loops := true, apart := false, laid := [("math/bits.deBruijn32tab", laid_math_bits_deBruijn32tab), ("math/bits.deBruijn64tab", laid_math_bits_deBruijn64tab), ("internal/strconv.uint64pow10", laid_internal_strconv_uint64pow10), ("strconv.ErrRange", laid_strconv_ErrRange), ("strconv.ErrSyntax", laid_strconv_ErrSyntax), ("trellis/split.brackets", laid_trellis_split_brackets)], narrowed := true }
def SplitCutUptoSaid : Prop := splitCutUptoRow.holds Tryd.pinned (OpenSpec.upto splitCutSpec)

/-- 'trellislaw.SplitSwap', WHERE WHAT IT READS IS OF BULK AT MOST 1048576: true; the input reads as it did. -/
def splitSwapUptoRow : OpenClaim := { program := "ytckkbmgdaplaaaadoor", sum := "db8da38d0b5aa4e668a6abda7e78d601b94a6df5c1fac954f065c22327451458", func := "trellis/trellislaw.SplitSwap", spec := "splitSwap", unfollowed := true, recurses := true, named := ["trellis/split.brackets", "strconv.ErrSyntax", "strconv.ErrRange", "internal/strconv.uint64pow10", "math/bits.deBruijn32tab", "math/bits.deBruijn64tab"], loops := true, apart := false, laid := [("math/bits.deBruijn32tab", laid_math_bits_deBruijn32tab), ("math/bits.deBruijn64tab", laid_math_bits_deBruijn64tab), ("internal/strconv.uint64pow10", laid_internal_strconv_uint64pow10), ("strconv.ErrRange", laid_strconv_ErrRange), ("strconv.ErrSyntax", laid_strconv_ErrSyntax), ("trellis/split.brackets", laid_trellis_split_brackets)], narrowed := true }
def SplitSwapUptoSaid : Prop := splitSwapUptoRow.holds Tryd.pinned (OpenSpec.upto splitSwapSpec)

/-- 'trellislaw.SplitEven', WHERE WHAT IT READS IS OF BULK AT MOST 1048576: true; the input reads as it did. -/
def splitEvenUptoRow : OpenClaim := { program := "ytckkbmgdaplaaaadoor", sum := "db8da38d0b5aa4e668a6abda7e78d601b94a6df5c1fac954f065c22327451458", func := "trellis/trellislaw.SplitEven", spec := "splitEven", unfollowed := true, recurses := true, named := ["trellis/split.brackets", "strconv.ErrSyntax", "strconv.ErrRange", "internal/strconv.uint64pow10", "math/bits.deBruijn32tab", "math/bits.deBruijn64tab"], loops := true, apart := false, laid := [("math/bits.deBruijn32tab", laid_math_bits_deBruijn32tab), ("math/bits.deBruijn64tab", laid_math_bits_deBruijn64tab), ("internal/strconv.uint64pow10", laid_internal_strconv_uint64pow10), ("strconv.ErrRange", laid_strconv_ErrRange), ("strconv.ErrSyntax", laid_strconv_ErrSyntax), ("trellis/split.brackets", laid_trellis_split_brackets)], narrowed := true }
def SplitEvenUptoSaid : Prop := splitEvenUptoRow.holds Tryd.pinned (OpenSpec.upto splitEvenSpec)

/-- 'trellislaw.SplitText', WHERE WHAT IT READS IS OF BULK AT MOST 1048576: true; the input reads as it did. -/
def splitTextUptoRow : OpenClaim := { program := "ytckkbmgdaplaaaadoor", sum := "db8da38d0b5aa4e668a6abda7e78d601b94a6df5c1fac954f065c22327451458", func := "trellis/trellislaw.SplitText", spec := "splitText", inPlace := ["internal/abi.NoEscape", "internal/bytealg.MakeNoZero"], unfollowed := true, recurses := true, named := ["internal/strconv.uint64pow10", "math/bits.deBruijn32tab", "math/bits.deBruijn64tab", "trellis/split.brackets", "strconv.ErrSyntax", "strconv.ErrRange"], loops := true, apart := false, laid := [("math/bits.deBruijn32tab", laid_math_bits_deBruijn32tab), ("math/bits.deBruijn64tab", laid_math_bits_deBruijn64tab), ("internal/strconv.uint64pow10", laid_internal_strconv_uint64pow10), ("strconv.ErrRange", laid_strconv_ErrRange), ("strconv.ErrSyntax", laid_strconv_ErrSyntax), ("trellis/split.brackets", laid_trellis_split_brackets)], narrowed := true }
def SplitTextUptoSaid : Prop := splitTextUptoRow.holds Tryd.pinned (OpenSpec.upto splitTextSpec)

/-- 'trellislaw.SplitFills', WHERE WHAT IT READS IS OF BULK AT MOST 1048576: true; the input reads as it did. -/
def splitFillsUptoRow : OpenClaim := { program := "ytckkbmgdaplaaaadoor", sum := "db8da38d0b5aa4e668a6abda7e78d601b94a6df5c1fac954f065c22327451458", func := "trellis/trellislaw.SplitFills", spec := "splitFills", unfollowed := true, recurses := true, named := ["trellis/split.brackets", "strconv.ErrSyntax", "strconv.ErrRange", "internal/strconv.uint64pow10", "math/bits.deBruijn32tab", "math/bits.deBruijn64tab"], loops := true, apart := false, laid := [("math/bits.deBruijn32tab", laid_math_bits_deBruijn32tab), ("math/bits.deBruijn64tab", laid_math_bits_deBruijn64tab), ("internal/strconv.uint64pow10", laid_internal_strconv_uint64pow10), ("strconv.ErrRange", laid_strconv_ErrRange), ("strconv.ErrSyntax", laid_strconv_ErrSyntax), ("trellis/split.brackets", laid_trellis_split_brackets)], narrowed := true }
def SplitFillsUptoSaid : Prop := splitFillsUptoRow.holds Tryd.pinned (OpenSpec.upto splitFillsSpec)

/-- 'trellislaw.SplitBack', WHERE WHAT IT READS IS OF BULK AT MOST 1048576: true; the input reads as it did. -/
def splitBackUptoRow : OpenClaim := { program := "ytckkbmgdaplaaaadoor", sum := "db8da38d0b5aa4e668a6abda7e78d601b94a6df5c1fac954f065c22327451458", func := "trellis/trellislaw.SplitBack", spec := "splitBack", inPlace := ["internal/abi.NoEscape", "internal/bytealg.MakeNoZero"], unfollowed := true, recurses := true, named := ["trellis/split.brackets", "strconv.ErrSyntax", "strconv.ErrRange", "internal/strconv.uint64pow10", "math/bits.deBruijn32tab", "math/bits.deBruijn64tab"], loops := true, apart := false, laid := [("math/bits.deBruijn32tab", laid_math_bits_deBruijn32tab), ("math/bits.deBruijn64tab", laid_math_bits_deBruijn64tab), ("internal/strconv.uint64pow10", laid_internal_strconv_uint64pow10), ("strconv.ErrRange", laid_strconv_ErrRange), ("strconv.ErrSyntax", laid_strconv_ErrSyntax), ("trellis/split.brackets", laid_trellis_split_brackets)], narrowed := true }
def SplitBackUptoSaid : Prop := splitBackUptoRow.holds Tryd.pinned (OpenSpec.upto splitBackSpec)

end Rows
end Go.Proofs.YtckkbmgdaplaaaaDoor
