/- The tables of package utf8 as the rows list them. -/
import Derived.Test.YtmgmdijhiplalaaDoorParseGround
import Derived.Test.YtmgmdijhiplalaaDoorRows
import Derived.Lib.LaidU8
namespace Go.Proofs.YtmgmdijhiplalaaDoor
open Go.ChangeShapes Go.WideShapes Go.ChangeAt Go.RowKit
namespace Prs
theorem u8x : U8Extra Tryd.prog Tryd.lays260_ren := { n3 := by kernel_rfl, n4 := by kernel_rfl, y3 := by kernel_rfl, y4 := by kernel_rfl, c5 := by kernel_rfl, c119 := by kernel_rfl, c138 := by kernel_rfl }
theorem first_eq : Lib.firstData = Rows.laid_unicode_utf8_first := by kernel_rfl
theorem accept_eq : Lib.acceptData = Rows.laid_unicode_utf8_acceptRanges := by kernel_rfl
def firstCells : Array Value := (Go.Pinned.utf8FirstZ.map fun (z : Nat) => Value.int .u8 (z : Int)).toArray
def acceptCells : Array Value := ((List.range 16).flatMap fun i => [Value.int .u8 (Lib.accLo i : Int), Value.int .u8 (Lib.accHi i : Int)]).toArray
theorem tabs_of_reads {W : World} (h3 : Lib.VarReads Tryd.prog W "unicode/utf8.first" Rows.laid_unicode_utf8_first) (h4 : Lib.VarReads Tryd.prog W "unicode/utf8.acceptRanges" Rows.laid_unicode_utf8_acceptRanges) : Tabs W := by
  rw [← first_eq] at h3
  rw [← accept_eq] at h4
  exact utf8Tabs_of_reads Tryd.lays260 u8x h3 h4
end Prs
end Go.Proofs.YtmgmdijhiplalaaDoor
