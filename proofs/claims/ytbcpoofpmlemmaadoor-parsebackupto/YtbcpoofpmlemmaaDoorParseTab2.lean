/- The tables of packages strconv and bits as the rows list them. -/
import Derived.Test.YtbcpoofpmlemmaaDoorParseWr1
import Derived.Test.YtbcpoofpmlemmaaDoorRows
import Derived.Lib.LaidU8
import Derived.Deep.Strs
import Derived.ChangeSlices
import Derived.SizedLaws
namespace Go.Proofs.YtbcpoofpmlemmaaDoor
open Go.ChangeShapes Go.WideShapes Go.ChangeAt Go.RowKit
namespace Prs
theorem p10_of_reads {w : World} (h : Lib.VarReads Tryd.prog w "internal/strconv.uint64pow10" Rows.laid_internal_strconv_uint64pow10) : P10 w := by
  obtain ⟨g, t, cs, fuel, p, hg, hty, hvar, hd⟩ := h
  obtain rfl := Option.some.inj ((show Tryd.prog.globalNamed "internal/strconv.uint64pow10" = some 3 by kernel_rfl).symm.trans hg)
  obtain rfl := Option.some.inj ((show (Tryd.prog.globals[3]?).map (fun x => x.type) = some 119 by kernel_rfl).symm.trans hty)
  have hd2 : DataW.trod _ Tryd.prog w _ _ _ fuel 119 cs.toList = some (Lib.tabData .u64 Lib.pow10Tab, p) := hd.trans (by congr 2)
  have h := Lib.cells_of_tab Tryd.underlying119 Tryd.underlying113 (by kernel_rfl) (by kernel_rfl) hd2
  unfold P10 Lib.TabIs
  rw [hvar, ← h]
def deB32 : Array Value := ([0, 1, 28, 2, 29, 14, 24, 3, 30, 22, 20, 15, 25, 17, 4, 8, 31, 27, 13, 23, 21, 19, 16, 7, 26, 12, 18, 6, 11, 5, 10, 9] : List Int).toArray.map fun z => Value.int .u8 z
def deB64 : Array Value := ([0, 1, 56, 2, 57, 49, 28, 3, 61, 58, 42, 50, 38, 29, 17, 4, 62, 47, 59, 36, 45, 43, 51, 22, 53, 39, 33, 30, 24, 18, 12, 5, 63, 55, 48, 27, 60, 41, 37, 16, 46, 35, 44, 21, 52, 32, 23, 11, 54, 26, 40, 15, 34, 20, 31, 10, 25, 14, 19, 9, 13, 8, 7, 6] : List Int).toArray.map fun z => Value.int .u8 z
def p10Cells : Array Value := (Lib.pow10Tab.map fun z => Value.int .u64 z).toArray
end Prs
end Go.Proofs.YtbcpoofpmlemmaaDoor
