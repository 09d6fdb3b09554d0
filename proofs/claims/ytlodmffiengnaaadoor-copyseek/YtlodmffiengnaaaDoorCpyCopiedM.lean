/- Package copying: the closed fact's numbers. -/
import Derived.Test.YtlodmffiengnaaaDoorCpySeekC
import Derived.Test.YtlodmffiengnaaaDoorCpyTake
namespace Go.Proofs.YtlodmffiengnaaaDoor
open Go.ChangeShapes Go.WideShapes Go.ChangeAt Go.RowKit Go.Maps
namespace Cpy
open Txt (bs)
def la : ByteArray := ⟨#[111, 110, 101, 32, 116, 119, 111]⟩
def lb : ByteArray := ⟨#[230, 151, 165, 230, 156, 172, 32, 120]⟩
def L0 : List ByteArray := [la, lb]
def sk : ByteArray := ⟨#[230, 156, 172]⟩
theorem chk0 : chk L0 zCp = 0 := by kernel_rfl
theorem chk1 : chk L0 ⟨4, 0, 0, 0, false⟩ = 0 := by kernel_rfl
theorem chk2 : chk L0 ⟨4, 0, 4, 0, true⟩ = 0 := by kernel_rfl
theorem chk3 : chk L0 ⟨2, 1, 4, 0, true⟩ = 0 := by kernel_rfl
theorem spa : sp la = [(111, 0), (110, 1), (101, 2), (32, 3), (116, 4), (119, 5), (111, 6)] := by kernel_rfl
theorem spb : sp lb = [(26085, 0), (26412, 2), (32, 4), (120, 5)] := by kernel_rfl
theorem spk : what sk = [26412] := by kernel_rfl
theorem wd0 : wordM L0 0 0 = (4, 0) := by kernel_rfl
theorem sk0 : seekM L0 4 0 [26412] = some (2, 1) := by kernel_rfl
theorem tk0 : betM L0 4 0 2 1 = ⟨#[116, 119, 111, 10, 230, 151, 165, 230, 156, 172]⟩ := by kernel_rfl
end Cpy
end Go.Proofs.YtlodmffiengnaaaDoor
