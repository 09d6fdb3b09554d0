/- The walks of text.Cut, text.Wide and text.Fit, said of lists of bytes; and of trellislaw.written. -/
import Derived.Test.YtlodmffiengnaaaDoorTextCut
import Derived.Test.YtlodmffiengnaaaDoorTextKeep
namespace Go.Proofs.YtlodmffiengnaaaDoor
open Go.ChangeShapes Go.WideShapes Go.ChangeAt Go.RowKit
namespace Txt
def cutB (l : List UInt8) (n : Int) : List UInt8 := l.take (cutL n (rn l) 0)
def wideB (l : List UInt8) : Int := wideL (rn l)
def fitB (l : List UInt8) (n : Int) : List UInt8 := if n < 0 ∨ 120 < n then [] else fitL l n
def bs (l : List UInt8) : ByteArray := ⟨l.toArray⟩
theorem bs_size (l : List UInt8) : (bs l).size = l.length := by simp [bs, ByteArray.size]
theorem bs_data (l : List UInt8) : (bs l).data.toList = l := by simp [bs]
theorem bs_self (s : ByteArray) : bs s.data.toList = s := by cases s; simp [bs]
theorem bs_append (a b : List UInt8) : bs a ++ bs b = bs (a ++ b) := by
  apply ByteArray.ext
  simp [bs]
theorem cutB_length (l : List UInt8) (n : Int) : (cutB l n).length ≤ l.length := by simp [cutB]; omega

theorem wide_b (l : List UInt8) (w : World) (hT : Tab w) (hs : l.length ≤ 281474976710656) :
    Calls Tryd.prog 49 #[.string (bs l)] w fun e w' => e = .returned (.int .i64 (wideB l)) ∧ Below w.heap.size w w' := by
  refine (wide_any (bs l) w hT (by rw [bs_size]; exact hs)).mono fun e w' ⟨he, hb⟩ => ⟨?_, hb⟩
  rw [he]; unfold wideS; rw [runes_rn, bs_data]; rfl
end Txt
end Go.Proofs.YtlodmffiengnaaaDoor
