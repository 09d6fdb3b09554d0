/- The reference's CutOf and WideOf of bytes. -/
import Derived.Test.YtbhoklhcdefabaaDoorFmtM
import Derived.Test.YtbhoklhcdefabaaDoorTextCutOf
import Derived.Test.YtbhoklhcdefabaaDoorTextWideOf
import Derived.Test.YtbhoklhcdefabaaDoorTextCleanOf
namespace Go.Proofs.YtbhoklhcdefabaaDoor
open Go.ChangeShapes Go.WideShapes Go.ChangeAt Go.RowKit Go.Maps Go.Sort
namespace Fmt
open Txt (bs cutB wideB cleanL runes)
theorem cutOf_l (l : List UInt8) (n : Int) (w : World) (hs : l.length ≤ 17592186044416) :
    Calls Tryd.prog 9 #[.string (bs l), .int .i64 n] w fun e w' => e = .returned (.string (bs (cutB l n))) ∧ Below w.heap.size w w' := by
  have := Txt.cutOf_any (bs l) n w (by rw [Txt.bs_size]; exact hs)
  rwa [Txt.bs_data] at this
theorem wideOf_l (l : List UInt8) (w : World) (hs : l.length ≤ 281474976710656) :
    Calls Tryd.prog 11 #[.string (bs l)] w fun e w' => e = .returned (.int .i64 (wideB l)) ∧ Below w.heap.size w w' := by
  refine (Txt.wideOf_any (bs l) w (by rw [Txt.bs_size]; exact hs)).mono fun e w' ⟨he, hb⟩ => ⟨?_, hb⟩
  rw [he]; unfold Txt.wideS; rw [Txt.runes_rn, Txt.bs_data]; rfl
end Fmt
end Go.Proofs.YtbhoklhcdefabaaDoor
