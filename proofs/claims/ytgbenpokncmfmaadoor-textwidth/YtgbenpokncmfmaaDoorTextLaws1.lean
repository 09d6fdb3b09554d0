/- The walk of the law TextWidth: it answers true. -/
import Derived.Test.YtgbenpokncmfmaaDoorTextFit
import Derived.Test.YtgbenpokncmfmaaDoorTextWideOf
import Derived.Deep.QuietTactic
namespace Go.Proofs.YtgbenpokncmfmaaDoor
open Go.ChangeShapes Go.WideShapes Go.ChangeAt Go.RowKit
namespace Txt
set_option maxHeartbeats 1000000 in
theorem textWidth_walk (r : Int) (l : List UInt8) (w : World) (hT : Tab w) (hs : l.length ≤ 281474976710656) :
    Calls Tryd.prog 4 #[.int .i32 r, .string (bs l)] w fun e w' => e = .returned (.bool true) ∧ Below w.heap.size w w' := by
  have hpos := hT.pos
  have HT : Hid (Tab w) := hT
  clear hT
  go_enter Tryd.func4, Tryd.ntmps4
  go_wp2_with fail
  refine (written_yes _ HT.out).mono ?_
  rintro e W1 ⟨rfl, b1⟩
  go_wp2_with fail
  refine (width_any _ _ (HT.out.below b1 hpos)).mono ?_
  rintro e W2 ⟨rfl, b2⟩
  have b12 := b1.trans (b2.mono b1.size)
  clear b1 b2
  go_wp2_with fail
  refine (widthOf_any _ _).mono ?_
  rintro e W3 ⟨rfl, b3⟩
  have b13 := b12.trans (b3.mono b12.size)
  clear b12 b3
  go_wp2_with fail
  refine (wide_b _ _ (HT.out.below b13 hpos) hs).mono ?_
  rintro e W4 ⟨rfl, b4⟩
  have b14 := b13.trans (b4.mono b13.size)
  clear b13 b4
  go_wp2_with fail
  refine (wideOf_b _ _ hs).mono ?_
  rintro e W5 ⟨rfl, b5⟩
  have b15 := b14.trans (b5.mono b14.size)
  clear b14 b5
  go_wp2
  go_ret
  exact ⟨rfl, b15⟩
end Txt
end Go.Proofs.YtgbenpokncmfmaaDoor
