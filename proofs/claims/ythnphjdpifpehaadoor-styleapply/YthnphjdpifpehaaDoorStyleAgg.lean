/- The contracts of Check and Apply at styles written out. -/
import Derived.Test.YthnphjdpifpehaaDoorStyleLooked
namespace Go.Proofs.YthnphjdpifpehaaDoor
open Go.ChangeShapes Go.WideShapes Go.ChangeAt Go.RowKit
namespace Sty
theorem check_agg (f b x : Int) (w : World) (v : Bool) (h : isSt (f, b, x) = v) :
    Calls Tryd.prog 7 #[.agg #[.int .i64 f, .int .i64 b, .int .i64 x]] w fun e w' => e = .returned (.bool v) ∧ Below w.heap.size w w' := by
  have := check_any (f, b, x) w
  rwa [h] at this
theorem apply_agg (f b x f' b' x' : Int) (v : Value) (xs : List Int) (w : World) (hT : Tab w) (hI : IntsAt w v xs) (hlen : xs.length ≤ 140737488355328) (hw : ∀ x ∈ xs, x ≤ 9223372036854775807) (h : applyT (f, b, x) xs = (f', b', x')) :
    Calls Tryd.prog 9 #[.agg #[.int .i64 f, .int .i64 b, .int .i64 x], v] w fun e w' => e = .returned (.agg #[.int .i64 f', .int .i64 b', .int .i64 x']) ∧ Below w.heap.size w w' := by
  have := apply_any (f, b, x) v xs w hT hI hlen hw
  rwa [h] at this
theorem Tab.next {w w' : World} (h : Tab w) (hb : Below w.heap.size w w') : Tab w' := h.below hb h.pos
end Sty
end Go.Proofs.YthnphjdpifpehaaDoor
