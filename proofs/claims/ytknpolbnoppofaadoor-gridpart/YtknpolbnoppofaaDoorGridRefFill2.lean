/- The walk of the reference's FillGrid. -/
import Derived.Test.YtknpolbnoppofaaDoorGridRefFill
namespace Go.Proofs.YtknpolbnoppofaaDoor
open Go.ChangeShapes Go.WideShapes Go.ChangeAt Go.RowKit Go.Maps
namespace Grd
theorem wrap_id (x : Int) (h0 : -9223372036854775808 ≤ x) (h1 : x ≤ 9223372036854775807) : IntKind.i64.wrap x = x := IntWalk.i64_in x ⟨h0, h1⟩
end Grd
end Go.Proofs.YtknpolbnoppofaaDoor
