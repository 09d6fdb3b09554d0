/- The reference's NewGrid; noGrid, size. -/
import Derived.Test.YtlpoahhlggnmfabDoorGridNew
namespace Go.Proofs.YtlpoahhlggnmfabDoor
open Go.ChangeShapes Go.WideShapes Go.ChangeAt Go.RowKit
namespace Grd
end Grd
end Go.Proofs.YtlpoahhlggnmfabDoor
