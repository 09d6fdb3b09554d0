/- slices.Clone of cells. -/
import Derived.Test.YtinhmklpnkikgaaDoorPartF
import Derived.Test.YtinhmklpnkikgaaDoorGridNear
import Derived.Lib.SliceRun
namespace Go.Proofs.YtinhmklpnkikgaaDoor
open Go.ChangeShapes Go.WideShapes Go.ChangeAt Go.RowKit
namespace Grd
end Grd
end Go.Proofs.YtinhmklpnkikgaaDoor
