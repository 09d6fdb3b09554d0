/- slices.Equal of cells that read alike; SameGrid. -/
import Derived.Test.YtinhmklpnkikgaaDoorPartE
import Derived.Test.YtinhmklpnkikgaaDoorGridNewRef
import Derived.BigQuiet
namespace Go.Proofs.YtinhmklpnkikgaaDoor
open Go.ChangeShapes Go.WideShapes Go.ChangeAt Go.RowKit
namespace Grd
set_option maxHeartbeats 1000000 in
/-- SameGrid of two grids that read alike. -/
end Grd
end Go.Proofs.YtinhmklpnkikgaaDoor
