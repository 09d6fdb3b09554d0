/- One cell stored into a row in the middle of a block. -/
import Derived.Test.YtinhmklpnkikgaaDoorPartF
import Derived.Test.YtinhmklpnkikgaaDoorGridOwn
import Derived.Test.YtinhmklpnkikgaaDoorGridRows
import Derived.Deep.MidRow
namespace Go.Proofs.YtinhmklpnkikgaaDoor
open Go.ChangeShapes Go.WideShapes Go.ChangeAt Go.RowKit
namespace Grd
/-- A cell stored at x of the row that lies behind 'pre'. -/
end Grd
end Go.Proofs.YtinhmklpnkikgaaDoor
