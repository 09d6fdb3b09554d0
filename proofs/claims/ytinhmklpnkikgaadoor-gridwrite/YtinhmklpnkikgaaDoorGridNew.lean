/- grid.New and the reference's NewGrid. -/
import Derived.Test.YtinhmklpnkikgaaDoorPartE
import Derived.Test.YtinhmklpnkikgaaDoorGridRepeat
import Derived.Laws.ResultCell
namespace Go.Proofs.YtinhmklpnkikgaaDoor
open Go.ChangeShapes Go.WideShapes Go.ChangeAt Go.RowKit
namespace Grd
def blank : C := (32, 0, 0, 0)
end Grd
end Go.Proofs.YtinhmklpnkikgaaDoor
