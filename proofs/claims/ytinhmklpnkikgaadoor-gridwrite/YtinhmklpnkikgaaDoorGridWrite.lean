/- The walk of grid.Write: what is refused. -/
import Derived.Test.YtinhmklpnkikgaaDoorPartH
import Derived.Test.YtinhmklpnkikgaaDoorGridHolds
import Derived.Test.YtinhmklpnkikgaaDoorTextRunes
namespace Go.Proofs.YtinhmklpnkikgaaDoor
open Go.ChangeShapes Go.WideShapes Go.ChangeAt Go.RowKit
namespace Grd
open Txt (wd)
open Sty (isSt)
end Grd
end Go.Proofs.YtinhmklpnkikgaaDoor
