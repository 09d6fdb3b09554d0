/- The walk of isParted, where it says no. -/
import Derived.Test.YtinhmklpnkikgaaDoorPartE
import Derived.Test.YtinhmklpnkikgaaDoorGridCell
namespace Go.Proofs.YtinhmklpnkikgaaDoor
open Go.ChangeShapes Go.WideShapes Go.ChangeAt Go.RowKit
namespace Grd
open Txt (wd)
/-- A cell that isn't loose, and looks as the one behind it where it is wide. -/
end Grd
end Go.Proofs.YtinhmklpnkikgaaDoor
