/- The walk of grid.Fill: the wrong cell, and the right one. -/
import Derived.Test.YtinhmklpnkikgaaDoorPartG
import Derived.Test.YtinhmklpnkikgaaDoorGridFill
namespace Go.Proofs.YtinhmklpnkikgaaDoor
open Go.ChangeShapes Go.WideShapes Go.ChangeAt Go.RowKit
namespace Grd
open Txt (wd)
open Sty (isSt)
end Grd
end Go.Proofs.YtinhmklpnkikgaaDoor
