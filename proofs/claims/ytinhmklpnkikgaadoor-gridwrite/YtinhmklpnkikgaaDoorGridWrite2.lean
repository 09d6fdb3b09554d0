/- The walk of grid.Write: a right place and a right style. -/
import Derived.Test.YtinhmklpnkikgaaDoorPartH
import Derived.Test.YtinhmklpnkikgaaDoorGridWrite
namespace Go.Proofs.YtinhmklpnkikgaaDoor
open Go.ChangeShapes Go.WideShapes Go.ChangeAt Go.RowKit
namespace Grd
open Txt (wd)
open Sty (isSt)
def writeF (X Y : Nat) (l : List (Int × Nat)) (look : Int × Int × Int) (y : Nat) (row : List C) : List C := if y = Y then mendL (writeR look l row X) else row
def writeG (n hh : Nat) (cs : List C) (X Y : Nat) (l : List (Int × Nat)) (look : Int × Int × Int) : List C := preF n cs (writeF X Y l look) hh
/-- A store of one cell, the world behind it a name. -/
end Grd
end Go.Proofs.YtinhmklpnkikgaaDoor
