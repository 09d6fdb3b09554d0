/- The reference's FillGrid. -/
import Derived.Test.YtinhmklpnkikgaaDoorPartG
import Derived.Test.YtinhmklpnkikgaaDoorGridRefOf
import Derived.Test.YtinhmklpnkikgaaDoorGridFill2
import Derived.BigQuiet
namespace Go.Proofs.YtinhmklpnkikgaaDoor
open Go.ChangeShapes Go.WideShapes Go.ChangeAt Go.RowKit Go.Maps
namespace Grd
/-- The rows below k as f makes them, the others as they were. -/
def rowsF (n hh : Nat) (cs : List C) (f : Nat → List C → List C) (k : Nat) : List (List C) := (List.range hh).map fun y => if y < k then f y (rowAt n cs y) else rowAt n cs y
end Grd
end Go.Proofs.YtinhmklpnkikgaaDoor
