/- holds. -/
import Derived.Test.YtinhmklpnkikgaaDoorPartH
import Derived.Test.YtinhmklpnkikgaaDoorGridFill2
namespace Go.Proofs.YtinhmklpnkikgaaDoor
open Go.ChangeShapes Go.WideShapes Go.ChangeAt Go.RowKit
namespace Grd
def holdsI (n hh : Nat) (x y a b : Int) : Bool := decide (0 < a ∧ 0 < b ∧ 0 ≤ x ∧ 0 ≤ y ∧ a ≤ (n : Int) - x ∧ b ≤ (hh : Int) - y)
end Grd
end Go.Proofs.YtinhmklpnkikgaaDoor
