/- The walk of mend. -/
import Derived.Test.YtinhmklpnkikgaaDoorPartF
import Derived.Test.YtinhmklpnkikgaaDoorGridApart
import Derived.Test.YtinhmklpnkikgaaDoorGridParted
namespace Go.Proofs.YtinhmklpnkikgaaDoor
open Go.ChangeShapes Go.WideShapes Go.ChangeAt Go.RowKit
namespace Grd
def setR (cs : List C) (x : Nat) : List C := cs.set x (32, (cs.getD x z0).2)
def mendStep (cs : List C) (x : Nat) : List C := if loose cs x then setR cs x else cs
/-- A row after its first k cells are mended, from the left. -/
def mendTo (cs : List C) : Nat → List C
  | 0 => cs
  | k + 1 => mendStep (mendTo cs k) k
def mendL (cs : List C) : List C := mendTo cs cs.length
open Txt (wd)
/-- The second half of a wide rune looks as the first one does. -/
def Alike (cs : List C) : Prop := ∀ x, x + 1 < cs.length → wd (cs.getD x z0).1 = 2 → (cs.getD (x + 1) z0).1 = 0 → (cs.getD x z0).2 = (cs.getD (x + 1) z0).2
/-- The row lies in block g behind 'pre'. -/
end Grd
end Go.Proofs.YtinhmklpnkikgaaDoor
