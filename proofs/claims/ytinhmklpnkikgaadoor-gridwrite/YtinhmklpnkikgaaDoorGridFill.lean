/- The walk of grid.Fill. -/
import Derived.Test.YtinhmklpnkikgaaDoorPartG
import Derived.Test.YtinhmklpnkikgaaDoorGridStore
namespace Go.Proofs.YtinhmklpnkikgaaDoor
open Go.ChangeShapes Go.WideShapes Go.ChangeAt Go.RowKit
namespace Grd
open Txt (wd)
open Sty (isSt)
def inside (at' long : Int) (size : Nat) (x : Nat) : Bool := decide (max (nearI at') 0 ≤ (x : Int) ∧ (x : Int) < min (nearI at' + nearI long) size)
def fillF (n hh : Nat) (rx ry rw rh : Int) (c : C) (y : Nat) (row : List C) : List C := if inside ry rh hh y then mendL (putRow row (inside rx rw n) fun _ => c) else row
def fillG (n hh : Nat) (cs : List C) (rx ry rw rh : Int) (c : C) : List C := preF n cs (fillF n hh rx ry rw rh c) hh
/-- The cells when the rows below k are done. -/
def upto (n hh : Nat) (cs : List C) (f : Nat → List C → List C) (k : Nat) : List C := preF n cs f (min k hh) ++ cs.drop (min k hh * n)
end Grd
end Go.Proofs.YtinhmklpnkikgaaDoor
