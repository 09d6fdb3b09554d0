/- The reference's Rows. -/
import Derived.Test.YtinhmklpnkikgaaDoorPartF
import Derived.WalkSmall
import Derived.Maps.AppendAt
import Derived.BigQuiet
namespace Go.Proofs.YtinhmklpnkikgaaDoor
open Go.ChangeShapes Go.WideShapes Go.ChangeAt Go.RowKit Go.Maps
namespace Grd
def nilV : Value := .slice none 0 0
/-- Slices that read as rows, each alone in a block of its own. -/
def RowsAt (w : World) (base : Nat) (vs : List Value) (gs : List Nat) (rows : List (List C)) : Prop :=
  vs.length = rows.length ∧ gs.length = rows.length ∧ gs.Nodup ∧ ∀ i, i < rows.length → base ≤ gs.getD i 0 ∧ RowB w (gs.getD i 0) (vs.getD i nilV) (rows.getD i [])
/-- An owned row of slices lies in no block of cells. -/
def rowsL (n : Nat) (cs : List C) (k : Nat) : List (List C) := (List.range k).map (rowAt n cs)
end Grd
end Go.Proofs.YtinhmklpnkikgaaDoor

/- The reference's GridOf. -/
namespace Go.Proofs.YtinhmklpnkikgaaDoor
open Go.ChangeShapes Go.WideShapes Go.ChangeAt Go.RowKit Go.Maps
namespace Grd
/-- A slice of slices, as an owned row holds it. -/
def OutV (w : World) (v : Value) (vs : List Value) : Prop := ∃ (G cap : Nat) (rest : List Value), v = .slice (some ⟨G, 0, none⟩) vs.length cap ∧ vs.length ≤ cap ∧ cap ≤ 9223372036854775807 ∧ w.heap[G]? = some (.cells (vs ++ rest).toArray 22 (0, 0))
end Grd
end Go.Proofs.YtinhmklpnkikgaaDoor

/- The walk of grid.Fill. -/
namespace Go.Proofs.YtinhmklpnkikgaaDoor
open Go.ChangeShapes Go.WideShapes Go.ChangeAt Go.RowKit
namespace Grd
open Txt (wd)
open Sty (isSt)
def inside (at' long : Int) (size : Nat) (x : Nat) : Bool := decide (max (nearI at') 0 ≤ (x : Int) ∧ (x : Int) < min (nearI at' + nearI long) size)
def fillF (n hh : Nat) (rx ry rw rh : Int) (c : C) (y : Nat) (row : List C) : List C := if inside ry rh hh y then mendL (putRow row (inside rx rw n) fun _ => c) else row
def fillG (n hh : Nat) (cs : List C) (rx ry rw rh : Int) (c : C) : List C := preF n cs (fillF n hh rx ry rw rh c) hh
/-- The cells when the rows below k are done. -/
def upto (n hh : Nat) (cs : List C) (f : Nat → List C → List C) (k : Nat) : List C := preF n cs f (min k hh) ++ cs.drop (min k hh * n)
end Grd
end Go.Proofs.YtinhmklpnkikgaaDoor

/- The walk of grid.Fill: the wrong cell, and the right one. -/
namespace Go.Proofs.YtinhmklpnkikgaaDoor
open Go.ChangeShapes Go.WideShapes Go.ChangeAt Go.RowKit
namespace Grd
open Txt (wd)
open Sty (isSt)
end Grd
end Go.Proofs.YtinhmklpnkikgaaDoor

/- The reference's FillGrid. -/
namespace Go.Proofs.YtinhmklpnkikgaaDoor
open Go.ChangeShapes Go.WideShapes Go.ChangeAt Go.RowKit Go.Maps
namespace Grd
/-- The rows below k as f makes them, the others as they were. -/
def rowsF (n hh : Nat) (cs : List C) (f : Nat → List C → List C) (k : Nat) : List (List C) := (List.range hh).map fun y => if y < k then f y (rowAt n cs y) else rowAt n cs y
end Grd
end Go.Proofs.YtinhmklpnkikgaaDoor

/- The walk of the reference's FillGrid. -/
namespace Go.Proofs.YtinhmklpnkikgaaDoor
open Go.ChangeShapes Go.WideShapes Go.ChangeAt Go.RowKit Go.Maps
namespace Grd
end Grd
end Go.Proofs.YtinhmklpnkikgaaDoor
