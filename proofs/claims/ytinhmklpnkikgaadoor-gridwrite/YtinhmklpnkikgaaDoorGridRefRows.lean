/- The reference's Rows. -/
import Derived.Test.YtinhmklpnkikgaaDoorPartG
import Derived.Test.YtinhmklpnkikgaaDoorGridRefMend2
import Derived.WalkSmall
import Derived.Maps.AppendAt
namespace Go.Proofs.YtinhmklpnkikgaaDoor
open Go.ChangeShapes Go.WideShapes Go.ChangeAt Go.RowKit Go.Maps
namespace Grd
def nilV : Value := .slice none 0 0
/-- Slices that read as rows, each alone in a block of its own. -/
def RowsAt (w : World) (base : Nat) (vs : List Value) (gs : List Nat) (rows : List (List C)) : Prop :=
  vs.length = rows.length ∧ gs.length = rows.length ∧ gs.Nodup ∧ ∀ i, i < rows.length → base ≤ gs.getD i 0 ∧ RowB w (gs.getD i 0) (vs.getD i nilV) (rows.getD i [])
/-- An owned row of slices lies in no block of cells. -/
def rowsL (n : Nat) (cs : List C) (k : Nat) : List (List C) := (List.range k).map (rowAt n cs)
end Grd
end Go.Proofs.YtinhmklpnkikgaaDoor
