/- What the reference's CheckGrid says, over lists: the same as grid.Check. -/
import Derived.Test.YtinhmklpnkikgaaDoorPartF
import Derived.Test.YtinhmklpnkikgaaDoorGridCells
namespace Go.Proofs.YtinhmklpnkikgaaDoor
namespace Grd
open Txt (wd)
open Sty (isSt)
/-- What the reference says of the cell i of a grid of width n. -/
def cellR (n : Nat) (cs : List C) (i : Nat) : Int :=
  if ((cs.getD i z0).1 ≠ 0 ∧ wd (cs.getD i z0).1 = 0) ∨ isSt (cs.getD i z0).2 = false then 4
  else if (cs.getD i z0).1 = 0 ∧ (i % n = 0 ∨ wd (cs.getD (i - 1) z0).1 ≠ 2 ∨ (cs.getD (i - 1) z0).2 ≠ (cs.getD i z0).2) then 5
  else if wd (cs.getD i z0).1 = 2 ∧ (i % n + 1 = n ∨ (cs.getD (i + 1) z0).1 ≠ 0) then 5 else 0
/-- grid.Check and the reference's CheckGrid say the same. -/
end Grd
end Go.Proofs.YtinhmklpnkikgaaDoor
