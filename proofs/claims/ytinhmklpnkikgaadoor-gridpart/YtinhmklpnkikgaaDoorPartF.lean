/- The walk of mend. -/
import Derived.Test.YtinhmklpnkikgaaDoorPartG
import Derived.Lib.SliceRun
import Derived.BigQuiet
import Derived.Deep.MidRow
namespace Go.Proofs.YtinhmklpnkikgaaDoor
open Go.ChangeShapes Go.WideShapes Go.ChangeAt Go.RowKit
namespace Grd
def setR (cs : List C) (x : Nat) : List C := cs.set x (32, (cs.getD x z0).2)
def mendStep (cs : List C) (x : Nat) : List C := if loose cs x then setR cs x else cs
/-- A row after its first k cells are mended, from the left. -/
def mendTo (cs : List C) : Nat → List C
  | 0 => cs
  | k + 1 => mendStep (mendTo cs k) k
def mendL (cs : List C) : List C := mendTo cs cs.length
open Txt (wd)
/-- The second half of a wide rune looks as the first one does. -/
def Alike (cs : List C) : Prop := ∀ x, x + 1 < cs.length → wd (cs.getD x z0).1 = 2 → (cs.getD (x + 1) z0).1 = 0 → (cs.getD x z0).2 = (cs.getD (x + 1) z0).2
/-- The row lies in block g behind 'pre'. -/
end Grd
end Go.Proofs.YtinhmklpnkikgaaDoor

/- near, reach, holds, and the reference's limit. -/
namespace Go.Proofs.YtinhmklpnkikgaaDoor
open Go.ChangeShapes Go.WideShapes Go.ChangeAt Go.RowKit
namespace Grd
def nearI (n : Int) : Int := min (max n (-1000)) 1000
def limitI (n : Int) : Int := max (-1000) (min n 1000)
end Grd
end Go.Proofs.YtinhmklpnkikgaaDoor

/- slices.Clone of cells. -/
namespace Go.Proofs.YtinhmklpnkikgaaDoor
open Go.ChangeShapes Go.WideShapes Go.ChangeAt Go.RowKit
namespace Grd
end Grd
end Go.Proofs.YtinhmklpnkikgaaDoor

/- copyOf, holds. -/
namespace Go.Proofs.YtinhmklpnkikgaaDoor
open Go.ChangeShapes Go.WideShapes Go.ChangeAt Go.RowKit
namespace Grd
end Grd
end Go.Proofs.YtinhmklpnkikgaaDoor

/- slices.Equal and SameGrid of cells of any number; slices.Clone of any cells; own. -/
namespace Go.Proofs.YtinhmklpnkikgaaDoor
open Go.ChangeShapes Go.WideShapes Go.ChangeAt Go.RowKit
namespace Grd
set_option maxHeartbeats 1000000 in
/-- SameGrid of two grids that read alike. -/
end Grd
end Go.Proofs.YtinhmklpnkikgaaDoor

/- What the reference's CheckGrid says, over lists: the same as grid.Check. -/
namespace Go.Proofs.YtinhmklpnkikgaaDoor
namespace Grd
open Txt (wd)
open Sty (isSt)
/-- What the reference says of the cell i of a grid of width n. -/
def cellR (n : Nat) (cs : List C) (i : Nat) : Int :=
  if ((cs.getD i z0).1 ≠ 0 ∧ wd (cs.getD i z0).1 = 0) ∨ isSt (cs.getD i z0).2 = false then 4
  else if (cs.getD i z0).1 = 0 ∧ (i % n = 0 ∨ wd (cs.getD (i - 1) z0).1 ≠ 2 ∨ (cs.getD (i - 1) z0).2 ≠ (cs.getD i z0).2) then 5
  else if wd (cs.getD i z0).1 = 2 ∧ (i % n + 1 = n ∨ (cs.getD (i + 1) z0).1 ≠ 0) then 5 else 0
/-- grid.Check and the reference's CheckGrid say the same. -/
end Grd
end Go.Proofs.YtinhmklpnkikgaaDoor

/- Plain mathematics on the rows of a grid: parts of a row set, rows one behind the other, mending, what is a right row. -/
namespace Go.Proofs.YtinhmklpnkikgaaDoor
namespace Grd
open Txt (wd)
open Sty (isSt)
/-- A row with the cells at which p holds set to f. -/
def putRow (row : List C) (p : Nat → Bool) (f : Nat → C) : List C := (List.range row.length).map fun x => if p x then f x else row.getD x z0
/-- One more cell set. -/
/-- The rows below k, each as f makes it, one behind the other. -/
def preF (n : Nat) (cs : List C) (f : Nat → List C → List C) : Nat → List C
  | 0 => []
  | k + 1 => preF n cs f k ++ f k (rowAt n cs k)
def KeepLen (n : Nat) (f : Nat → List C → List C) : Prop := ∀ y row, row.length = n → (f y row).length = n
/-- Mending, each cell by what stood there: the order makes no difference. -/
def mendM (cs : List C) : List C := (List.range cs.length).map fun x => if loose cs x then (32, (cs.getD x z0).2) else cs.getD x z0
/-- What a row must be so that mending makes a right one of it. -/
def Meant (row : List C) : Prop := ∀ x, x < row.length → ((row.getD x z0).1 ≠ 0 → wd (row.getD x z0).1 ≠ 0) ∧ isSt (row.getD x z0).2 = true ∧
  ((row.getD x z0).1 = 0 → 0 < x → wd (row.getD (x - 1) z0).1 = 2 → (row.getD x z0).2 = (row.getD (x - 1) z0).2)
def RightRow (row : List C) : Prop := Meant row ∧ ∀ x, x < row.length → loose row x = false
/-- The cells of 'fr' upon a row, from s on (s may be below 0). -/
def layP (m : Nat) (s : Int) (x : Nat) : Bool := decide (s ≤ x ∧ (x : Int) < s + m)
def layF (fr : List C) (s : Int) (x : Nat) : C := fr.getD ((x : Int) - s).toNat z0
/-- One rune written at x, where it has room. -/
def writeOne (look : Int × Int × Int) (row : List C) (x : Nat) (r : Int) : List C :=
  if wd r = 0 then row else if wd r = 2 then (row.set x (r, look)).set (x + 1) (0, look) else row.set x (r, look)
def writeR (look : Int × Int × Int) : List (Int × Nat) → List C → Nat → List C
  | [], row, _ => row
  | r :: rs, row, x => if (row.length : Int) - x < wd r.1 then row else writeR look rs (writeOne look row x r.1) (x + (wd r.1).toNat)
end Grd
end Go.Proofs.YtinhmklpnkikgaaDoor

/- One cell stored into a row in the middle of a block. -/
namespace Go.Proofs.YtinhmklpnkikgaaDoor
open Go.ChangeShapes Go.WideShapes Go.ChangeAt Go.RowKit
namespace Grd
/-- A cell stored at x of the row that lies behind 'pre'. -/
end Grd
end Go.Proofs.YtinhmklpnkikgaaDoor

/- The reference's MendRow. -/
namespace Go.Proofs.YtinhmklpnkikgaaDoor
open Go.ChangeShapes Go.WideShapes Go.ChangeAt Go.RowKit
namespace Grd
open Txt (wd)
/-- The cells below i are mended, the others not yet. -/
def mendPre (cs : List C) (i : Nat) : List C := (mendM cs).take i ++ cs.drop i
/-- The cell at i is the second half of the rune before it. -/
def second (cs : List C) (i : Nat) : Bool := decide (0 < i ∧ i < cs.length ∧ (cs.getD i z0).1 = 0 ∧ wd (cs.getD (i - 1) z0).1 = 2)
end Grd
end Go.Proofs.YtinhmklpnkikgaaDoor

/- The walk of the reference's MendRow. -/
namespace Go.Proofs.YtinhmklpnkikgaaDoor
open Go.ChangeShapes Go.WideShapes Go.ChangeAt Go.RowKit
namespace Grd
open Txt (wd)
/-- A slice that reads as a row, alone in the block g. -/
def RowB (w : World) (g : Nat) (v : Value) (row : List C) : Prop := ∃ (cap : Nat) (rest : List Value), v = .slice (some ⟨g, 0, none⟩) row.length cap ∧ row.length ≤ cap ∧ cap ≤ 9223372036854775807 ∧ w.heap[g]? = some (.cells (flat row ++ rest).toArray 40 (0, 0))
end Grd
end Go.Proofs.YtinhmklpnkikgaaDoor
