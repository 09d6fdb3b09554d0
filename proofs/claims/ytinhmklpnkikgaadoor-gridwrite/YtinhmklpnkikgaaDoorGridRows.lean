/- Plain mathematics on the rows of a grid: parts of a row set, rows one behind the other, mending, what is a right row. -/
import Derived.Test.YtinhmklpnkikgaaDoorPartF
import Derived.Test.YtinhmklpnkikgaaDoorGridMend
import Derived.Test.YtinhmklpnkikgaaDoorGridMath
namespace Go.Proofs.YtinhmklpnkikgaaDoor
namespace Grd
open Txt (wd)
open Sty (isSt)
/-- A row with the cells at which p holds set to f. -/
def putRow (row : List C) (p : Nat → Bool) (f : Nat → C) : List C := (List.range row.length).map fun x => if p x then f x else row.getD x z0
/-- One more cell set. -/
/-- The rows below k, each as f makes it, one behind the other. -/
def preF (n : Nat) (cs : List C) (f : Nat → List C → List C) : Nat → List C
  | 0 => []
  | k + 1 => preF n cs f k ++ f k (rowAt n cs k)
def KeepLen (n : Nat) (f : Nat → List C → List C) : Prop := ∀ y row, row.length = n → (f y row).length = n
/-- Mending, each cell by what stood there: the order makes no difference. -/
def mendM (cs : List C) : List C := (List.range cs.length).map fun x => if loose cs x then (32, (cs.getD x z0).2) else cs.getD x z0
/-- What a row must be so that mending makes a right one of it. -/
def Meant (row : List C) : Prop := ∀ x, x < row.length → ((row.getD x z0).1 ≠ 0 → wd (row.getD x z0).1 ≠ 0) ∧ isSt (row.getD x z0).2 = true ∧
  ((row.getD x z0).1 = 0 → 0 < x → wd (row.getD (x - 1) z0).1 = 2 → (row.getD x z0).2 = (row.getD (x - 1) z0).2)
def RightRow (row : List C) : Prop := Meant row ∧ ∀ x, x < row.length → loose row x = false
/-- The cells of 'fr' upon a row, from s on (s may be below 0). -/
def layP (m : Nat) (s : Int) (x : Nat) : Bool := decide (s ≤ x ∧ (x : Int) < s + m)
def layF (fr : List C) (s : Int) (x : Nat) : C := fr.getD ((x : Int) - s).toNat z0
/-- One rune written at x, where it has room. -/
def writeOne (look : Int × Int × Int) (row : List C) (x : Nat) (r : Int) : List C :=
  if wd r = 0 then row else if wd r = 2 then (row.set x (r, look)).set (x + 1) (0, look) else row.set x (r, look)
def writeR (look : Int × Int × Int) : List (Int × Nat) → List C → Nat → List C
  | [], row, _ => row
  | r :: rs, row, x => if (row.length : Int) - x < wd r.1 then row else writeR look rs (writeOne look row x r.1) (x + (wd r.1).toNat)
end Grd
end Go.Proofs.YtinhmklpnkikgaaDoor
