/- Plain mathematics on the widths of runes: the same width by spans and by edges. It imports nothing of the program. -/
import Derived.Test.YtinhmklpnkikgaaDoorGridCheck
import Derived.Test.YtinhmklpnkikgaaDoorTextMath
import Derived.Test.YtinhmklpnkikgaaDoorGridCells
import Derived.Test.YtinhmklpnkikgaaDoorTextWidthOf
import Derived.Test.YtinhmklpnkikgaaDoorGridCell
import Derived.Test.YtinhmklpnkikgaaDoorGridLoose
import Derived.Test.YtinhmklpnkikgaaDoorGridStyle
import Derived.Test.YtinhmklpnkikgaaDoorTextWidth
import Derived.Test.YtinhmklpnkikgaaDoorGridCopy
import Derived.WalkKit
import Derived.Test.YtinhmklpnkikgaaDoorRows
import Derived.ProofKit
import Derived.OpenShut
import Derived.Deep.LoopGhost
import Derived.Deep.Draws
import Derived.Laws.Rows
import Derived.Great.Walk
import Derived.Laws.Tables
import Derived.Laws.CopyOwn
import Derived.Lib.QuietBelow
import Derived.BigQuiet
namespace Go.Proofs.YtinhmklpnkikgaaDoor
namespace Txt

/-- The spans of package text: first, last, width. -/
def spans : List (Int × Int × Int) := [(0x0, 0x1F, 0), (0x7F, 0x9F, 0), (0x300, 0x36F, 0), (0x1100, 0x115F, 2), (0x200B, 0x200F, 0), (0x2028, 0x202E, 0), (0x20D0, 0x20FF, 0), (0x2E80, 0x303E, 2), (0x3041, 0x4DBF, 2), (0x4E00, 0xA4CF, 2), (0xAC00, 0xD7A3, 2), (0xD800, 0xDFFF, 0), (0xF900, 0xFAFF, 2), (0xFE00, 0xFE0F, 0), (0xFE30, 0xFE6F, 2), (0xFEFF, 0xFEFF, 0), (0xFF00, 0xFF60, 2), (0xFFE0, 0xFFE6, 2), (0x1F300, 0x1F64F, 2), (0x1F900, 0x1F9FF, 2), (0x20000, 0x3FFFD, 2)]
/-- The edges at which the width changes: from, width. -/
def edges : List (Int × Int) := [(0, 0), (0x20, 1), (0x7f, 0), (0xa0, 1), (0x300, 0), (0x370, 1), (0x1100, 2), (0x1160, 1), (0x200b, 0), (0x2010, 1), (0x2028, 0), (0x202f, 1), (0x20d0, 0), (0x2100, 1), (0x2e80, 2), (0x303f, 1), (0x3041, 2), (0x4dc0, 1), (0x4e00, 2), (0xa4d0, 1), (0xac00, 2), (0xd7a4, 1), (0xd800, 0), (0xe000, 1), (0xf900, 2), (0xfb00, 1), (0xfe00, 0), (0xfe10, 1), (0xfe30, 2), (0xfe70, 1), (0xfeff, 0), (0xff00, 2), (0xff61, 1), (0xffe0, 2), (0xffe7, 1), (0x1f300, 2), (0x1f650, 1), (0x1f900, 2), (0x1fa00, 1), (0x20000, 2), (0x3fffe, 1)]

def look : List (Int × Int × Int) → Int → Int
  | [], _ => 1
  | x :: t, r => if r < x.1 then 1 else if r ≤ x.2.1 then x.2.2 else look t r
def edge (r : Int) : List (Int × Int) → Int → Int
  | [], acc => acc
  | x :: t, acc => edge r t (if x.1 ≤ r then x.2 else acc)
/-- The width of a rune. -/
def wd (r : Int) : Int := if r < 0 ∨ 1114111 < r then 0 else look spans r

/-- Edges that rise: one may stop at the first that is beyond r. -/
def edgeE (r : Int) : List (Int × Int) → Int → Int
  | [], acc => acc
  | x :: t, acc => if r < x.1 then acc else edgeE r t x.2
def rising : List (Int × Int) → Bool
  | [] => true
  | [_] => true
  | x :: y :: t => decide (x.1 < y.1) && rising (y :: t)
end Txt
end Go.Proofs.YtinhmklpnkikgaaDoor

/- The walks of text.Width and of the reference's WidthOf: both tell Txt.wd, for every int32. -/
namespace Go.Proofs.YtinhmklpnkikgaaDoor
open Go.ChangeShapes Go.WideShapes Go.ChangeAt Go.RowKit
namespace Txt

/-- The cells of the table of spans. -/
def cell3 (x : Int × Int × Int) : List Value := [.int .i32 x.1, .int .i32 x.2.1, .int .i64 x.2.2]
def spanCells : Array Value := (spans.flatMap cell3).toArray
/-- The table lies where the program's start lays it. -/
def Tab (w : World) : Prop := ∃ (t : TypeId) (fr : Nat × Nat), w.heap[0]? = some (.cells spanCells t fr)
end Txt
end Go.Proofs.YtinhmklpnkikgaaDoor

/- The walk of the reference's WidthOf: it tells Txt.wd, for every int32. -/
namespace Go.Proofs.YtinhmklpnkikgaaDoor
open Go.ChangeShapes Go.WideShapes Go.ChangeAt Go.RowKit
namespace Txt

def cell2 (x : Int × Int) : List Value := [.int .i32 x.1, .int .i64 x.2]
def edgeCells : Array Value := (edges.flatMap cell2).toArray
end Txt
end Go.Proofs.YtinhmklpnkikgaaDoor

/- style.Check and the reference's IsStyle. -/
namespace Go.Proofs.YtinhmklpnkikgaaDoor
open Go.ChangeShapes Go.WideShapes Go.ChangeAt Go.RowKit
namespace Sty
def stv (s : Int × Int × Int) : Value := .agg #[.int .i64 s.1, .int .i64 s.2.1, .int .i64 s.2.2]
def isSt (s : Int × Int × Int) : Bool := decide (0 ≤ s.1 ∧ s.1 ≤ 256 ∧ 0 ≤ s.2.1 ∧ s.2.1 ≤ 256 ∧ 0 ≤ s.2.2 ∧ s.2.2 ≤ 127)
end Sty
end Go.Proofs.YtinhmklpnkikgaaDoor

/- Cells in memory; what a grid's Check says, over lists. -/
namespace Go.Proofs.YtinhmklpnkikgaaDoor
open Go.ChangeShapes Go.WideShapes Go.ChangeAt Go.RowKit
namespace Grd
open Txt (wd)
open Sty (isSt)
abbrev C := Int × Int × Int × Int
def z0 : C := (0, 0, 0, 0)
/-- The cells cs lie in block b from o on: four words each. -/
def CellsAt (w : World) (b o : Nat) (cs : List C) : Prop := ∀ j, j < cs.length →
  w.cell? ⟨b, o + j * 4, none⟩ = some (.int .i32 (cs.getD j z0).1) ∧ w.cell? ⟨b, o + j * 4 + 1, none⟩ = some (.int .i64 (cs.getD j z0).2.1) ∧
  w.cell? ⟨b, o + j * 4 + 2, none⟩ = some (.int .i64 (cs.getD j z0).2.2.1) ∧ w.cell? ⟨b, o + j * 4 + 3, none⟩ = some (.int .i64 (cs.getD j z0).2.2.2)
/-- Is the cell at x one half of a wide rune, without the other beside it? -/
def loose (cs : List C) (x : Nat) : Bool :=
  if (cs.getD x z0).1 = 0 then decide (x = 0) || decide (wd (cs.getD (x - 1) z0).1 ≠ 2)
  else decide (wd (cs.getD x z0).1 = 2) && (decide (x + 1 = cs.length) || decide ((cs.getD (x + 1) z0).1 ≠ 0))
def cellErr (cs : List C) (x : Nat) : Int :=
  if ((cs.getD x z0).1 ≠ 0 ∧ wd (cs.getD x z0).1 = 0) ∨ isSt (cs.getD x z0).2 = false then 4
  else if loose cs x = true ∨ ((cs.getD x z0).1 = 0 ∧ (cs.getD x z0).2 ≠ (cs.getD (x - 1) z0).2) then 5 else 0
def firstErr (f : Nat → Int) : Nat → Nat → Int
  | _, 0 => 0
  | k, m + 1 => if f k = 0 then firstErr f (k + 1) m else f k
def rowAt (W : Nat) (cs : List C) (y : Nat) : List C := (cs.drop (y * W)).take W
def rowErr (row : List C) : Int := firstErr (cellErr row) 0 row.length
def isSize (W H : Int) : Bool := decide (1 ≤ W ∧ W ≤ 120 ∧ 1 ≤ H ∧ H ≤ 60)
def gridErr (W H : Int) (cs : List C) : Int :=
  if isSize W H = false ∨ (cs.length : Int) ≠ W * H then 3 else firstErr (fun y => rowErr (rowAt W.toNat cs y)) 0 H.toNat
end Grd
end Go.Proofs.YtinhmklpnkikgaaDoor

/- The walk of isLoose. -/
namespace Go.Proofs.YtinhmklpnkikgaaDoor
open Go.ChangeShapes Go.WideShapes Go.ChangeAt Go.RowKit
namespace Grd
open Txt (wd)
end Grd
end Go.Proofs.YtinhmklpnkikgaaDoor

/- The walk of checkCell. -/
namespace Go.Proofs.YtinhmklpnkikgaaDoor
open Go.ChangeShapes Go.WideShapes Go.ChangeAt Go.RowKit
namespace Grd
open Txt (wd)
open Sty (isSt)
end Grd
end Go.Proofs.YtinhmklpnkikgaaDoor

/- The walks of rowOf and Check. -/
namespace Go.Proofs.YtinhmklpnkikgaaDoor
open Go.ChangeShapes Go.WideShapes Go.ChangeAt Go.RowKit
namespace Grd
open Txt (wd)
/-- A slice of cells that reads as cs. -/
def SliceAt (w : World) (v : Value) (cs : List C) : Prop :=
  (cs = [] ∧ ∃ a c, v = .slice a 0 c) ∨ (cs ≠ [] ∧ ∃ b o c, v = .slice (some ⟨b, o, none⟩) cs.length c ∧ cs.length ≤ c ∧ c ≤ 9223372036854775807 ∧ CellsAt w b o cs)
/-- Check tells gridErr of any grid. -/
end Grd
end Go.Proofs.YtinhmklpnkikgaaDoor

/- copy of elements that take several words; cells laid flat. -/
namespace Go.Proofs.YtinhmklpnkikgaaDoor
open Go.ChangeShapes Go.WideShapes Go.ChangeAt Go.RowKit
namespace Grd
/-- The four words of a cell. -/
def words (c : C) : List Value := [.int .i32 c.1, .int .i64 c.2.1, .int .i64 c.2.2.1, .int .i64 c.2.2.2]
def flat (cs : List C) : List Value := cs.flatMap words
/-- v is a slice of the call's own (in a block from base on) that reads as cs, from the block's head on. -/
def OwnG (w : World) (base : Nat) (v : Value) (cs : List C) : Prop := ∃ (g cap : Nat) (rest : List Value) (t : { t : TypeId // t = 40 }),
  v = .slice (some ⟨g, 0, none⟩) cs.length cap ∧ base ≤ g ∧ cs.length ≤ cap ∧ cap ≤ 9223372036854775807 ∧ w.heap[g]? = some (.cells (flat cs ++ rest).toArray t (0, 0))
end Grd
end Go.Proofs.YtinhmklpnkikgaaDoor
