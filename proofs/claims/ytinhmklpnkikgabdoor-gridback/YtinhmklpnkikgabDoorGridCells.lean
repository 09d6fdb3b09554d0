/- Cells in memory; what a grid's Check says, over lists. -/
import Derived.Test.YtinhmklpnkikgabDoorGridStyle
namespace Go.Proofs.YtinhmklpnkikgabDoor
open Go.ChangeShapes Go.WideShapes Go.ChangeAt Go.RowKit
namespace Grd
open Txt (wd)
open Sty (isSt)
abbrev C := Int × Int × Int × Int
def z0 : C := (0, 0, 0, 0)
/-- The cells cs lie in block b from o on: four words each. -/
def CellsAt (w : World) (b o : Nat) (cs : List C) : Prop := ∀ j, j < cs.length →
  w.cell? ⟨b, o + j * 4, none⟩ = some (.int .i32 (cs.getD j z0).1) ∧ w.cell? ⟨b, o + j * 4 + 1, none⟩ = some (.int .i64 (cs.getD j z0).2.1) ∧
  w.cell? ⟨b, o + j * 4 + 2, none⟩ = some (.int .i64 (cs.getD j z0).2.2.1) ∧ w.cell? ⟨b, o + j * 4 + 3, none⟩ = some (.int .i64 (cs.getD j z0).2.2.2)
theorem cell_keep {W W' : World} {a : Addr} {v : Value} (hb : Below W.heap.size W W') (h : W.cell? a = some v) : W'.cell? a = some v := by
  have hlt := World.block_lt_of_cell? W a h
  rw [← h]
  unfold World.cell?
  rw [hb.block _ hlt]
theorem cell_keep' {B : Nat} {W W' : World} {a : Addr} {v : Value} (hb : Below B W W') (hB : B = W.heap.size) (h : W.cell? a = some v) : W'.cell? a = some v := by
  subst hB; exact cell_keep hb h
theorem CellsAt.below {w w' : World} {b o : Nat} {cs : List C} (h : CellsAt w b o cs) (hb : Below w.heap.size w w') : CellsAt w' b o cs := fun j hj => by
  obtain ⟨h0, h1, h2, h3⟩ := h j hj
  exact ⟨cell_keep hb h0, cell_keep hb h1, cell_keep hb h2, cell_keep hb h3⟩
theorem getD_drop (cs : List C) (k j : Nat) : (cs.drop k).getD j z0 = cs.getD (k + j) z0 := by
  simp [List.getD, List.getElem?_drop]
theorem getD_take (cs : List C) (n j : Nat) (h : j < n) : (cs.take n).getD j z0 = cs.getD j z0 := by
  simp [List.getD, h]
theorem CellsAt.part {w : World} {b o : Nat} {cs : List C} (h : CellsAt w b o cs) (k n : Nat) (hk : k + n ≤ cs.length) : CellsAt w b (o + k * 4) ((cs.drop k).take n) := fun j hj => by
  simp only [List.length_take, List.length_drop] at hj
  have hjn : j < n := by omega
  obtain ⟨h0, h1, h2, h3⟩ := h (k + j) (by omega)
  rw [getD_take _ _ _ hjn, getD_drop]
  rw [show o + (k + j) * 4 = o + k * 4 + j * 4 by omega] at h0 h1 h2 h3
  exact ⟨h0, h1, h2, h3⟩
/-- Is the cell at x one half of a wide rune, without the other beside it? -/
def loose (cs : List C) (x : Nat) : Bool :=
  if (cs.getD x z0).1 = 0 then decide (x = 0) || decide (wd (cs.getD (x - 1) z0).1 ≠ 2)
  else decide (wd (cs.getD x z0).1 = 2) && (decide (x + 1 = cs.length) || decide ((cs.getD (x + 1) z0).1 ≠ 0))
def cellErr (cs : List C) (x : Nat) : Int :=
  if ((cs.getD x z0).1 ≠ 0 ∧ wd (cs.getD x z0).1 = 0) ∨ isSt (cs.getD x z0).2 = false then 4
  else if loose cs x = true ∨ ((cs.getD x z0).1 = 0 ∧ (cs.getD x z0).2 ≠ (cs.getD (x - 1) z0).2) then 5 else 0
def firstErr (f : Nat → Int) : Nat → Nat → Int
  | _, 0 => 0
  | k, m + 1 => if f k = 0 then firstErr f (k + 1) m else f k
def rowAt (W : Nat) (cs : List C) (y : Nat) : List C := (cs.drop (y * W)).take W
def rowErr (row : List C) : Int := firstErr (cellErr row) 0 row.length
def isSize (W H : Int) : Bool := decide (1 ≤ W ∧ W ≤ 120 ∧ 1 ≤ H ∧ H ≤ 60)
def gridErr (W H : Int) (cs : List C) : Int :=
  if isSize W H = false ∨ (cs.length : Int) ≠ W * H then 3 else firstErr (fun y => rowErr (rowAt W.toNat cs y)) 0 H.toNat
end Grd
end Go.Proofs.YtinhmklpnkikgabDoor
