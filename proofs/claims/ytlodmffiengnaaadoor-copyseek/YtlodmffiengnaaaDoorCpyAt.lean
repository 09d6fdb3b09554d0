/- Package copying: lines and places in memory. -/
import Derived.Test.YtlodmffiengnaaaDoorRows
import Derived.WalkKit
import Derived.ProofKit
import Derived.OpenShut
import Derived.Deep.Draws
import Derived.Carry
import Derived.Maps.OwnOps
import Derived.Maps.OwnSet
import Derived.Maps.Views
import Derived.Maps.Keyed
import Derived.Laws.AppendOwn
import Derived.Laws.OwnMore
import Derived.Laws.ResultCell
import Derived.Laws.Rows
import Derived.Deep.LoopGhost
namespace Go.Proofs.YtlodmffiengnaaaDoor
open Go.ChangeShapes Go.WideShapes Go.ChangeAt Go.RowKit Go.Maps
namespace Cpy
theorem lt_of_cell {w : World} {b o : Nat} {v : Value} (h : w.cell? ⟨b, o, none⟩ = some v) : b < w.heap.size := by
  unfold World.cell? at h
  split at h
  · rename_i hh
    exact (Array.getElem?_eq_some_iff.1 hh).1
  all_goals cases h
/-- All cells stand as they stood. -/
def CK (w w' : World) : Prop := ∀ b o v, w.cell? ⟨b, o, none⟩ = some v → w'.cell? ⟨b, o, none⟩ = some v
theorem CK.refl (w : World) : CK w w := fun _ _ _ h => h
theorem CK.trans {a b c : World} (h : CK a b) (g : CK b c) : CK a c := fun x y v hv => g x y v (h x y v hv)
theorem CK.below {w w' : World} (h : Below w.heap.size w w') : CK w w' := fun b o v hv => by rw [h.cell (lt_of_cell hv)]; exact hv
theorem CK.alloc {w w' : World} (h : CK w w') (o : Obj) : CK w (w'.alloc o) := h.trans (CK.below ((Below.refl _ _).alloc (Nat.le_refl _) _))
/-- Texts in a row, wherever they lie. -/
def LsAt (w : World) (v : Value) (L : List ByteArray) : Prop :=
  ∃ a c, v = .slice a L.length c ∧ (L = [] ∨ ∃ b o, a = some ⟨b, o, none⟩ ∧ ∀ j x, L[j]? = some x → w.cell? ⟨b, o + j, none⟩ = some (.string x))
theorem LsAt.ck {w w' : World} {v : Value} {L : List ByteArray} (h : LsAt w v L) (hb : CK w w') : LsAt w' v L := by
  obtain ⟨a, c, hv, h⟩ := h
  refine ⟨a, c, hv, h.imp id ?_⟩
  rintro ⟨b, o, ha, hc⟩
  exact ⟨b, o, ha, fun j x hx => hb _ _ _ (hc j x hx)⟩
theorem LsAt.below {w w' : World} {v : Value} {L : List ByteArray} (h : LsAt w v L) (hb : Below w.heap.size w w') : LsAt w' v L := h.ck (CK.below hb)
/-- A place. -/
structure Cp where
  (x y fx fy : Int) (on : Bool)
def Cp.cells (c : Cp) : Array Value := #[.int .i64 c.x, .int .i64 c.y, .int .i64 c.fx, .int .i64 c.fy, .bool c.on]
/-- Is a place in n lines? -/
def okM (n : Nat) (x y : Int) : Bool := decide (0 ≤ y) && decide (y < n) && decide (0 ≤ x) && decide (x ≤ 120)
def long (s : ByteArray) : Bool := decide (4000 < s.size)
def okL (L : List ByteArray) : Bool := decide (1 ≤ L.length) && decide (L.length ≤ 110) && !L.any long
/-- What Check says. -/
def chk (L : List ByteArray) (c : Cp) : Int := if okL L then (if okM L.length c.x c.y && okM L.length c.fx c.fy then 0 else 4) else 2
theorem ret_b {a b : Bool} (h : a = b) : Ending.returned (.bool a) = Ending.returned (.bool b) := by rw [h]
theorem ret_i {a b : Int} (h : a = b) : Ending.returned (.int .i64 a) = Ending.returned (.int .i64 b) := by rw [h]
end Cpy
end Go.Proofs.YtlodmffiengnaaaDoor
