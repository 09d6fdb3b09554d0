/- Package copying: lines and a place out of what the row reads. -/
import Derived.Test.YtlodmffiengnaaaDoorCpyFind
import Derived.Lib.LaidU8
import Derived.Deep.Strs
import Derived.Deep.Slices
import Derived.SliceStrings
import Derived.SizedLaws
import Derived.Shelf.Vars
namespace Go.Proofs.YtlodmffiengnaaaDoor
open Go.ChangeShapes Go.WideShapes Go.ChangeAt Go.RowKit
open Go.Shelf
namespace Cpy
variable {H : Type} {enc : TypeId × Value → H} {W w : World} {base : Nat} {spare : Nat → Bool} {held : Bool}
set_option maxRecDepth 100000 in
theorem open_mark {fuel : Nat} {vs : List Value} {y : DataW H × List MemPlace} (h : DataW.trod enc Tryd.prog W base spare held fuel 24 vs = some y) :
    ∃ a b : Int, vs = [.int .i64 a, .int .i64 b] := by
  obtain ⟨y0, y1, n, hy, hl, e0, e1⟩ := trod_struct2 Tryd.underlying24 h
  rw [show Tryd.prog.cellsOf 24 = 2 by kernel_rfl] at hl
  simp only [show Tryd.prog.cellsOf 3 = 1 by kernel_rfl] at e0 e1
  obtain ⟨f, k0, h0, w0⟩ := DataW.trod_int Tryd.underlying3 e0
  obtain ⟨b, k1, h1, w1⟩ := DataW.trod_int Tryd.underlying3 e1
  match vs, hl with
  | [a, b'], _ =>
    simp at k0 k1
    subst k0 k1
    exact ⟨f, b, rfl⟩
set_option maxRecDepth 100000 in
theorem open_place {r : Reach} {b0 : Nat} {v : Value} {d : DataW H} {p : List MemPlace} (hv : Value.okWide Tryd.prog W r b0 26 v) (h : DataW.Trod enc Tryd.prog W 0 (fun _ => true) true 26 v d p) :
    ∃ k : Cp, v = .agg k.cells := by
  obtain ⟨cs, rfl, hsz⟩ := okWide_struct Tryd.underlying26 hv
  obtain ⟨fuel, hf⟩ := h
  obtain ⟨y0, y1, y2, n, hy, hl, e0, e1, e2⟩ := Deep.trod_struct3 Tryd.underlying26 hf
  rw [show Tryd.prog.cellsOf 26 = 5 by kernel_rfl] at hl
  simp only [show Tryd.prog.cellsOf 24 = 2 by kernel_rfl] at e0 e1
  simp only [show Tryd.prog.cellsOf 4 = 1 by kernel_rfl] at e2
  obtain ⟨a, b, k0⟩ := open_mark e0
  obtain ⟨c, d', k1⟩ := open_mark e1
  obtain ⟨o, k2, _⟩ := DataW.trod_bool Tryd.underlying4 e2
  refine ⟨⟨a, b, c, d', o⟩, ?_⟩
  have hcs : cs.toList = [.int .i64 a, .int .i64 b, .int .i64 c, .int .i64 d', .bool o] := by
    simp only [Value.cells] at hl k0 k1 k2
    match hc : cs.toList, hl with
    | [v0, v1, v2, v3, v4], _ =>
      rw [hc] at k0 k1 k2
      simp at k0 k1 k2
      obtain ⟨rfl, rfl⟩ := k0
      obtain ⟨rfl, rfl⟩ := k1
      subst k2
      rfl
  rw [← Array.toArray_toList (xs := cs), hcs]
  rfl
set_option maxRecDepth 100000 in
theorem open_lines {b0 : Nat} {v : Value} {d : DataW H} {p : List MemPlace} (hval : Value.okWide Tryd.prog W .any b0 22 v) (h : DataW.Trod enc Tryd.prog W 0 (fun _ => true) true 22 v d p) :
    ∃ L : List ByteArray, LsAt W v L := by
  obtain ⟨a0, len, cap, rfl⟩ := okWide_slice Tryd.underlying22 hval
  obtain ⟨fuel, hf⟩ := h
  rcases open_strings Tryd.underlying22 Tryd.underlying9 (by kernel_rfl) hf with ⟨hcs, hx⟩ | ⟨a, len', cap', zs, hcs, _, hl, hm, hz, hx, hcell, hwz⟩
  · simp [Value.cells] at hcs
    obtain ⟨rfl, rfl, rfl⟩ := hcs
    exact ⟨[], _, _, rfl, .inl rfl⟩
  · simp [Value.cells] at hcs
    obtain ⟨rfl, rfl, rfl⟩ := hcs
    simp only [if_true] at hz
    have hlen : (zs.take len).length = len := by simp; omega
    refine ⟨zs.take len, some a, cap, by rw [hlen], ?_⟩
    by_cases h0 : len = 0
    · left
      exact List.length_eq_zero_iff.1 (by omega)
    · right
      obtain ⟨b, off, spot⟩ := a
      have hspot : spot = none := by simpa [Addr.add] using World.cell?_spot (hcell 0 (by omega))
      subst hspot
      refine ⟨b, off, rfl, fun j x hj => ?_⟩
      obtain ⟨hjl, _⟩ := List.getElem?_eq_some_iff.1 hj
      have := hcell j (by omega)
      rw [add_plain] at this
      rw [this, List.getD_eq_getElem?_getD]
      rw [List.getElem?_take_of_lt (by omega)] at hj
      rw [hj]
      rfl
/-- The library's variable, out of the model's shape of memory. -/
theorem max_of {w : World} (h : w.ShapedOpen Tryd.prog) : MaxAt w :=
  cell_of_shapedOpen_int (t := 3) (zero := #[.int .i64 0]) h (of_decide_eq_true (by kernel_rfl)) (by kernel_rfl) rfl (by kernel_rfl) (by kernel_rfl) (by kernel_rfl)
end Cpy
end Go.Proofs.YtlodmffiengnaaaDoor
