/- Items out of what the row reads, with their number. -/
import Derived.Test.YtbhoklhcdefabaaDoorFmtTab
import Derived.Test.YtbhoklhcdefabaaDoorFmtIdx
import Derived.Lib.LaidU8
import Derived.Deep.Strs
import Derived.Deep.Slices
import Derived.SliceStrings
import Derived.SizedLaws
import Derived.Shelf.Vars
namespace Go.Proofs.YtbhoklhcdefabaaDoor
open Go.ChangeShapes Go.WideShapes Go.ChangeAt Go.RowKit
open Go.Shelf
namespace Fmt
variable {H : Type} {enc : TypeId × Value → H} {W w : World} {base : Nat} {spare : Nat → Bool} {held : Bool}
theorem und_items : Tryd.prog.underlying 22 = some (.slice 27) := by kernel_rfl
set_option maxRecDepth 100000 in
theorem open_item {fuel : Nat} {vs : List Value} {y : DataW H × List MemPlace} (h : DataW.trod enc Tryd.prog W base spare held fuel 27 vs = some y) :
    ∃ a b : ByteArray, vs = [.string a, .string b] := by
  obtain ⟨y0, y1, n, hy, hl, e0, e1⟩ := trod_struct2 Tryd.underlying27 h
  rw [show Tryd.prog.cellsOf 27 = 2 by kernel_rfl] at hl
  simp only [show Tryd.prog.cellsOf 9 = 1 by kernel_rfl] at e0 e1
  obtain ⟨f, k0, h0, w0⟩ := DataW.trod_string Tryd.underlying9 e0
  obtain ⟨b, k1, h1, w1⟩ := DataW.trod_string Tryd.underlying9 e1
  match vs, hl with
  | [a, b'], _ =>
    simp at k0 k1
    subst k0 k1
    exact ⟨f, b, rfl⟩
set_option maxRecDepth 100000 in
theorem open_items {r : Reach} {b0 : Nat} {v : Value} {d : DataW H} {p : List MemPlace} (hval : Value.okWide Tryd.prog W r b0 22 v) (h : DataW.Trod enc Tryd.prog W 0 (fun _ => true) true 22 v d p) :
    ∃ (I : List (ByteArray × ByteArray)) (pa : Option Addr) (pc : Nat), v = .slice pa I.length pc ∧ ItAt W (.slice pa I.length pc) I ∧ (I = [] ∨ ∃ elems sp, d = .slice elems sp ∧ I.length = elems.length) := by
  obtain ⟨a0, len0, cap0, rfl⟩ := okWide_slice und_items hval
  obtain ⟨fuel, hf⟩ := h
  rcases Deep.open_slice und_items hf with ⟨hcs, _⟩ | ⟨a, len, cap, m, n, D, Pl, hcs, _, hl, hm, hmm, hx', hx⟩
  · simp [Value.cells] at hcs
    obtain ⟨rfl, rfl, rfl⟩ := hcs
    exact ⟨[], none, 0, rfl, ⟨none, 0, rfl, .inl rfl⟩, .inl rfl⟩
  · simp [Value.cells] at hcs
    obtain ⟨rfl, rfl, rfl⟩ := hcs
    simp only [Prod.mk.injEq] at hx'
    obtain ⟨hd, -⟩ := hx'
    simp only [if_true] at hmm
    rw [show Tryd.prog.cellsOf 27 = 2 by kernel_rfl] at hx
    obtain ⟨f, hf⟩ := Deep.choose_lt (α := ByteArray × ByteArray) (p := fun i x => ∀ j, j < 2 → W.cell? ((a.add (i * 2)).add j) = ([Value.string x.1, Value.string x.2])[j]?) (n := len0) (fun i hi => by
      obtain ⟨cs', h1, h2⟩ := hx i (by omega)
      obtain ⟨_, _, hc⟩ := World.cells?_some h1
      obtain ⟨u, z, rfl⟩ := open_item h2
      exact ⟨(u, z), hc⟩)
    have hlen : ((List.range len0).map f).length = len0 := by simp
    refine ⟨(List.range len0).map f, some a, cap0, by rw [hlen], ⟨some a, cap0, rfl, ?_⟩, .inr ⟨_, _, hd, by simp⟩⟩
    by_cases h0 : len0 = 0
    · subst h0
      exact .inl (by simp)
    · obtain ⟨b, off, spot⟩ := a
      have hspot : spot = none := by
        have := hf 0 (by omega) 0 (by omega)
        simpa [Addr.add] using World.cell?_spot this
      subst hspot
      refine .inr ⟨b, off, rfl, fun j x hj => ?_⟩
      obtain ⟨hjl, hje⟩ := List.getElem?_eq_some_iff.1 hj
      rw [hlen] at hjl
      have hxx : x = f j := by rw [← hje]; simp
      subst hxx
      have hc := hf j hjl
      have c0 := hc 0 (by omega)
      have c1 := hc 1 (by omega)
      rw [add_plain, add_plain] at c0 c1
      exact ⟨c0, c1⟩
theorem sized_items {ts : List TypeId} {ds : List (DataW H)} {I : List (ByteArray × ByteArray)} {d : DataW H} (h : (DataW.weightsEach Tryd.prog ts ds).all (· ≤ reachBytes) = true) {j : Nat} (ht : ts[j]? = some 22) (hd : ds[j]? = some d) (hs : I = [] ∨ ∃ elems sp, d = .slice elems sp ∧ I.length = elems.length) :
    I.length * 32 ≤ 140737488355328 := by
  have hr := reachBytes_lt
  rcases hs with rfl | ⟨el, sp, rfl, hl⟩
  · simp
  · have h1 := sized_slice h ht hd und_items
    rw [show Tryd.prog.bytesOf 27 = 32 by kernel_rfl] at h1
    rw [hl]
    omega
end Fmt
end Go.Proofs.YtbhoklhcdefabaaDoor
