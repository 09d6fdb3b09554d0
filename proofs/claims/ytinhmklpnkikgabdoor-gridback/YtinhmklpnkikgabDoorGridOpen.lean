/- A grid, a cell, a rectangle out of what the row reads. -/
import Derived.Test.YtinhmklpnkikgabDoorGridCheck
import Derived.Test.YtinhmklpnkikgabDoorGridRepeat
import Derived.Lib.LaidU8
import Derived.Deep.Strs
import Derived.Deep.Slices
import Derived.ChangeSlices
import Derived.SizedLaws
import Derived.Lib.SmallJoins
import Derived.Lib.Small
namespace Go.Proofs.YtinhmklpnkikgabDoor
open Go.ChangeShapes Go.WideShapes Go.ChangeAt Go.RowKit
namespace Grd
theorem i64_in {x : Int} (h : (Lit.int .i64 x).wf = true) : -9223372036854775808 ≤ x ∧ x ≤ 9223372036854775807 := by
  have e1 : IntKind.i64.min = -9223372036854775808 := rfl
  have e2 : IntKind.i64.max = 9223372036854775807 := rfl
  simpa [Lit.wf, e1, e2] using h
theorem i32_in {x : Int} (h : (Lit.int .i32 x).wf = true) : -2147483648 ≤ x ∧ x ≤ 2147483647 := by
  have e1 : IntKind.i32.min = -2147483648 := rfl
  have e2 : IntKind.i32.max = 2147483647 := rfl
  simpa [Lit.wf, e1, e2] using h
def CIn (c : C) : Prop := (-2147483648 ≤ c.1 ∧ c.1 ≤ 2147483647) ∧ (-9223372036854775808 ≤ c.2.1 ∧ c.2.1 ≤ 9223372036854775807) ∧ (-9223372036854775808 ≤ c.2.2.1 ∧ c.2.2.1 ≤ 9223372036854775807) ∧ (-9223372036854775808 ≤ c.2.2.2 ∧ c.2.2.2 ≤ 9223372036854775807)
section
variable {H : Type} {enc : TypeId × Value → H} {W : World} {base : Nat} {spare : Nat → Bool} {held : Bool}
theorem open_style {fuel : Nat} {vs : List Value} {y : DataW H × List MemPlace} (h : DataW.trod enc Tryd.prog W base spare held fuel 28 vs = some y) :
    ∃ f b x : Int, vs = [.int .i64 f, .int .i64 b, .int .i64 x] ∧ (-9223372036854775808 ≤ f ∧ f ≤ 9223372036854775807) ∧ (-9223372036854775808 ≤ b ∧ b ≤ 9223372036854775807) ∧ (-9223372036854775808 ≤ x ∧ x ≤ 9223372036854775807) ∧ y.1 = .agg [.lit (.int .i64 f), .lit (.int .i64 b), .lit (.int .i64 x)] := by
  obtain ⟨y0, y1, y2, n, hy, hl, e0, e1, e2⟩ := Deep.trod_struct3 Tryd.underlying28 h
  rw [show Tryd.prog.cellsOf 28 = 3 by kernel_rfl] at hl
  simp only [show Tryd.prog.cellsOf 3 = 1 by kernel_rfl] at e0 e1 e2
  obtain ⟨f, k0, h0, w0⟩ := DataW.trod_int Tryd.underlying3 e0
  obtain ⟨b, k1, h1, w1⟩ := DataW.trod_int Tryd.underlying3 e1
  obtain ⟨x, k2, h2, w2⟩ := DataW.trod_int Tryd.underlying3 e2
  match vs, hl with
  | [a, b', c], _ =>
    simp at k0 k1 k2
    subst k0 k1 k2
    exact ⟨f, b, x, rfl, i64_in w0, i64_in w1, i64_in w2, by rw [hy, h0, h1, h2]⟩
theorem open_cell {fuel : Nat} {vs : List Value} {y : DataW H × List MemPlace} (h : DataW.trod enc Tryd.prog W base spare held fuel 30 vs = some y) :
    ∃ c : C, vs = words c ∧ CIn c ∧ y.1 = .agg [.lit (.int .i32 c.1), .agg [.lit (.int .i64 c.2.1), .lit (.int .i64 c.2.2.1), .lit (.int .i64 c.2.2.2)]] := by
  obtain ⟨y0, y1, n, hy, hl, e0, e1⟩ := trod_struct2 Tryd.underlying30 h
  rw [show Tryd.prog.cellsOf 30 = 4 by kernel_rfl] at hl
  simp only [show Tryd.prog.cellsOf 21 = 1 by kernel_rfl] at e0
  simp only [show Tryd.prog.cellsOf 28 = 3 by kernel_rfl] at e1
  obtain ⟨r, k0, h0, w0⟩ := DataW.trod_int Tryd.underlying21 e0
  obtain ⟨f, b, x, k1, wf, wb, wx, h1⟩ := open_style e1
  match vs, hl with
  | [a, b', c, d], _ =>
    simp at k0 k1
    obtain ⟨rfl, rfl, rfl⟩ := k1
    subst k0
    exact ⟨(r, f, b, x), rfl, ⟨i32_in w0, wf, wb, wx⟩, by rw [hy, h0, h1]⟩
/-- A slice of cells, out of what the row reads. -/
theorem open_cells {fuel : Nat} {v : Value} {y : DataW H × List MemPlace} (h : DataW.trod enc Tryd.prog W 0 (fun _ => true) true fuel 22 [v] = some y) :
    ∃ cs : List C, SliceAt W v cs ∧ (∀ c ∈ cs, CIn c) ∧ (cs = [] ∨ ∃ elems sp, y.1 = .slice elems sp ∧ cs.length = elems.length) := by
  rcases Deep.open_slice und_cells h with ⟨hcs, _⟩ | ⟨a, len, cap, m, n, D, Pl, hcs, _, hl, hm, hmm, rfl, hx⟩
  · simp at hcs
    subst hcs
    exact ⟨[], .inl ⟨rfl, _, _, rfl⟩, by simp, .inl rfl⟩
  · simp at hcs
    subst hcs
    simp only [if_true] at hmm
    rw [show Tryd.prog.cellsOf 30 = 4 by kernel_rfl] at hx
    obtain ⟨f, hf⟩ := Deep.choose_lt (α := C) (p := fun i c => (∀ j, j < 4 → W.cell? ((a.add (i * 4)).add j) = (words c)[j]?) ∧ CIn c) (n := len) (fun i hi => by
      obtain ⟨cs', h1, h2⟩ := hx i (by omega)
      obtain ⟨_, _, hc⟩ := World.cells?_some h1
      obtain ⟨c, rfl, hin, _⟩ := open_cell h2
      exact ⟨c, hc, hin⟩)
    refine ⟨(List.range len).map f, ?_, ?_, .inr ⟨_, _, rfl, by simp⟩⟩
    · by_cases h0 : len = 0
      · subst h0
        exact .inl ⟨by simp, _, _, rfl⟩
      · obtain ⟨b, off, spot⟩ := a
        have hspot : spot = none := by
          have := (hf 0 (by omega)).1 0 (by omega)
          simpa [Addr.add] using World.cell?_spot this
        subst hspot
        have hlen : ((List.range len).map f).length = len := by simp
        refine .inr ⟨fun e => by rw [e] at hlen; simp at hlen; omega, b, off, cap, by rw [hlen], by omega, by unfold maxLen at hm; omega, fun j hj => ?_⟩
        rw [hlen] at hj
        have hg : ((List.range len).map f).getD j z0 = f j := by simp [List.getD, hj]
        rw [hg]
        have hc := (hf j hj).1
        have c0 := hc 0 (by omega)
        have c1 := hc 1 (by omega)
        have c2 := hc 2 (by omega)
        have c3 := hc 3 (by omega)
        rw [add_plain, add_plain] at c0 c1 c2 c3
        exact ⟨c0, c1, c2, c3⟩
    · intro c hc
      simp only [List.mem_map, List.mem_range] at hc
      obtain ⟨i, hi, rfl⟩ := hc
      exact (hf i hi).2
set_option maxRecDepth 100000 in
theorem open_grid {r : Reach} {b0 : Nat} {v : Value} {d : DataW H} {p : List MemPlace} (hv : Value.okWide Tryd.prog W r b0 24 v) (h : DataW.Trod enc Tryd.prog W 0 (fun _ => true) true 24 v d p) :
    ∃ (a q : Int) (u : Value) (cs : List C), v = .agg #[.int .i64 a, .int .i64 q, u] ∧ (-9223372036854775808 ≤ a ∧ a ≤ 9223372036854775807) ∧ (-9223372036854775808 ≤ q ∧ q ≤ 9223372036854775807) ∧ SliceAt W u cs ∧ (∀ c ∈ cs, CIn c) ∧ (cs = [] ∨ ∃ d0 d1 elems sp, d = .agg [d0, d1, .slice elems sp] ∧ cs.length = elems.length) := by
  obtain ⟨e0, e1, e2, y0, y1, y2, n, rfl, hd, _, t0, t1, t2⟩ := Joins.open_agg3 Tryd.underlying24 (by kernel_rfl) (by kernel_rfl) hv h
  obtain ⟨a, k0, _, w0⟩ := DataW.trod_int Tryd.underlying3 t0
  obtain ⟨q, k1, _, w1⟩ := DataW.trod_int Tryd.underlying3 t1
  obtain ⟨cs, hs, hin, hz⟩ := open_cells t2
  obtain rfl : e0 = _ := by simpa using k0
  obtain rfl : e1 = _ := by simpa using k1
  refine ⟨a, q, e2, cs, rfl, i64_in w0, i64_in w1, hs, hin, ?_⟩
  rcases hz with h | ⟨el, sp, hy, hl⟩
  · exact .inl h
  · exact .inr ⟨_, _, el, sp, by rw [hd, hy], hl⟩
theorem sized_grid {ts : List TypeId} {ds : List (DataW H)} {j : Nat} {d : DataW H} {cs : List C} (h : (DataW.weightsEach Tryd.prog ts ds).all (· ≤ reachBytes) = true) (ht : ts[j]? = some 24) (hd : ds[j]? = some d) (hz : cs = [] ∨ ∃ d0 d1 elems sp, d = .agg [d0, d1, .slice elems sp] ∧ cs.length = elems.length) : cs.length * 32 ≤ 140737488351232 := by
  rcases hz with rfl | ⟨d0, d1, el, sp, rfl, hl⟩
  · simp
  · have hm : (el.length + sp.length) * Tryd.prog.bytesOf 30 ∈ (DataW.agg [d0, d1, .slice el sp] : DataW H).weights Tryd.prog 24 := by
      unfold DataW.weights
      rw [Tryd.underlying24]
      simp only [List.map_cons, List.map_nil, DataW.weightsEach, List.mem_append]
      right; right; left
      unfold DataW.weights
      rw [und_cells]
      exact List.mem_cons_self ..
    have := of_decide_eq_true (List.all_eq_true.1 h _ (DataW.weights_mem_each ht hd _ hm))
    rw [show Tryd.prog.bytesOf 30 = 32 by kernel_rfl, reachBytes] at this
    rw [hl]
    omega
set_option maxRecDepth 100000 in
theorem open_rect {r : Reach} {b0 : Nat} {v : Value} {d : DataW H} {p : List MemPlace} (hv : Value.okWide Tryd.prog W r b0 26 v) (h : DataW.Trod enc Tryd.prog W 0 (fun _ => true) true 26 v d p) :
    ∃ (a b c e : Int), v = .agg #[.int .i64 a, .int .i64 b, .int .i64 c, .int .i64 e] ∧ (-9223372036854775808 ≤ a ∧ a ≤ 9223372036854775807) ∧ (-9223372036854775808 ≤ b ∧ b ≤ 9223372036854775807) ∧ (-9223372036854775808 ≤ c ∧ c ≤ 9223372036854775807) ∧ (-9223372036854775808 ≤ e ∧ e ≤ 9223372036854775807) := by
  obtain ⟨e0, e1, e2, e3, y0, y1, y2, y3, n, rfl, hd, _, t0, t1, t2, t3⟩ := Joins.open_agg4 Tryd.underlying26 (by kernel_rfl) (by kernel_rfl) hv h
  obtain ⟨a, k0, _, w0⟩ := DataW.trod_int Tryd.underlying3 t0
  obtain ⟨b, k1, _, w1⟩ := DataW.trod_int Tryd.underlying3 t1
  obtain ⟨c, k2, _, w2⟩ := DataW.trod_int Tryd.underlying3 t2
  obtain ⟨e, k3, _, w3⟩ := DataW.trod_int Tryd.underlying3 t3
  obtain rfl : e0 = _ := by simpa using k0
  obtain rfl : e1 = _ := by simpa using k1
  obtain rfl : e2 = _ := by simpa using k2
  obtain rfl : e3 = _ := by simpa using k3
  exact ⟨a, b, c, e, rfl, i64_in w0, i64_in w1, i64_in w2, i64_in w3⟩
set_option maxRecDepth 100000 in
theorem open_cellV {r : Reach} {b0 : Nat} {v : Value} {d : DataW H} {p : List MemPlace} (hv : Value.okWide Tryd.prog W r b0 30 v) (h : DataW.Trod enc Tryd.prog W 0 (fun _ => true) true 30 v d p) :
    ∃ (a b c e : Int), v = .agg #[.int .i32 a, .int .i64 b, .int .i64 c, .int .i64 e] ∧ CIn (a, b, c, e) := by
  obtain ⟨cs, rfl, hsz⟩ := okWide_struct Tryd.underlying30 hv
  obtain ⟨fuel, hf⟩ := h
  obtain ⟨⟨a, b, c, e⟩, hcs, hin, _⟩ := open_cell hf
  refine ⟨a, b, c, e, ?_, hin⟩
  have : cs.toList = words (a, b, c, e) := hcs
  rw [← Array.toArray_toList (xs := cs), this]
  rfl
end
end Grd
end Go.Proofs.YtinhmklpnkikgabDoor
