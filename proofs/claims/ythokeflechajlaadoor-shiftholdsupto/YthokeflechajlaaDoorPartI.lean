/- A screen out of what the row reads, and how many values it holds. -/
import Derived.Test.YthokeflechajlaaDoorPartE
import Derived.Test.YthokeflechajlaaDoorPartH
import Derived.Test.YthokeflechajlaaDoorRows
import Derived.Deep.Slices
import Derived.Test.YthokeflechajlaaDoorPartG
import Derived.Shelf.SlicesE.Delete
import Derived.Lib.OwnBridge
import Derived.Lib.JoinLaws
import Derived.Lib.AppendZeros
import Derived.Lib.Overlaps
import Derived.Laws.Externs
import Derived.Laws.IdiomCopy
import Derived.Shelf.RegionOpenPlain
import Derived.Test.YthokeflechajlaaDoorPartF
import Derived.Deep.RegionWith
import Derived.Deep.RegionHeld3
import Derived.BigRegion
import Derived.BigQuiet
namespace Go.Proofs.YthokeflechajlaaDoor
open Go.ChangeShapes Go.WideShapes Go.ChangeAt Go.RowKit
namespace Put
open Grd (C SliceAt CellsAt CIn i64_in i32_in)
section
variable {H : Type} {enc : TypeId × Value → H} {W : World}
theorem bulk_pos (d : DataW H) : 1 ≤ Rows.uptoBulk d := by
  cases d with
  | lit l => cases l <;> simp [Rows.uptoBulk]
  | _ => simp [Rows.uptoBulk]
theorem bulk_mem {d : DataW H} : ∀ {l : List (DataW H)}, d ∈ l → Rows.uptoBulk d ≤ Rows.uptoBulkAll l
  | x :: l, h => by
    rcases List.mem_cons.1 h with rfl | h
    · simp only [Rows.uptoBulkAll]; omega
    · have := bulk_mem h
      simp only [Rows.uptoBulkAll]; omega
theorem bulk_len : ∀ (l : List (DataW H)), l.length ≤ Rows.uptoBulkAll l
  | [] => by simp
  | x :: l => by
    have := bulk_len l
    have := bulk_pos x
    simp only [Rows.uptoBulkAll, List.length_cons]; omega
theorem trod_struct4 {P : Program} {base : Nat} {spare : Nat → Bool} {held : Bool} {t : TypeId} {f0 f1 f2 f3 : Field} {fuel : Nat} {cs : List Value} {x : DataW H × List MemPlace} (ht : P.underlying t = some (.struct #[f0, f1, f2, f3])) (h : DataW.trod enc P W base spare held fuel t cs = some x) :
    ∃ y0 y1 y2 y3 n, x.1 = .agg [y0.1, y1.1, y2.1, y3.1] ∧ cs.length = P.cellsOf t ∧ DataW.trod enc P W base spare held n f0.type ((cs.drop f0.offset).take (P.cellsOf f0.type)) = some y0 ∧
      DataW.trod enc P W base spare held n f1.type ((cs.drop f1.offset).take (P.cellsOf f1.type)) = some y1 ∧
      DataW.trod enc P W base spare held n f2.type ((cs.drop f2.offset).take (P.cellsOf f2.type)) = some y2 ∧
      DataW.trod enc P W base spare held n f3.type ((cs.drop f3.offset).take (P.cellsOf f3.type)) = some y3 := by
  obtain ⟨xs, n, _, rfl, hl, hlen, hf⟩ := DataW.trod_struct ht h
  match xs, hlen with
  | [y0, y1, y2, y3], _ => exact ⟨y0, y1, y2, y3, n, by simp, hl, by simpa using hf 0 f0 rfl, by simpa using hf 1 f1 rfl, by simpa using hf 2 f2 rfl, by simpa using hf 3 f3 rfl⟩
theorem trod_struct13 {P : Program} {base : Nat} {spare : Nat → Bool} {held : Bool} {t : TypeId} {f0 f1 f2 f3 f4 f5 f6 f7 f8 f9 f10 f11 f12 : Field} {fuel : Nat} {cs : List Value} {x : DataW H × List MemPlace} (ht : P.underlying t = some (.struct #[f0, f1, f2, f3, f4, f5, f6, f7, f8, f9, f10, f11, f12])) (h : DataW.trod enc P W base spare held fuel t cs = some x) :
    ∃ y0 y1 y2 y3 y4 y5 y6 y7 y8 y9 y10 y11 y12 n, x.1 = .agg [y0.1, y1.1, y2.1, y3.1, y4.1, y5.1, y6.1, y7.1, y8.1, y9.1, y10.1, y11.1, y12.1] ∧ cs.length = P.cellsOf t ∧ DataW.trod enc P W base spare held n f0.type ((cs.drop f0.offset).take (P.cellsOf f0.type)) = some y0 ∧
      DataW.trod enc P W base spare held n f1.type ((cs.drop f1.offset).take (P.cellsOf f1.type)) = some y1 ∧
      DataW.trod enc P W base spare held n f2.type ((cs.drop f2.offset).take (P.cellsOf f2.type)) = some y2 ∧
      DataW.trod enc P W base spare held n f3.type ((cs.drop f3.offset).take (P.cellsOf f3.type)) = some y3 ∧
      DataW.trod enc P W base spare held n f4.type ((cs.drop f4.offset).take (P.cellsOf f4.type)) = some y4 ∧
      DataW.trod enc P W base spare held n f5.type ((cs.drop f5.offset).take (P.cellsOf f5.type)) = some y5 ∧
      DataW.trod enc P W base spare held n f6.type ((cs.drop f6.offset).take (P.cellsOf f6.type)) = some y6 ∧
      DataW.trod enc P W base spare held n f7.type ((cs.drop f7.offset).take (P.cellsOf f7.type)) = some y7 ∧
      DataW.trod enc P W base spare held n f8.type ((cs.drop f8.offset).take (P.cellsOf f8.type)) = some y8 ∧
      DataW.trod enc P W base spare held n f9.type ((cs.drop f9.offset).take (P.cellsOf f9.type)) = some y9 ∧
      DataW.trod enc P W base spare held n f10.type ((cs.drop f10.offset).take (P.cellsOf f10.type)) = some y10 ∧
      DataW.trod enc P W base spare held n f11.type ((cs.drop f11.offset).take (P.cellsOf f11.type)) = some y11 ∧
      DataW.trod enc P W base spare held n f12.type ((cs.drop f12.offset).take (P.cellsOf f12.type)) = some y12 := by
  obtain ⟨xs, n, _, rfl, hl, hlen, hf⟩ := DataW.trod_struct ht h
  match xs, hlen with
  | [y0, y1, y2, y3, y4, y5, y6, y7, y8, y9, y10, y11, y12], _ => exact ⟨y0, y1, y2, y3, y4, y5, y6, y7, y8, y9, y10, y11, y12, n, by simp, hl, by simpa using hf 0 f0 rfl, by simpa using hf 1 f1 rfl, by simpa using hf 2 f2 rfl, by simpa using hf 3 f3 rfl, by simpa using hf 4 f4 rfl, by simpa using hf 5 f5 rfl, by simpa using hf 6 f6 rfl, by simpa using hf 7 f7 rfl, by simpa using hf 8 f8 rfl, by simpa using hf 9 f9 rfl, by simpa using hf 10 f10 rfl, by simpa using hf 11 f11 rfl, by simpa using hf 12 f12 rfl⟩
theorem cells_bulk {cs : List C} {d : DataW H} (h : cs = [] ∨ ∃ elems sp, d = .slice elems sp ∧ cs.length = elems.length) : cs.length ≤ Rows.uptoBulk d := by
  rcases h with rfl | ⟨el, sp, rfl, hl⟩
  · simp
  · have := bulk_len el
    rw [hl]
    simp only [Rows.uptoBulk]
    omega
/-- A slice of bools. -/
theorem open_bools {fuel : Nat} {v : Value} {y : DataW H × List MemPlace} (h : DataW.trod enc Tryd.prog W 0 (fun _ => true) true fuel 27 [v] = some y) :
    ∃ l : List Bool, BoolsV W v l ∧ l.length ≤ Rows.uptoBulk y.1 := by
  rcases Deep.open_slice und_bools h with ⟨hcs, _⟩ | ⟨a, len, cap, m, n, D, Pl, hcs, _, hl, hm, hmm, rfl, hx⟩
  · simp at hcs
    subst hcs
    exact ⟨[], .inl ⟨rfl, _, _, rfl⟩, by simp⟩
  · simp at hcs
    subst hcs
    simp only [if_true] at hmm
    rw [show Tryd.prog.cellsOf 4 = 1 by kernel_rfl] at hx
    obtain ⟨f, hf⟩ := Deep.choose_lt (α := Bool) (p := fun i c => W.cell? ((a.add (i * 1)).add 0) = some (.bool c)) (n := len) (fun i hi => by
      obtain ⟨cs', h1, h2⟩ := hx i (by omega)
      obtain ⟨_, _, hc⟩ := World.cells?_some h1
      obtain ⟨c, rfl, _⟩ := DataW.trod_bool Tryd.underlying4 h2
      exact ⟨c, hc 0 (by omega)⟩)
    have hlen : ((List.range len).map f).length = len := by simp
    refine ⟨(List.range len).map f, ?_, ?_⟩
    · by_cases h0 : len = 0
      · subst h0
        exact .inl ⟨by simp, _, _, rfl⟩
      · obtain ⟨b, off, spot⟩ := a
        have hspot : spot = none := by
          have := hf 0 (by omega)
          simpa [Addr.add] using World.cell?_spot this
        subst hspot
        refine .inr ⟨b, off, cap, by rw [hlen], by rw [hlen]; omega, by unfold maxLen at hm; omega, fun j hj => ?_⟩
        rw [hlen] at hj
        have hg : ((List.range len).map f).getD j false = f j := by simp [List.getD, hj]
        rw [hg]
        have hc := hf j hj
        rw [add_plain, add_plain] at hc
        simpa using hc
    · rw [hlen]
      have h := bulk_len ((List.range len).map D)
      rw [List.length_map, List.length_range] at h
      simp only [Rows.uptoBulk]
      omega
/-- A slice of rows. -/
theorem open_rows {fuel : Nat} {v : Value} {y : DataW H × List MemPlace} (h : DataW.trod enc Tryd.prog W 0 (fun _ => true) true fuel 30 [v] = some y) :
    ∃ l : List (List C), RowsV W v l ∧ l.length ≤ Rows.uptoBulk y.1 ∧ ∀ row ∈ l, row.length ≤ Rows.uptoBulk y.1 := by
  rcases Deep.open_slice und_rows h with ⟨hcs, _⟩ | ⟨a, len, cap, m, n, D, Pl, hcs, _, hl, hm, hmm, rfl, hx⟩
  · simp at hcs
    subst hcs
    exact ⟨[], .inl ⟨rfl, _, _, rfl⟩, by simp, by simp⟩
  · simp at hcs
    subst hcs
    simp only [if_true] at hmm
    rw [show Tryd.prog.cellsOf 22 = 1 by kernel_rfl] at hx
    obtain ⟨f, hf⟩ := Deep.choose_lt (α := List C) (p := fun i row => ∃ rv, W.cell? ((a.add (i * 1)).add 0) = some rv ∧ SliceAt W rv row ∧ row.length ≤ Rows.uptoBulk (D i)) (n := len) (fun i hi => by
      obtain ⟨cs', h1, h2⟩ := hx i (by omega)
      obtain ⟨hlen1, _, hc⟩ := World.cells?_some h1
      match cs', hlen1 with
      | [rv], _ =>
        obtain ⟨row, hs, -, hb⟩ := Grd.open_cells h2
        exact ⟨row, rv, hc 0 (by omega), hs, cells_bulk hb⟩)
    have hlen : ((List.range len).map f).length = len := by simp
    refine ⟨(List.range len).map f, ?_, ?_, ?_⟩
    · by_cases h0 : len = 0
      · subst h0
        exact .inl ⟨by simp, _, _, rfl⟩
      · obtain ⟨b, off, spot⟩ := a
        have hspot : spot = none := by
          obtain ⟨rv, hc, -⟩ := hf 0 (by omega)
          simpa [Addr.add] using World.cell?_spot hc
        subst hspot
        refine .inr ⟨b, off, cap, by rw [hlen], by rw [hlen]; omega, by unfold maxLen at hm; omega, fun j hj => ?_⟩
        rw [hlen] at hj
        have hg : ((List.range len).map f).getD j [] = f j := by simp [List.getD, hj]
        rw [hg]
        obtain ⟨rv, hc, hs, -⟩ := hf j hj
        rw [add_plain, add_plain] at hc
        exact ⟨rv, by simpa using hc, hs⟩
    · rw [hlen]
      have h := bulk_len ((List.range len).map D)
      rw [List.length_map, List.length_range] at h
      simp only [Rows.uptoBulk]
      omega
    · intro row hrow
      simp only [List.mem_map, List.mem_range] at hrow
      obtain ⟨i, hi, rfl⟩ := hrow
      obtain ⟨rv, -, -, hb⟩ := hf i hi
      have h1 : Rows.uptoBulk (D i) ≤ Rows.uptoBulkAll ((List.range len).map D) := bulk_mem (List.mem_map.2 ⟨i, List.mem_range.2 hi, rfl⟩)
      simp only [Rows.uptoBulk]
      omega
set_option maxRecDepth 100000 in
theorem open_kept {fuel : Nat} {vs : List Value} {y : DataW H × List MemPlace} (h : DataW.trod enc Tryd.prog W 0 (fun _ => true) true fuel 29 vs = some y) :
    ∃ x y' f b c m : Int, vs = [.int .i64 x, .int .i64 y', .int .i64 f, .int .i64 b, .int .i64 c, .int .i64 m] ∧ (-9223372036854775808 ≤ m ∧ m ≤ 9223372036854775807) := by
  obtain ⟨y0, y1, y2, y3, n, -, hl, e0, e1, e2, e3⟩ := trod_struct4 Tryd.underlying29 h
  rw [show Tryd.prog.cellsOf 29 = 6 by kernel_rfl] at hl
  match vs, hl with
  | [v0, v1, v2, v3, v4, v5], _ =>
    simp only [show Tryd.prog.cellsOf 3 = 1 by kernel_rfl, show Tryd.prog.cellsOf 26 = 3 by kernel_rfl] at e0 e1 e2 e3
    obtain ⟨a0, k0, _, w0⟩ := DataW.trod_int Tryd.underlying3 e0
    obtain ⟨a1, k1, _, w1⟩ := DataW.trod_int Tryd.underlying3 e1
    obtain ⟨f, b, x, k2, -⟩ := Grd.open_style e2
    obtain ⟨a3, k3, _, w3⟩ := DataW.trod_int Tryd.underlying3 e3
    obtain rfl : v0 = _ := by simpa using k0
    obtain rfl : v1 = _ := by simpa using k1
    obtain ⟨rfl, rfl, rfl⟩ : v2 = _ ∧ v3 = _ ∧ v4 = _ := by simpa using k2
    obtain rfl : v5 = _ := by simpa using k3
    exact ⟨a0, a1, f, b, x, a3, rfl, i64_in w3⟩
set_option maxRecDepth 100000 in
theorem open_grid3 {fuel : Nat} {vs : List Value} {y : DataW H × List MemPlace} (h : DataW.trod enc Tryd.prog W 0 (fun _ => true) true fuel 24 vs = some y) :
    ∃ (a b : Int) (u : Value) (cs : List C), vs = [.int .i64 a, .int .i64 b, u] ∧ SliceAt W u cs ∧ cs.length ≤ Rows.uptoBulk y.1 := by
  obtain ⟨y0, y1, y2, n, hy, hl, e0, e1, e2⟩ := Deep.trod_struct3 Tryd.underlying24 h
  rw [show Tryd.prog.cellsOf 24 = 3 by kernel_rfl] at hl
  match vs, hl with
  | [v0, v1, v2], _ =>
    simp only [show Tryd.prog.cellsOf 3 = 1 by kernel_rfl, show Tryd.prog.cellsOf 22 = 1 by kernel_rfl] at e0 e1 e2
    obtain ⟨a0, k0, _, w0⟩ := DataW.trod_int Tryd.underlying3 e0
    obtain ⟨a1, k1, _, w1⟩ := DataW.trod_int Tryd.underlying3 e1
    obtain ⟨cs, hs, -, hb⟩ := Grd.open_cells (show DataW.trod enc Tryd.prog W 0 (fun _ => true) true n 22 [v2] = some y2 from e2)
    obtain rfl : v0 = _ := by simpa using k0
    obtain rfl : v1 = _ := by simpa using k1
    refine ⟨a0, a1, v2, cs, rfl, hs, ?_⟩
    have h1 := cells_bulk hb
    rw [hy]
    simp only [Rows.uptoBulk, Rows.uptoBulkAll]
    omega
set_option maxRecDepth 100000 in
set_option maxHeartbeats 1000000 in
theorem open_screen {r : Reach} {b0 : Nat} {v : Value} {d : DataW H} {p : List MemPlace} (hv : Value.okWide Tryd.prog W r b0 32 v) (h : DataW.Trod enc Tryd.prog W 0 (fun _ => true) true 32 v d p) :
    ∃ (s : Scr) (cv tv gv : Value), v = .agg (scrA s cv tv gv) ∧ ScrV W s cv tv gv ∧ ((-9223372036854775808 ≤ s.modes ∧ s.modes ≤ 9223372036854775807) ∧ (-9223372036854775808 ≤ s.km ∧ s.km ≤ 9223372036854775807) ∧ (-2147483648 ≤ s.last ∧ s.last ≤ 2147483647)) ∧ s.title.size ≤ Rows.uptoBulk d ∧ s.gone.length ≤ Rows.uptoBulk d ∧ s.tabs.length ≤ Rows.uptoBulk d ∧ s.cs.length ≤ Rows.uptoBulk d ∧ ∀ row ∈ s.gone, row.length ≤ Rows.uptoBulk d := by
  obtain ⟨cs, rfl, hsz⟩ := okWide_struct Tryd.underlying32 hv
  obtain ⟨fuel, hf⟩ := h
  obtain ⟨y0, y1, y2, y3, y4, y5, y6, y7, y8, y9, y10, y11, y12, n, hx, hl, h0, h1, h2, h3, h4, h5, h6, h7, h8, h9, h10, h11, h12⟩ := trod_struct13 Tryd.underlying32 hf
  rw [show Tryd.prog.cellsOf 32 = 22 by kernel_rfl] at hl
  obtain ⟨l⟩ := cs
  match l, hl with
  | [c0, c1, c2, c3, c4, c5, c6, c7, c8, c9, c10, c11, c12, c13, c14, c15, c16, c17, c18, c19, c20, c21], _ =>
    simp only [show Tryd.prog.cellsOf 3 = 1 by kernel_rfl, show Tryd.prog.cellsOf 21 = 1 by kernel_rfl, show Tryd.prog.cellsOf 9 = 1 by kernel_rfl, show Tryd.prog.cellsOf 4 = 1 by kernel_rfl, show Tryd.prog.cellsOf 27 = 1 by kernel_rfl, show Tryd.prog.cellsOf 30 = 1 by kernel_rfl, show Tryd.prog.cellsOf 24 = 3 by kernel_rfl, show Tryd.prog.cellsOf 26 = 3 by kernel_rfl, show Tryd.prog.cellsOf 29 = 6 by kernel_rfl, Value.cells] at h0 h1 h2 h3 h4 h5 h6 h7 h8 h9 h10 h11 h12
    obtain ⟨a0, a1, u, gcs, k0, hs0, hb0⟩ := open_grid3 h0
    obtain ⟨a3, k1, _, w1⟩ := DataW.trod_int Tryd.underlying3 h1
    obtain ⟨a4, k2, _, w2⟩ := DataW.trod_int Tryd.underlying3 h2
    obtain ⟨a5, k3, _⟩ := DataW.trod_bool Tryd.underlying4 h3
    obtain ⟨f, b, x, k4, -⟩ := Grd.open_style h4
    obtain ⟨a9, k5, _, w5⟩ := DataW.trod_int Tryd.underlying3 h5
    obtain ⟨a10, k6, _, w6⟩ := DataW.trod_int Tryd.underlying3 h6
    obtain ⟨a11, k7, _, w7⟩ := DataW.trod_int Tryd.underlying3 h7
    obtain ⟨tl, hs8, hb8⟩ := open_bools (show DataW.trod enc Tryd.prog W 0 (fun _ => true) true n 27 [c12] = some y8 from h8)
    obtain ⟨b13, b14, b15, b16, b17, b18, k9, w9⟩ := open_kept h9
    obtain ⟨a19, k10, _, w10⟩ := DataW.trod_int Tryd.underlying21 h10
    obtain ⟨a20, k11, g11, w11⟩ := DataW.trod_string Tryd.underlying9 h11
    obtain ⟨gl, hs12, hb12, hr12⟩ := open_rows (show DataW.trod enc Tryd.prog W 0 (fun _ => true) true n 30 [c21] = some y12 from h12)
    obtain ⟨rfl, rfl, rfl⟩ : c0 = _ ∧ c1 = _ ∧ c2 = _ := by simpa using k0
    obtain rfl : c3 = _ := by simpa using k1
    obtain rfl : c4 = _ := by simpa using k2
    obtain rfl : c5 = _ := by simpa using k3
    obtain ⟨rfl, rfl, rfl⟩ : c6 = _ ∧ c7 = _ ∧ c8 = _ := by simpa using k4
    obtain rfl : c9 = _ := by simpa using k5
    obtain rfl : c10 = _ := by simpa using k6
    obtain rfl : c11 = _ := by simpa using k7
    obtain ⟨rfl, rfl, rfl, rfl, rfl, rfl⟩ : c13 = _ ∧ c14 = _ ∧ c15 = _ ∧ c16 = _ ∧ c17 = _ ∧ c18 = _ := by simpa using k9
    obtain rfl : c19 = _ := by simpa using k10
    obtain rfl : c20 = _ := by simpa using k11
    have hb : Rows.uptoBulk d = Rows.uptoBulk y0.1 + (Rows.uptoBulk y1.1 + (Rows.uptoBulk y2.1 + (Rows.uptoBulk y3.1 + (Rows.uptoBulk y4.1 + (Rows.uptoBulk y5.1 + (Rows.uptoBulk y6.1 + (Rows.uptoBulk y7.1 + (Rows.uptoBulk y8.1 + (Rows.uptoBulk y9.1 + (Rows.uptoBulk y10.1 + (Rows.uptoBulk y11.1 + (Rows.uptoBulk y12.1 + 0)))))))))))) + 1 := by
      rw [show d = _ from hx]
      simp only [Rows.uptoBulk, Rows.uptoBulkAll]
    have b11 : Rows.uptoBulk y11.1 = a20.data.toList.length + 1 := by rw [g11]; simp only [Rows.uptoBulk]
    have s11 : a20.size = a20.data.toList.length := by rw [Array.length_toList]; rfl
    exact ⟨⟨a0, a1, gcs, a3, a4, a5, f, b, x, a9, a10, a11, tl, b13, b14, b15, b16, b17, b18, a19, a20, gl⟩, c2, c12, c21, rfl, ⟨hs0, hs8, hs12⟩, ⟨i64_in w7, w9, i32_in w10⟩, by show a20.size ≤ _; omega, by show gl.length ≤ _; omega, by show tl.length ≤ _; omega, by show gcs.length ≤ _; omega, fun row hrow => by have := hr12 row hrow; omega⟩
theorem fits_of {s : Scr} {k : Nat} (h : (-9223372036854775808 ≤ s.modes ∧ s.modes ≤ 9223372036854775807) ∧ (-9223372036854775808 ≤ s.km ∧ s.km ≤ 9223372036854775807) ∧ (-2147483648 ≤ s.last ∧ s.last ≤ 2147483647)) (h1 : s.title.size ≤ k) (h2 : s.gone.length ≤ k) (h3 : s.tabs.length ≤ k) (hk : k ≤ 1048576) : Fits s := ⟨h.1.1, h.1.2, h.2.1.1, h.2.1.2, by omega, by omega, by omega⟩
end
end Put
end Go.Proofs.YthokeflechajlaaDoor

/- slices.Delete of one row. -/
namespace Go.Proofs.YthokeflechajlaaDoor
open Go.ChangeShapes Go.WideShapes Go.ChangeAt Go.RowKit
namespace Put
open Grd (C nilV)
def delRen : Go.Shelf.Ren := ⟨fun | 45 => 77 | n => n, fun | 0 => 0 | 3 => 3 | 4 => 4 | 22 => 30 | 23 => 22 | n => n, fun | n => n⟩
theorem delLays : SlLaysE.n45 Tryd.prog delRen := {
  mixed := by kernel_rfl
  f45 := Exists.intro "slices.Delete[[][]trellis/api.Cell,[]trellis/api.Cell]" ⟨by kernel_rfl, Tryd.func77.trans (congrArg some (by kernel_rfl))⟩
  t0 := Tryd.underlying0
  a0 := Tryd.isAgg0
  z0 := Tryd.sizeOf0
  v0 := Tryd.zeroValue0
  t3 := Tryd.underlying3
  a3 := Tryd.isAgg3
  z3 := Tryd.sizeOf3
  v3 := Tryd.zeroValue3
  t4 := Tryd.underlying4
  a4 := Tryd.isAgg4
  z4 := Tryd.sizeOf4
  v4 := Tryd.zeroValue4
  t22 := Tryd.underlying30
  a22 := Tryd.isAgg30
  z22 := Tryd.sizeOf30
  v22 := Tryd.zeroValue30
  a23 := Tryd.isAgg22
  z23 := Tryd.sizeOf22 }
/-- A slice's words. -/
abbrev Sl := Option Addr × Nat × Nat
def encS (x : Sl) : Value := .slice x.1 x.2.1 x.2.2
theorem encS_one : OneCell encS := fun _ => rfl
def IsSl (v : Value) : Prop := ∃ x : Sl, v = encS x
theorem sls_of : ∀ (vs : List Value), (∀ v, v ∈ vs → IsSl v) → ∃ zs : List Sl, vs = zs.map encS
  | [], _ => ⟨[], rfl⟩
  | v :: vs, h => by
    obtain ⟨x, hx⟩ := h v (by simp)
    obtain ⟨zs, hz⟩ := sls_of vs fun u hu => h u (by simp [hu])
    exact ⟨x :: zs, by rw [hx, hz]; rfl⟩
theorem info_rows1 : (Tryd.prog.info? 22).map (·.size) = some 1 := by kernel_rfl
theorem putRow_other {w : World} {g q k : Nat} {d : Array Sl} (h : k ≠ g) : (Sort.putRow encS (Sort.ahead w q) g 0 d).heap[k]? = w.heap[k]? := by
  simp [Sort.putRow, Sort.mapBlock, Sort.ahead, Array.getElem?_modify, Ne.symm h]
/-- One row goes. -/
theorem delete_own (N g n cap i : Nat) (vs : List Value) (w : World) (h : w.ownsRow N 22 1 (.slice (some ⟨g, 0, none⟩) n cap) n vs) (hv : ∀ v, v ∈ vs → IsSl v) (hi : i < n) :
    Calls Tryd.prog 77 #[.slice (some ⟨g, 0, none⟩) n cap, .int .i64 (i : Int), .int .i64 ((i + 1 : Nat) : Int)] w fun e w' => e = .returned (.slice (some ⟨g, 0, none⟩) (n - 1) cap) ∧ w'.ownsRow N 22 1 (.slice (some ⟨g, 0, none⟩) (n - 1) cap) (n - 1) (vs.eraseIdx i) ∧ (∀ k, k ≠ g → w'.heap[k]? = w.heap[k]?) ∧ Below g w w' := by
  obtain ⟨zs, rfl⟩ := sls_of vs hv
  obtain ⟨g', cap', e0, -, -, h1, h2, hl, hH⟩ := Lib.holds_of_ownsRow h (by intro e; cases e)
  injection e0 with e1 _ e3
  injection e1 with e1
  injection e1 with e1
  subst e1 e3
  obtain ⟨i0, hi0, hz⟩ := Option.map_eq_some_iff.1 info_rows1
  have key := AnyE.slices_Delete delLays encS encS_one (none, 0, 0) Tryd.zeroValue22 i0 hi0 hz g 0 cap i (i + 1) zs.toArray w hH (by simpa [hl] using h1) (by unfold maxLen at h2; omega) (by omega) (by simp; omega)
  have hsz : zs.toArray.size = n := by simp [hl]
  rw [hsz, Nat.add_sub_cancel_left] at key
  refine Calls.mono key ?_
  rintro e w' ⟨rfl, q, rfl⟩
  refine ⟨rfl, ?_, fun k hk => putRow_other hk, Lib.below_putRow (Below.refl _ _) (Nat.le_refl _)⟩
  have hlen : (zs.take i ++ zs.drop (i + 1) ++ List.replicate 1 ((none, 0, 0) : Sl)).length = n := by simp; omega
  have := Lib.ownsRow_putRow (q := q) (k := n - 1) h hlen (by omega)
  have e : (zs.take i ++ zs.drop (i + 1) ++ List.replicate 1 ((none, 0, 0) : Sl)).take (n - 1) = zs.eraseIdx i := by
    rw [List.eraseIdx_eq_take_drop_succ, List.take_left' (by simp; omega)]
  rw [e] at this
  have e2 : (zs.map encS).eraseIdx i = (zs.eraseIdx i).map encS := by rw [List.eraseIdx_eq_take_drop_succ, List.eraseIdx_eq_take_drop_succ, List.map_append, List.map_take, List.map_drop]
  rw [e2]
  exact this
end Put
end Go.Proofs.YthokeflechajlaaDoor

/- slices.Insert of one row, where there is room. -/
namespace Go.Proofs.YthokeflechajlaaDoor
open Go.ChangeShapes Go.WideShapes Go.ChangeAt Go.RowKit
namespace Put
open Grd (C nilV)
theorem wp_copyR {P : Program} (w : World) {o : Oper} {a : Act} {K : Act → World → Prop} {Q : Exit → Act → World → Prop} (d s : Operand) (t t' : TypeId)
    (ho : o.op = .call { callee := .builtin .copy, args := #[d, s], argTypes := #[t, t'] }) (v u : Value) (hd : a.eval d = v) (hs : a.eval s = u) {v' : Value} {w' : World}
    (hr : (Builtin.copy_ #[t, t'] o.type #[v, u]).run P w = .ok v' w') (h : K (a.put o.dst v') w') : o.wp P a w K Q := by
  unfold Oper.wp execOp
  simp only [ho, resolve, invoke, builtin, Sem.run_bind, Sem.run_pure, Result.andThen_ok, List.map_toArray, List.map_cons, List.map_nil, hd, hs, hr]
  exact h
theorem wpList_copyR {P : Program} (w : World) {ops : Array Oper} {rest : List Oper} {o : Oper} {a : Act} {Q : Exit → Act → World → Prop} (hgd : o.guard = none) (d s : Operand) (t t' : TypeId)
    (ho : o.op = .call { callee := .builtin .copy, args := #[d, s], argTypes := #[t, t'] }) (v u : Value) (hd : a.eval d = v) (hs : a.eval s = u) {v' : Value} {w' : World}
    (hr : (Builtin.copy_ #[t, t'] o.type #[v, u]).run P w = .ok v' w') (h : wpList P ops Q rest (a.put o.dst v') w') : wpList P ops Q (o :: rest) a w :=
  wpList_plain hgd fun _ hK => wp_copyR w d s t t' ho v u hd hs hr (hK _ _ h)
theorem step_copyR {P : Program} {ops : Array Oper} {o : Oper} {a : Act} {w : World} {K : Act → World → Prop} {Q : Exit → Act → World → Prop} {E : Prop}
    (hg : o.guard = none) (d x : Operand) (dT sT : TypeId) (hop : o.op = Op.call { callee := Callee.builtin Builtin.copy, args := #[d, x], argTypes := #[dT, sT] })
    (v u : Value) (hd : a.eval d = v) (hx : a.eval x = u) {v' : Value} {w' : World} (hr : (Builtin.copy_ #[dT, sT] o.type #[v, u]).run P w = .ok v' w') (hK : K (a.put o.dst v') w') :
    if Region.wanted o (yielded ops a.tmps) = true then Oper.wp P o a w K Q else E := by
  have hw : Region.wanted o (yielded ops a.tmps) = true := by simp [Region.wanted, hg]
  rw [if_pos hw]
  unfold Oper.wp
  simp [execOp, hop, resolve, invoke, builtin, hd, hx, hr, Result.andThen]
  exact hK
/-- Words set one behind the other. -/
def setL (cur : Array Value) (o : Nat) : List Value → Array Value
  | [] => cur
  | v :: r => setL (cur.setIfInBounds o v) (o + 1) r
theorem setL_size : ∀ (xs : List Value) (cur : Array Value) (o : Nat), (setL cur o xs).size = cur.size
  | [], _, _ => rfl
  | v :: r, cur, o => by
    show (setL (cur.setIfInBounds o v) (o + 1) r).size = _
    rw [setL_size r]
    simp
theorem setL_at : ∀ (xs : List Value) (cur : Array Value) (o j : Nat), j < cur.size → (setL cur o xs)[j]? = if o ≤ j ∧ j < o + xs.length then xs[j - o]? else cur[j]?
  | [], cur, o, j, h => by
    rw [if_neg (by simp)]
    rfl
  | v :: r, cur, o, j, h => by
    show (setL (cur.setIfInBounds o v) (o + 1) r)[j]? = _
    rw [setL_at r _ _ j (by simpa using h)]
    by_cases h1 : o + 1 ≤ j ∧ j < o + 1 + r.length
    · rw [if_pos h1, if_pos (by simp; omega), show j - o = (j - (o + 1)) + 1 by omega]
      rfl
    · rw [if_neg h1]
      by_cases h2 : j = o
      · subst h2
        rw [if_pos (by simp)]
        simp [h]
      · rw [if_neg (by simp; omega), Array.getElem?_setIfInBounds_ne (Ne.symm h2)]
theorem setL_heap (g : Nat) (e : TypeId) : ∀ (xs : List Value) (w : World) (o : Nat) (cur : Array Value), w.heap[g]? = some (.cells cur e (0, 0)) → (w.setCells g o xs).heap[g]? = some (.cells (setL cur o xs) e (0, 0))
  | [], _, _, _, h => h
  | v :: r, w, o, cur, h => setL_heap g e r _ _ _ (heap_setCell_same w g o cur e v h)
/-- One row more. -/
theorem ins_list (cur : Array Value) (vs : List Value) (n i : Nat) (v : Value) (hl : vs.length = n) (hi : i ≤ n) (hs : n + 1 ≤ cur.size) (ht : cur.toList.take n = vs) : (setL (setL cur (i + 1) (vs.drop i)) i [v]).toList.take (n + 1) = vs.insertIdx i v := by
  apply List.ext_getElem?
  intro j
  have hc : ∀ k, k < n → cur[k]? = vs[k]? := fun k hk => by rw [← ht, List.getElem?_take_of_lt hk, Array.getElem?_toList]
  by_cases hj : j < n + 1
  · rw [List.getElem?_take_of_lt hj, Array.getElem?_toList, setL_at _ _ _ _ (by rw [setL_size]; omega), List.getElem?_insertIdx]
    by_cases h1 : j < i
    · rw [if_neg (by simp; omega), setL_at _ _ _ _ (by omega), if_neg (by simp; omega), if_pos h1, hc j (by omega)]
    · rw [if_neg h1]
      by_cases h2 : j = i
      · subst h2
        rw [if_pos (by simp), if_pos rfl, if_pos (by omega)]
        simp
      · rw [if_neg (by simp; omega), setL_at _ _ _ _ (by omega), if_pos (by simp; omega), if_neg h2, List.getElem?_drop]
        congr 1
        omega
  · rw [List.getElem?_eq_none (by simp; omega), List.getElem?_eq_none (by rw [List.length_insertIdx]; split <;> omega)]
theorem ins_end (cur : Array Value) (vs : List Value) (n : Nat) (v : Value) (hl : vs.length = n) (hs : n + 1 ≤ cur.size) (ht : cur.toList.take n = vs) : (setL cur n [v]).toList.take (n + 1) = vs.insertIdx n v := by
  have := ins_list cur vs n n v hl (Nat.le_refl _) hs ht
  rw [List.drop_of_length_le (by omega)] at this
  exact this
theorem heap_setCells_off (g k : Nat) (h : k ≠ g) : ∀ (xs : List Value) (o : Nat) (w : World), (w.setCells g o xs).heap[k]? = w.heap[k]? := fun xs o w => Grd.heap_setCells_ne _ k h xs o w
set_option maxHeartbeats 4000000 in
set_option maxRecDepth 100000 in
theorem insert_end (N g n cap vb vc : Nat) (vs : List Value) (v : Value) (w : World) (h : w.ownsRow N 22 1 (.slice (some ⟨g, 0, none⟩) n cap) n vs) (hsv : IsSl v) (hroom : n + 1 ≤ cap) (hvb : w.cell? ⟨vb, 0, none⟩ = some v) :
    Calls Tryd.prog 78 #[.slice (some ⟨g, 0, none⟩) n cap, .int .i64 (n : Int), .slice (some ⟨vb, 0, none⟩) 1 vc] w fun e w' => e = .returned (.slice (some ⟨g, 0, none⟩) (n + 1) cap) ∧ w'.ownsRow N 22 1 (.slice (some ⟨g, 0, none⟩) (n + 1) cap) (n + 1) (vs.insertIdx n v) ∧ (∀ k, k ≠ g → w'.heap[k]? = w.heap[k]?) ∧ Below g w w' := by
  obtain ⟨h0, ⟨h1, -⟩ | ⟨g', cap', cur, hv, hb, hg, hn, hm, hs, ht⟩⟩ := h
  · injection h1 with h1
    cases h1
  injection hv with e1 _ e3
  injection e1 with e1
  injection e1 with e1
  subst e1 e3
  rw [Nat.mul_one] at h0 hs ht
  obtain ⟨x, rfl⟩ := hsv
  have hc63 : cap ≤ 9223372036854775807 := by unfold maxLen at hm; omega
  obtain ⟨i0, hi0, hz⟩ := Option.map_eq_some_iff.1 info_rows1
  have hsrc : Src Tryd.prog 1 30 (.slice (some ⟨vb, 0, none⟩) 1 vc) 1 [encS x] w := Src.ofSlice w und_rows ⟨vb, 0, none⟩ 1 vc [encS x] (by simp) (fun j u hj => by
    rw [Addr.add_lit]
    match j, hj with
    | 0, hj => rw [← Option.some.inj hj]; exact hvb) (by simp [encS, Value.oneCell'])
  have hcell : ∀ j, j < 1 → (w.cell? ⟨g, 0 + n + j, none⟩).isSome = true := fun j hj => by
    simp only [World.cell?, hg]
    simp only [Option.isSome_none, Bool.false_eq_true, if_false]
    rw [Array.getElem?_eq_getElem (by omega)]
    rfl
  have hfz : ∀ j, j < 1 → w.frozen? ⟨g, 0 + n + j, none⟩ = false := fun j _ => by simp [World.frozen?, hg]
  have HE : Hid ((w.setCells g n [encS x]).ownsRow N 22 1 (.slice (some ⟨g, 0, none⟩) (n + 1) cap) (n + 1) (vs.insertIdx n (encS x)) ∧ (∀ k, k ≠ g → (w.setCells g n [encS x]).heap[k]? = w.heap[k]?) ∧ Below g w (w.setCells g n [encS x])) := by
    refine ⟨⟨by rw [List.length_insertIdx, if_pos (by omega)]; omega, .inr ⟨g, cap, _, rfl, hb, setL_heap g _ [encS x] w n cur hg, hroom, hm, by rw [setL_size]; omega, ?_⟩⟩, fun k hk => heap_setCells_off g k hk _ _ _, Grd.below_cells (Nat.le_refl _) _ _ _ (Below.refl _ _)⟩
    rw [Nat.mul_one]
    exact ins_end cur vs n (encS x) h0 (by omega) ht
  clear hg ht hs
  go_enter Tryd.func78, Tryd.ntmps78
  go_wp2_with (at_builtin; refine wpList_append_room1 _ rfl _ _ 30 30 rfl 22 _ _ und_rows info_rows g 0 n cap rfl _ rfl 1 [encS x] hsrc hroom (by simpa using hcell) (by simpa using hfz) ?_)
  go_ret
  exact ⟨rfl, HE.out⟩
theorem isSome_setC (b : Nat) (vs : List Value) (o : Nat) (w : World) (h : ∀ j, j < vs.length → (w.cell? ⟨b, o + j, none⟩).isSome = true) (k : Nat) (hk : (w.cell? ⟨b, k, none⟩).isSome = true) : ((w.setCells b o vs).cell? ⟨b, k, none⟩).isSome = true := by
  by_cases hin : o ≤ k ∧ k < o + vs.length
  · have := World.cell?_setCells_in b vs o w h (k - o) (by omega)
    rw [show o + (k - o) = k by omega] at this
    rw [this]
    simp
  · rw [World.cell?_setCells_out b vs o w ⟨b, k, none⟩ (fun _ _ => by show k < o ∨ o + vs.length ≤ k; omega)]
    exact hk
set_option maxHeartbeats 4000000 in
set_option maxRecDepth 100000 in
theorem insert_shift (N g n cap i vb vc : Nat) (vs : List Value) (v : Value) (w : World) (h : w.ownsRow N 22 1 (.slice (some ⟨g, 0, none⟩) n cap) n vs) (hvs : ∀ u, u ∈ vs → IsSl u) (hsv : IsSl v) (hi : i < n) (hroom : n + 1 ≤ cap) (hvb : w.heap[vb]? = some (.cells #[v] 22 (0, 0))) (hne : vb ≠ g) :
    Calls Tryd.prog 78 #[.slice (some ⟨g, 0, none⟩) n cap, .int .i64 (i : Int), .slice (some ⟨vb, 0, none⟩) 1 vc] w fun e w' => e = .returned (.slice (some ⟨g, 0, none⟩) (n + 1) cap) ∧ w'.ownsRow N 22 1 (.slice (some ⟨g, 0, none⟩) (n + 1) cap) (n + 1) (vs.insertIdx i v) ∧ (∀ k, k ≠ g → w'.heap[k]? = w.heap[k]?) ∧ Below g w w' := by
  obtain ⟨h0, ⟨h1, -⟩ | ⟨g', cap', cur, hv, hb, hg, hn, hm, hs, ht⟩⟩ := h
  · injection h1 with h1
    cases h1
  injection hv with e1 _ e3
  injection e1 with e1
  injection e1 with e1
  subst e1 e3
  rw [Nat.mul_one] at h0 hs ht
  have hsv1 : v.oneCell' = true := by obtain ⟨x, rfl⟩ := hsv; rfl
  have hv1 : ∀ u, u ∈ vs → u.oneCell' = true := fun u hu => by obtain ⟨x, rfl⟩ := hvs u hu; rfl
  have hc63 : cap ≤ 9223372036854775807 := by unfold maxLen at hm; omega
  have hcell : ∀ (W : World), W.heap[g]? = w.heap[g]? → ∀ j, j < cap → (W.cell? ⟨g, 0 + j, none⟩).isSome = true := fun W hW j hj => by
    simp only [World.cell?, hW, hg]
    simp only [Option.isSome_none, Bool.false_eq_true, if_false]
    rw [Array.getElem?_eq_getElem (by omega)]
    rfl
  have hfz : ∀ j, w.frozen? ⟨g, j, none⟩ = false := fun j => by simp [World.frozen?, hg]
  have hcs : ∀ j u, vs[j]? = some u → w.cell? ⟨g, 0 + j, none⟩ = some u := fun j u hj => by
    have hlt := (List.getElem?_eq_some_iff.1 hj).1
    simp only [World.cell?, hg]
    simp only [Option.isSome_none, Bool.false_eq_true, if_false]
    rw [← hj, ← ht, List.getElem?_take_of_lt (by omega), Array.getElem?_toList, Nat.zero_add]
  have hvc : w.cell? ⟨vb, 0, none⟩ = some v := by simp [World.cell?, hvb]
  have hsa : w.shape? vb = some (22, 1) := by simp [World.shape?, hvb]
  have hsb : w.shape? g = some (22, cur.size) := by simp [World.shape?, hg]
  have hov : ∀ lb cb, (callFunc 94 #[.slice (some ⟨vb, 0, none⟩) 1 vc, .slice (some ⟨g, i + 1, none⟩) lb cb]).run Tryd.prog w = .ok (.value (.bool false)) w := fun lb cb => by
    rw [run_callFunc_extern Tryd.func94 (by kernel_rfl) (by kernel_rfl) (by kernel_rfl) (e := Extern.SlicesOverlaps.overlaps #[30, 30] #[4]) (by kernel_rfl),
      Lib.run_overlaps_apart w 30 4 22 und_rows 1 Tryd.sizeOf22 ⟨vb, 0, none⟩ ⟨g, i + 1, none⟩ 1 vc lb cb hne _ _ _ _ hsa hsb (by omega) (by simp [World.frozen?, hvb]) (by simp [World.frozen?, hvb])]
    rfl
  have hdl : (vs.drop i).length = n - i := by rw [List.length_drop, h0]
  have hcp1 : ∀ ty dc sc, (Builtin.copy_ #[30, 30] ty #[.slice (some ⟨g, i + 1, none⟩) (n - i) dc, .slice (some ⟨g, i, none⟩) (n + 1 - i) sc]).run Tryd.prog w.drew = .ok (goInt (vs.drop i).length) (w.drew.setCells g (i + 1) (vs.drop i)) := fun ty dc sc =>
    run_copy_cells w.drew _ _ ty 22 g (i + 1) (n - i) dc ⟨g, i, none⟩ (n + 1 - i) sc (vs.drop i) und_rows info_rows1 (by rw [hdl]; simp only [Nat.min_def]; split <;> omega)
      (fun j u hj => by rw [Addr.add_lit, ← Nat.zero_add (i + j)]; exact hcs (i + j) u (by rwa [List.getElem?_drop] at hj))
      (fun j hj => by rw [← Nat.zero_add (i + 1 + j)]; exact hcell w.drew rfl _ (by omega)) (fun j hj => hfz _) (fun u hu => hv1 u (List.mem_of_mem_drop hu))
  obtain ⟨W1, hW1⟩ : ∃ W1, W1 = w.drew.setCells g (i + 1) (vs.drop i) := ⟨_, rfl⟩
  have hg1 : W1.heap[g]? = some (.cells (setL cur (i + 1) (vs.drop i)) 22 (0, 0)) := by
    rw [hW1]
    exact setL_heap g _ (vs.drop i) w.drew (i + 1) cur hg
  have ho1 : ∀ k, k ≠ g → W1.heap[k]? = w.heap[k]? := fun k hk => by rw [hW1]; exact heap_setCells_off g k hk _ _ _
  have hb1 : Below g w W1 := by rw [hW1]; exact Grd.below_cells (Nat.le_refl _) _ _ _ ((Below.refl _ _).drew)
  have hcp2 : ∀ (W : World), W.heap = W1.heap → ∀ ty dc, (Builtin.copy_ #[30, 30] ty #[.slice (some ⟨g, i, none⟩) (n + 1 - i) dc, .slice (some ⟨vb, 0, none⟩) 1 vc]).run Tryd.prog W = .ok (goInt [v].length) (W.setCells g i [v]) := fun W hWh ty dc =>
    run_copy_cells W _ _ ty 22 g i (n + 1 - i) dc ⟨vb, 0, none⟩ 1 vc [v] und_rows info_rows1 (by simp only [List.length_singleton, Nat.min_def]; split <;> omega)
      (fun j u hj => by
        rw [Addr.add_lit]
        match j, hj with
        | 0, hj =>
          rw [← Option.some.inj hj]
          simp only [World.cell?, hWh, ho1 vb hne, hvb]
          rfl)
      (fun j hj => by
        simp only [World.cell?, hWh, hg1]
        simp only [Option.isSome_none, Bool.false_eq_true, if_false]
        rw [Array.getElem?_eq_getElem (by rw [setL_size]; simp at hj; omega)]
        rfl) (fun j hj => by simp [World.frozen?, hWh, hg1]) (by simpa using hsv1)
  have HE : Hid (∀ W : World, W.heap = W1.heap → Below g w W → (W.setCells g i [v]).ownsRow N 22 1 (.slice (some ⟨g, 0, none⟩) (n + 1) cap) (n + 1) (vs.insertIdx i v) ∧ (∀ k, k ≠ g → (W.setCells g i [v]).heap[k]? = w.heap[k]?) ∧ Below g w (W.setCells g i [v])) := fun W hW hbW => by
    refine ⟨⟨by rw [List.length_insertIdx, if_pos (by omega)]; omega, .inr ⟨g, cap, _, rfl, hb, setL_heap g _ [v] W i _ (by rw [hW]; exact hg1), hroom, hm, by rw [setL_size, setL_size]; omega, ?_⟩⟩, fun k hk => (heap_setCells_off g k hk _ _ _).trans (by rw [hW]; exact ho1 k hk), Grd.below_cells (Nat.le_refl _) _ _ _ hbW⟩
    rw [Nat.mul_one]
    exact ins_list cur vs n i v h0 (by omega) (by omega) ht
  have HB1 : Hid (Below g w W1) := hb1
  rw [← hW1] at hcp1
  clear hg ht hs hW1 hcs hcell hfz hvb hvc hg1 ho1 hb1 hsa hsb hv1 hvs hsv hsv1 hdl
  have mixed : Tryd.prog.follows .mixedOrders = true := by kernel_rfl
  have hz2 : ¬ ((i : Int) = (n : Int)) := by omega
  have hw1 : IntKind.i64.wrap ((i : Int) + 1) = (i : Int) + 1 := by rw [IntKind.wrap_i64]; omega
  have hb1 : (0 : Int) ≤ (i : Int) + 1 := by omega
  have htn : ((i : Int) + 1).toNat = i + 1 := by omega
  have hb2 : ¬ (cap = i + 1) := by omega
  have hb3 : (i : Int) ≤ (n : Int) + 1 := by omega
  have hb4 : ¬ (cap = i) := by omega
  have hin : i ≤ n := by omega
  go_enter Tryd.func78, Tryd.ntmps78
  go_wp2_with (simp only [hov])
  go_region_law_o (refine step_copyR rfl _ _ 30 30 rfl _ _ (by simp [Act.eval, Act.put]) (by simp [Act.eval, Act.put]) (hcp1 _ _ _) ?_)
  go_wp2_with (at_builtin; refine wpList_copyR _ rfl _ _ 30 30 rfl _ _ rfl rfl (hcp2 _ rfl _ _) ?_)
  go_ret
  exact ⟨rfl, HE.out _ rfl HB1.out⟩
/-- A row is put in, where there is room. -/
theorem insert_own (N g n cap i vb vc : Nat) (vs : List Value) (v : Value) (w : World) (h : w.ownsRow N 22 1 (.slice (some ⟨g, 0, none⟩) n cap) n vs) (hvs : ∀ u, u ∈ vs → IsSl u) (hsv : IsSl v) (hi : i ≤ n) (hroom : n + 1 ≤ cap) (hvb : w.heap[vb]? = some (.cells #[v] 22 (0, 0))) (hne : vb ≠ g) :
    Calls Tryd.prog 78 #[.slice (some ⟨g, 0, none⟩) n cap, .int .i64 (i : Int), .slice (some ⟨vb, 0, none⟩) 1 vc] w fun e w' => e = .returned (.slice (some ⟨g, 0, none⟩) (n + 1) cap) ∧ w'.ownsRow N 22 1 (.slice (some ⟨g, 0, none⟩) (n + 1) cap) (n + 1) (vs.insertIdx i v) ∧ (∀ k, k ≠ g → w'.heap[k]? = w.heap[k]?) ∧ Below g w w' := by
  rcases Nat.lt_or_eq_of_le hi with hlt | rfl
  · exact insert_shift N g n cap i vb vc vs v w h hvs hsv hlt hroom hvb hne
  · exact insert_end N g i cap vb vc vs v w h hsv hroom (by simp [World.cell?, hvb])
end Put
end Go.Proofs.YthokeflechajlaaDoor

/- What stays of a sheet whose words change; Has. -/
namespace Go.Proofs.YthokeflechajlaaDoor
open Go.ChangeShapes Go.WideShapes Go.ChangeAt Go.RowKit
namespace Put
open Grd (C SliceAt CellsAt gridErr z0 nilV flat rowsL)
theorem ShA.set {t : TypeId} (ht : IsSheet t) {W : World} {M N p : Nat} {s s' : Scr} {rows : List (List C)} {cv tv gv rv : Value} {gvs vs : List Value} (h : ShA t W M N p s rows cv tv gv rv gvs vs) (i : Nat) (v : Value) (e : (shA s cv tv gv rv).setIfInBounds i v = shA s' cv tv gv rv) (h1 : s'.tabs = s.tabs) (h2 : s'.gone = s.gone) : ShA t (W.setCell ⟨p, i, none⟩ v) M N p s' rows cv tv gv rv gvs vs :=
  h.put ht (store_at h.blk e) (fun _ hk => store_off hk) h1 h2
theorem ShAt.set {t : TypeId} (ht : IsSheet t) {W : World} {M N p : Nat} {s s' : Scr} {rows : List (List C)} (h : ShAt t W M N p s rows) (i : Nat) (v : Value) (e : ∀ cv tv gv rv, (shA s cv tv gv rv).setIfInBounds i v = shA s' cv tv gv rv) (h1 : s'.tabs = s.tabs) (h2 : s'.gone = s.gone) : ShAt t (W.setCell ⟨p, i, none⟩ v) M N p s' rows := by
  obtain ⟨cv, tv, gv, rv, gvs, vs, h⟩ := h
  exact ⟨cv, tv, gv, rv, gvs, vs, h.set ht i v (e _ _ _ _) h1 h2⟩
theorem ShAt.next {t : TypeId} {W W' : World} {M N p : Nat} {s : Scr} {rows : List (List C)} (h : ShAt t W M N p s rows) (hb : Below W.heap.size W W') : ShAt t W' M N p s rows := by
  obtain ⟨cv, tv, gv, rv, gvs, vs, h⟩ := h
  exact ⟨cv, tv, gv, rv, gvs, vs, h.next hb⟩
theorem ShAt.lo {t : TypeId} {W : World} {M N p : Nat} {s : Scr} {rows : List (List C)} (h : ShAt t W M N p s rows) : N ≤ p := by
  obtain ⟨cv, tv, gv, rv, gvs, vs, h⟩ := h
  exact h.lo
theorem ShAt.drew {t : TypeId} {W : World} {M N p : Nat} {s : Scr} {rows : List (List C)} (h : ShAt t W M N p s rows) : ShAt t W.drew M N p s rows := h.next ((Below.refl _ _).drew)
/-- The words of a sheet that are numbers. -/
theorem ShAt.words {t : TypeId} {W : World} {M N p : Nat} {s : Scr} {rows : List (List C)} (h : ShAt t W M N p s rows) :
    W.cell? ⟨p, 0, none⟩ = some (.int .i64 s.w) ∧ W.cell? ⟨p, 1, none⟩ = some (.int .i64 s.h) ∧ W.cell? ⟨p, 3, none⟩ = some (.int .i64 s.x) ∧ W.cell? ⟨p, 4, none⟩ = some (.int .i64 s.y) ∧ W.cell? ⟨p, 5, none⟩ = some (.bool s.late) ∧ W.cell? ⟨p, 9, none⟩ = some (.int .i64 s.top) ∧ W.cell? ⟨p, 10, none⟩ = some (.int .i64 s.bot) ∧ W.cell? ⟨p, 11, none⟩ = some (.int .i64 s.modes) ∧ W.cell? ⟨p, 19, none⟩ = some (.int .i32 s.last) ∧ ∀ i, W.frozen? ⟨p, i, none⟩ = false := by
  obtain ⟨cv, tv, gv, rv, gvs, vs, h⟩ := h
  obtain ⟨⟨c0, c1, -, c3, c4, c5, -, -, -, c9, c10⟩, ⟨c11, -, -, -, -, -, -, -, c19, -⟩, f⟩ := sh_cells h.blk
  exact ⟨c0, c1, c3, c4, c5, c9, c10, c11, c19, f⟩
theorem ShAt.fin {t : TypeId} (ht : IsSheet t) {W : World} {M N p : Nat} {s s' : Scr} {rows : List (List C)} (h : ShAt t W M N p s rows) (i : Nat) (v : Value) (e : ∀ cv tv gv rv, (shA s cv tv gv rv).setIfInBounds i v = shA s' cv tv gv rv) (h1 : s'.tabs = s.tabs) (h2 : s'.gone = s.gone) : ∀ v', v' = v → ShAt t (W.setCell ⟨p, i, none⟩ v').drew M N p s' rows ∧ Below N W (W.setCell ⟨p, i, none⟩ v').drew := fun v' hv => by
  subst hv
  exact ⟨(h.set ht i _ e h1 h2).drew, ((Below.refl _ _).setCell h.lo _).drew⟩
theorem wrap_id (a : Int) (h0 : -9223372036854775808 ≤ a) (h1 : a ≤ 9223372036854775807) : IntKind.i64.wrap a = a := by
  rw [IntKind.wrap_i64]
  omega
theorem int_wrap (a : Int) (h0 : -9223372036854775808 ≤ a) (h1 : a ≤ 9223372036854775807) : Value.int .i64 (IntKind.i64.wrap a) = Value.int .i64 a := by rw [wrap_id a h0 h1]
/-- Are these bits set? -/
def hasB (m b : Int) : Bool := bits .and .i64 m b == b
theorem has_any {M N p : Nat} {s : Scr} {rows : List (List C)} (b : Int) (W : World) (hS : ShAt 63 W M N p s rows) : Calls Tryd.prog 61 #[.pointer (some ⟨p, 0, none⟩), .int .i64 b] W fun e w' => e = .returned (.bool (hasB s.modes b)) ∧ W = w' := by
  obtain ⟨c0, c1, c3, c4, c5, c9, c10, c11, c19, f⟩ := hS.words
  clear c0 c1 c3 c4 c5 c9 c10 c19 f hS
  go_enter Tryd.func61, Tryd.ntmps61
  go_wp2_with fail
  go_ret
  exact ⟨rfl, rfl⟩
end Put
end Go.Proofs.YthokeflechajlaaDoor

/- (*sheet.Sheet).alter: a row is made anew. -/
namespace Go.Proofs.YthokeflechajlaaDoor
open Go.ChangeShapes Go.WideShapes Go.ChangeAt Go.RowKit
namespace Put
open Grd (C SliceAt CellsAt gridErr z0 nilV flat rowsL OwnG RowB)
/-- Blocks of other types than those that a sheet writes to are kept. -/
def Other (t : TypeId) : Prop := t ≠ 63 ∧ t ≠ 4 ∧ t ≠ 22
def OtherO (o : Obj) : Prop := ∀ (A : Array Value) (t : TypeId) (f : Nat × Nat), o = .cells A t f → Other t
def Framed (W W' : World) : Prop := ∀ (k : Nat) (o : Obj), W.heap[k]? = some o → OtherO o → W'.heap[k]? = some o
theorem Framed.refl (W : World) : Framed W W := fun _ _ h _ => h
theorem Framed.trans {a b c : World} (h : Framed a b) (k : Framed b c) : Framed a c := fun i o hi ho => k i o (h i o hi ho) ho
theorem Framed.of_below {W W' : World} (h : Below W.heap.size W W') : Framed W W' := fun k _ hk _ => (h.block k (heap_lt hk)).trans hk
theorem Framed.store {W : World} {p i : Nat} {v : Value} {A : Array Value} {t : TypeId} (hp : W.heap[p]? = some (.cells A t (0, 0))) (ht : ¬ Other t) : Framed W (W.setCell ⟨p, i, none⟩ v) := fun k o hk ho => by
  have hne : k ≠ p := by
    intro e
    rw [e, hp] at hk
    injection hk with hk
    exact ht (ho A t (0, 0) hk.symm)
  exact (store_off hne).trans hk
theorem other_cells {A : Array Value} {t : TypeId} {f : Nat × Nat} (h : Other t) : OtherO (.cells A t f) := fun B u g e => by
  injection e with _ e _
  rw [← e]
  exact h
theorem not_other_sheet : ¬ Other 63 := fun h => h.1 rfl
theorem not_other_rows : ¬ Other 22 := fun h => h.2.2 rfl
theorem not_other_bool : ¬ Other 4 := fun h => h.2.1 rfl
theorem Framed.cell {W W' : World} (h : Framed W W') {k i : Nat} {A : Array Value} {t : TypeId} (hk : W.heap[k]? = some (.cells A t (0, 0))) (ho : Other t) : W'.cell? ⟨k, i, none⟩ = W.cell? ⟨k, i, none⟩ := by
  have h1 := h k _ hk (other_cells ho)
  simp only [World.cell?, h1, hk]
/-- What a sheet is behind a call that changes it. -/
def Ran (W : World) (M N p : Nat) (s' : Scr) (rows' : List (List C)) (e : Ending) (W' : World) : Prop := e = .returned (.tuple #[]) ∧ ShAt 63 W' M N p s' rows' ∧ Below N W W' ∧ Framed W W'
theorem own_rowB {W : World} {base : Nat} {v : Value} {row : List C} (h : OwnG W base v row) : ∃ g, base ≤ g ∧ RowB W g v row := by
  obtain ⟨g, cap, rest, ⟨t, rfl⟩, hv, hg, h1, h2, h3⟩ := h
  exact ⟨g, hg, cap, rest, hv, h1, h2, h3⟩
theorem ShA.storeRow {V : World} {M N p : Nat} {s : Scr} {rows : List (List C)} {cv tv gv rv : Value} {gvs vs : List Value} (h : ShA 63 V M N p s rows cv tv gv rv gvs vs) {rb rc y : Nat} (hrv : rv = .slice (some ⟨rb, 0, none⟩) rows.length rc) {v : Value} {row' : List C} (hr : RowIn V M v row') : ShA 63 (V.setCell ⟨rb, y, none⟩ v) M N p s (rows.set y row') cv tv gv rv gvs (vs.set y v) := by
  obtain ⟨hlo, A, f, hA⟩ := owns_block h.rws rb (by rw [hrv]; rfl)
  have hA0 : ∃ A, V.heap[rb]? = some (.cells A 22 (0, 0)) := by
    have h1 := h.rws
    rw [hrv] at h1
    obtain ⟨-, ⟨h1, -⟩ | ⟨g', cap, cur, hv, -, hh, -⟩⟩ := h1
    · injection h1 with h1
      cases h1
    · injection hv with hv1 _ _
      injection hv1 with hv1
      injection hv1 with hv1
      subst hv1
      exact ⟨cur, hh⟩
  obtain ⟨B, hB⟩ := hA0
  have hne : p ≠ rb := by
    intro e
    rw [← e, h.blk] at hB
    injection hB with hB
    injection hB with _ hB _
    exact absurd hB (by decide)
  have hK : Kept M V (V.setCell ⟨rb, y, none⟩ v) := Kept.store hB (by decide) (Nat.le_trans h.ml hlo)
  refine ⟨(store_off hne).trans h.blk, h.lo, h.ml, h.cvs, own_off h.tabs hB (by decide), owns_kept h.gone fun g hg => store_off fun e => h.two rb (by rw [hrv]; rfl) (by rw [hg, e]), h.gin.keep hK, ?_, (h.rin.set y v row' hr).keep hK, h.two⟩
  have h1 := h.rws
  rw [hrv] at h1 ⊢
  rw [List.length_set]
  exact own_set h1
/-- What a function makes of a row that is handed to it as a grid. -/
def Alters (hf : FuncId) (caps : Array Value) (M : Nat) (W : World) (n : Int) (v : Value) (row' : List C) : Prop :=
  ∀ W1, Below W.heap.size W W1 → Calls Tryd.prog hf (#[.agg #[.int .i64 n, .int .i64 1, v]] ++ caps) W1 fun e W2 => ∃ a c, e = .returned (.agg #[.int .i64 n, .int .i64 1, .slice a row'.length c]) ∧ RowIn W2 M (.slice a row'.length c) row' ∧ Below W1.heap.size W1 W2
theorem field_cells (n : Int) (q : Option Addr) (l k : Nat) (W : World) : (Instr.field 24 (.agg #[.int .i64 n, .int .i64 1, .slice q l k]) 2).run Tryd.prog W = .ok (.slice q l k) W := by kernel_rfl
set_option maxHeartbeats 4000000 in
set_option maxRecDepth 100000 in
theorem alter_any (W : World) (M N p : Nat) (s : Scr) (rows : List (List C)) (cv tv gv rv : Value) (gvs vs : List Value) (hS : ShA 63 W M N p s rows cv tv gv rv gvs vs) (y : Nat) (hy : y < rows.length) (hf : FuncId) (hpl : Plain hf) (caps : Array Value) (row' : List C) (hA : Alters hf caps M W s.w (vs.getD y nilV) row') :
    Calls Tryd.prog 87 #[.pointer (some ⟨p, 0, none⟩), .int .i64 (y : Int), .func (.func hf) #[] caps] W (Ran W M N p s (rows.set y row')) := by
  obtain ⟨rb, rc, hrv, hrb, hrc1, hrc2, hvl, hrcell, A, hrA⟩ := own_cells hS.rws (by omega)
  obtain ⟨va, vc, hsh⟩ := (hS.rin.2 y hy).shape
  have hfd := field_cells s.w
  have hyI : (0 : Int) ≤ (y : Int) := by omega
  have hyI2 : (y : Int) < (rows.length : Int) := by omega
  have d1 := hrcell y hy
  have HW : Hid (ShA 63 W M N p s rows cv tv gv rv gvs vs) := hS
  obtain ⟨⟨c0, -⟩, ⟨-, -, -, -, -, -, -, -, -, -, -, c22⟩, -⟩ := sh_cells hS.blk
  rw [hrv] at c22
  rw [hsh] at d1 hA
  have HA : Hid (Alters hf caps M W s.w (.slice va (rows.getD y []).length vc) row') := hA
  have hne : rb ≠ p := by
    intro e
    rw [e, hS.blk] at hrA
    injection hrA with hrA
    injection hrA with _ hrA _
    exact absurd hrA (by decide)
  have HRA : Hid (W.heap[rb]? = some (.cells A 22 (0, 0))) := hrA
  have HRV : Hid (rv = .slice (some ⟨rb, 0, none⟩) rows.length rc) := hrv
  have hlo := hS.lo
  have hml := hS.ml
  unfold Plain at hpl
  obtain ⟨row, hrow⟩ : ∃ row, row = rows.getD y [] := ⟨_, rfl⟩
  rw [← hrow] at d1 HA
  have hpl' := heap_lt hS.blk
  have hWb : W.heap.size ≠ rb := by have := heap_lt hrA; omega
  have hrl' := heap_lt hrA
  clear hS hA hrA hrcell hsh hrow hrv
  go_enter Tryd.func87, Tryd.ntmps87
  go_upto_region 0 with fail
  go_region
  have bX : Below W.heap.size W (W.alloc (.cells #[.int .i64 s.w, .int .i64 1, .slice va row.length vc] 24)).drew := ((Below.refl _ _).alloc (Nat.le_refl _) _).drew
  have xX : (W.alloc (.cells #[.int .i64 s.w, .int .i64 1, .slice va row.length vc] 24)).drew.heap[W.heap.size]? = some (.cells #[.int .i64 s.w, .int .i64 1, .slice va row.length vc] 24 (0, 0)) := heap_alloc_new W _
  have HBX : Hid _ := bX
  have HXX : Hid _ := xX
  have k22 := cell_stay bX c22
  have kd := cell_stay bX d1
  obtain ⟨g0, g1, g2, -⟩ := Grd.cells3 xX
  clear c0 c22 d1 bX xX
  generalize (W.alloc (.cells #[.int .i64 s.w, .int .i64 1, .slice va row.length vc] 24)).drew = X at *
  go_wp2_with fail
  have e0 : (fun w' => w'.cell? ⟨p, 22, none⟩ = some (.slice (some ⟨rb, 0, none⟩) rows.length rc) ∧ w'.cell? ⟨W.heap.size, 0, none⟩ = some (.int .i64 s.w) ∧ w'.cell? ⟨W.heap.size, 1, none⟩ = some (.int .i64 1) ∧ w'.cell? ⟨W.heap.size, 2, none⟩ = some (.slice va row.length vc)) X.drew := ⟨k22, g0, g1, g2⟩
  go_region_held3 (fun w' => w'.cell? ⟨p, 22, none⟩ = some (.slice (some ⟨rb, 0, none⟩) rows.length rc) ∧ w'.cell? ⟨W.heap.size, 0, none⟩ = some (.int .i64 s.w) ∧ w'.cell? ⟨W.heap.size, 1, none⟩ = some (.int .i64 1) ∧ w'.cell? ⟨W.heap.size, 2, none⟩ = some (.slice va row.length vc))
    (first | exact e2 | exact e1 | exact e0)
    (first | (refine (HA.out X.drew (HBX.out.drew)).mono ?_; rintro e V ⟨na, nc, rfl, hri, b1⟩; have e1 : (fun w' => w'.cell? ⟨p, 22, none⟩ = some (.slice (some ⟨rb, 0, none⟩) rows.length rc) ∧ w'.cell? ⟨W.heap.size, 0, none⟩ = some (.int .i64 s.w) ∧ w'.cell? ⟨W.heap.size, 1, none⟩ = some (.int .i64 1) ∧ w'.cell? ⟨W.heap.size, 2, none⟩ = some (.slice va row.length vc)) V := ⟨cell_stay b1 k22, cell_stay b1 g0, cell_stay b1 g1, cell_stay b1 g2⟩; have bV : Below W.heap.size W V := (HBX.out.drew).trans (b1.mono HBX.out.size); have hV := Grd.carry HRA.out bV; have d2 := cell_stay b1 kd; have fz : V.frozen? ⟨rb, y, none⟩ = false := frozen_cells hV y; have e2 : (fun w' => w'.cell? ⟨p, 22, none⟩ = some (.slice (some ⟨rb, 0, none⟩) rows.length rc) ∧ w'.cell? ⟨W.heap.size, 0, none⟩ = some (.int .i64 s.w) ∧ w'.cell? ⟨W.heap.size, 1, none⟩ = some (.int .i64 1) ∧ w'.cell? ⟨W.heap.size, 2, none⟩ = some (.slice va row.length vc)) (V.setCell ⟨rb, y, none⟩ (.slice na row'.length nc)) := ⟨(cell_store_off hne.symm).trans e1.1, (cell_store_off hWb).trans e1.2.1, (cell_store_off hWb).trans e1.2.2.1, (cell_store_off hWb).trans e1.2.2.2⟩; have HRI : Hid (RowIn V M (.slice na row'.length nc) row') := hri; have HBV : Hid (Below W.heap.size W V) := bV; clear hri b1 bV hV))
  go_end0
  exact ⟨rfl, ⟨_, _, _, _, _, _, (HW.out.next HBV.out).storeRow HRV.out HRI.out⟩, (HBV.out.mono (by omega)).setCell hrb _, (Framed.of_below HBV.out).trans (Framed.store (Grd.carry HRA.out HBV.out) not_other_rows)⟩
end Put
end Go.Proofs.YthokeflechajlaaDoor

/- advance; (*sheet.Sheet).Feed. -/
namespace Go.Proofs.YthokeflechajlaaDoor
open Go.ChangeShapes Go.WideShapes Go.ChangeAt Go.RowKit
namespace Put
open Grd (C)
theorem ShAt.framed {W : World} {M N p i : Nat} {s : Scr} {rows : List (List C)} {v : Value} (h : ShAt 63 W M N p s rows) : Framed W (W.setCell ⟨p, i, none⟩ v) := by
  obtain ⟨cv, tv, gv, rv, gvs, vs, h⟩ := h
  exact Framed.store h.blk not_other_sheet
theorem ShAt.put {W : World} {M N p : Nat} {s s' : Scr} {rows : List (List C)} (h : ShAt 63 W M N p s rows) (i : Nat) (v : Value) (e : ∀ cv tv gv rv, (shA s cv tv gv rv).setIfInBounds i v = shA s' cv tv gv rv) (h1 : s'.tabs = s.tabs) (h2 : s'.gone = s.gone) : ShAt 63 (W.setCell ⟨p, i, none⟩ v) M N p s' rows ∧ Below N W (W.setCell ⟨p, i, none⟩ v) ∧ Framed W (W.setCell ⟨p, i, none⟩ v) := ⟨h.set sheet_is i v e h1 h2, (Below.refl _ _).setCell h.lo _, h.framed⟩
/-- Behind what was written. -/
def advS (s : Scr) (k : Int) : Scr := if s.x + k = s.w then { s with x := s.w - 1, late := hasB s.modes 4 } else { s with x := s.x + k }
set_option maxHeartbeats 2000000 in
theorem advance_any (W : World) (M N p : Nat) (s : Scr) (rows : List (List C)) (k : Int) (hS : ShAt 63 W M N p s rows) (h0 : 0 ≤ s.x) (h1 : s.x ≤ 120) (h2 : 0 ≤ k) (h3 : k ≤ 2) (w1 : 1 ≤ s.w) (w2 : s.w ≤ 120) :
    Calls Tryd.prog 65 #[.pointer (some ⟨p, 0, none⟩), .int .i64 k] W (Ran W M N p (advS s k) rows) := by
  obtain ⟨c0, c1, c3, c4, c5, c9, c10, c11, c19, f⟩ := hS.words
  have f3 := f 3
  obtain ⟨hS1, hB1, hF1⟩ := hS.put 3 (.int .i64 (s.x + k)) (s' := { s with x := s.x + k }) (fun _ _ _ _ => rfl) rfl rfl
  have HE : Hid (advS s k = if s.x + k = s.w then { s with x := s.w - 1, late := hasB s.modes 4 } else { s with x := s.x + k }) := rfl
  generalize advS s k = s' at *
  by_cases heq : s.x + k = s.w
  · have HE2 : Hid (s' = { s with x := s.w - 1, late := hasB s.modes 4 }) := by unfold Hid; rw [HE.out, if_pos heq]
    have hq : (s.x + k == s.w) = true := by rw [beq_iff_eq]; exact heq
    have HQ : Hid (s.x + k = s.w) := heq
    clear heq c1 c4 c5 c9 c10 c11 c19 f HE hS
    have HS1 : Hid (ShAt 63 (W.setCell ⟨p, 3, none⟩ (.int .i64 (s.x + k))) M N p { s with x := s.x + k } rows) := hS1
    have HB1 : Hid _ := hB1
    have HF1 : Hid (Framed W (W.setCell ⟨p, 3, none⟩ (.int .i64 (s.x + k)))) := hF1
    clear hS1 hB1 hF1
    have hwr : IntKind.i64.wrap (s.x + k) = s.x + k := wrap_id _ (by omega) (by omega)
    go_enter Tryd.func65, Tryd.ntmps65
    go_upto_region 1 with fail
    obtain ⟨d0, -, d3, -, -, -, -, -, -, df⟩ := HS1.out.words
    clear c0 c3 f3
    generalize (W.setCell ⟨p, 3, none⟩ (.int .i64 (s.x + k))) = X at *
    go_region
    have HSd : Hid (ShAt 63 X.drew M N p { s with x := s.x + k } rows) := HS1.out.drew
    have HB2 : Hid (Below N W X.drew) := HB1.out.drew
    have HF2 : Hid (Framed W X.drew) := HF1.out.trans (Framed.of_below ((Below.refl _ _).drew))
    obtain ⟨d0, -, d3, -, -, -, -, -, -, df⟩ := HSd.out.words
    have g3 := df 3
    clear HS1 HB1 HF1 df
    generalize X.drew = Y at *
    obtain ⟨hS3, hB3, hF3⟩ := HSd.out.put 3 (.int .i64 (s.w - 1)) (s' := { s with x := s.w - 1 }) (fun _ _ _ _ => rfl) rfl rfl
    have H2 := has_any 4 _ hS3
    obtain ⟨e0, -, e3, -, e5, -, -, -, -, ef⟩ := hS3.words
    obtain ⟨hS4, hB4, hF4⟩ := hS3.put 5 (.bool (hasB s.modes 4)) (s' := { s with x := s.w - 1, late := hasB s.modes 4 }) (fun _ _ _ _ => rfl) rfl rfl
    have HR : Hid (Ran W M N p s' rows (.returned (.tuple #[])) ((Y.setCell ⟨p, 3, none⟩ (.int .i64 (s.w - 1))).setCell ⟨p, 5, none⟩ (.bool (hasB s.modes 4)))) := by
      unfold Hid
      rw [HE2.out]
      exact ⟨rfl, hS4, HB2.out.trans (hB3.trans hB4), HF2.out.trans (hF3.trans hF4)⟩
    have g5 := ef 5
    clear hS3 hB3 hF3 hS4 hB4 hF4 ef e0 e3
    generalize hasB s.modes 4 = hb at *
    go_wp2_with fail
    refine H2.mono ?_
    rintro e V ⟨rfl, hv⟩
    subst hv
    go_wp2_with fail
    go_end0
    exact HR.out
  · have HE2 : Hid (s' = { s with x := s.x + k }) := by unfold Hid; rw [HE.out, if_neg heq]
    have hq : (s.x + k == s.w) = false := by rw [beq_eq_false_iff_ne]; exact heq
    clear heq c1 c4 c5 c9 c10 c11 c19 f HE hS
    have HS1 : Hid (ShAt 63 (W.setCell ⟨p, 3, none⟩ (.int .i64 (s.x + k))) M N p { s with x := s.x + k } rows) := hS1
    have HB1 : Hid _ := hB1
    have HF1 : Hid (Framed W (W.setCell ⟨p, 3, none⟩ (.int .i64 (s.x + k)))) := hF1
    clear hS1 hB1 hF1
    have hwr : IntKind.i64.wrap (s.x + k) = s.x + k := wrap_id _ (by omega) (by omega)
    go_enter Tryd.func65, Tryd.ntmps65
    go_upto_region 1 with fail
    obtain ⟨d0, -, d3, -, -, -, -, -, -, df⟩ := HS1.out.words
    clear c0 c3 f3 df
    generalize (W.setCell ⟨p, 3, none⟩ (.int .i64 (s.x + k))) = X at *
    go_region
    go_wp2_with fail
    go_end0
    rw [HE2.out]
    exact ⟨rfl, HS1.out.drew, HB1.out.drew, HF1.out.trans (Framed.of_below ((Below.refl _ _).drew))⟩
/-- A row further, where nothing rolls. -/
def feedS (s : Scr) : Scr := if s.y < s.h - 1 then { s with late := false, y := s.y + 1 } else { s with late := false }
set_option maxHeartbeats 2000000 in
theorem feed_plain (W : World) (M N p : Nat) (s : Scr) (rows : List (List C)) (hS : ShAt 63 W M N p s rows) (h0 : 0 ≤ s.y) (h1 : s.y ≤ 60) (w1 : 1 ≤ s.h) (w2 : s.h ≤ 60) (hne : s.y ≠ s.bot) :
    Calls Tryd.prog 62 #[.pointer (some ⟨p, 0, none⟩)] W (Ran W M N p (feedS s) rows) := by
  obtain ⟨c0, c1, c3, c4, c5, c9, c10, c11, c19, f⟩ := hS.words
  have f5 := f 5
  obtain ⟨hS1, hB1, hF1⟩ := hS.put 5 (.bool false) (s' := { s with late := false }) (fun _ _ _ _ => rfl) rfl rfl
  have HE : Hid (feedS s = if s.y < s.h - 1 then { s with late := false, y := s.y + 1 } else { s with late := false }) := rfl
  generalize feedS s = s' at *
  have hq : (s.y == s.bot) = false := by rw [beq_eq_false_iff_ne]; exact hne
  have HS1 : Hid (ShAt 63 (W.setCell ⟨p, 5, none⟩ (.bool false)) M N p { s with late := false } rows) := hS1
  have HB1 : Hid _ := hB1
  have HF1 : Hid (Framed W (W.setCell ⟨p, 5, none⟩ (.bool false))) := hF1
  clear hS1 hB1 hF1 hS hne c0 c1 c3 c4 c9 c10 c11 c19 f
  have hwr : IntKind.i64.wrap (s.h - 1) = s.h - 1 := wrap_id _ (by omega) (by omega)
  go_enter Tryd.func62, Tryd.ntmps62
  go_upto_region 1 with fail
  obtain ⟨-, d1, -, d4, -, -, d10, -, -, df⟩ := HS1.out.words
  clear c5 f5 df
  generalize (W.setCell ⟨p, 5, none⟩ (.bool false)) = X at *
  go_region
  have HSd : Hid (ShAt 63 X.drew M N p { s with late := false } rows) := HS1.out.drew
  have HB2 : Hid (Below N W X.drew) := HB1.out.drew
  have HF2 : Hid (Framed W X.drew) := HF1.out.trans (Framed.of_below ((Below.refl _ _).drew))
  clear d1 d4 d10 HS1 HB1 HF1
  generalize X.drew = Y at *
  obtain ⟨-, d1, -, d4, -, -, d10, -, -, df⟩ := HSd.out.words
  clear df
  by_cases hlt : s.y < s.h - 1
  · have HE2 : Hid (s' = { s with late := false, y := s.y + 1 }) := by unfold Hid; rw [HE.out, if_pos hlt]
    go_upto_region 3 with fail
    go_region
    have HSe : Hid (ShAt 63 Y.drew M N p { s with late := false } rows) := HSd.out.drew
    have HB3 : Hid (Below N W Y.drew) := HB2.out.drew
    have HF3 : Hid (Framed W Y.drew) := HF2.out.trans (Framed.of_below ((Below.refl _ _).drew))
    clear d1 d4 d10 HSd HB2 HF2
    generalize Y.drew = Z at *
    obtain ⟨-, d1, -, d4, -, -, d10, -, -, df⟩ := HSe.out.words
    have g4 := df 4
    have hw2 : IntKind.i64.wrap (s.y + 1) = s.y + 1 := wrap_id _ (by omega) (by omega)
    obtain ⟨hS4, hB4, hF4⟩ := HSe.out.put 4 (.int .i64 (s.y + 1)) (s' := { s with late := false, y := s.y + 1 }) (fun _ _ _ _ => rfl) rfl rfl
    have HR : Hid (Ran W M N p s' rows (.returned (.tuple #[])) (Z.setCell ⟨p, 4, none⟩ (.int .i64 (s.y + 1)))) := by
      unfold Hid
      rw [HE2.out]
      exact ⟨rfl, hS4, HB3.out.trans hB4, HF3.out.trans hF4⟩
    clear hS4 hB4 hF4 df
    go_wp2_with fail
    go_end0
    exact HR.out
  · have HE2 : Hid (s' = { s with late := false }) := by unfold Hid; rw [HE.out, if_neg hlt]
    go_upto_region 3 with fail
    go_region
    go_wp2_with fail
    go_end0
    rw [HE2.out]
    exact ⟨rfl, HSd.out.drew, HB2.out.drew, HF2.out.trans (Framed.of_below ((Below.refl _ _).drew))⟩
end Put
end Go.Proofs.YthokeflechajlaaDoor

/- (*sheet.Sheet).blanks, replace, Drop, Down: a row goes, and a blank one comes. -/
namespace Go.Proofs.YthokeflechajlaaDoor
open Go.ChangeShapes Go.WideShapes Go.ChangeAt Go.RowKit
namespace Put
open Grd (C SliceAt CellsAt gridErr z0 nilV flat rowsL OwnG RowB)
theorem getD_erase {α : Type} (l : List α) (i j : Nat) (d : α) : (l.eraseIdx i).getD j d = if j < i then l.getD j d else l.getD (j + 1) d := by
  simp only [List.getD, List.getElem?_eraseIdx]
  split <;> rfl
theorem getD_insert {α : Type} (l : List α) (i j : Nat) (x d : α) (hi : i ≤ l.length) : (l.insertIdx i x).getD j d = if j < i then l.getD j d else if j = i then x else l.getD (j - 1) d := by
  simp only [List.getD, List.getElem?_insertIdx]
  by_cases h1 : j < i
  · rw [if_pos h1, if_pos h1]
  · rw [if_neg h1, if_neg h1]
    by_cases h2 : j = i
    · subst h2
      rw [if_pos rfl, if_pos rfl, if_pos hi]
      rfl
    · rw [if_neg h2, if_neg h2]
theorem RowsIn.erase {W : World} {N : Nat} {vs : List Value} {rows : List (List C)} (h : RowsIn W N vs rows) (i : Nat) (hi : i < rows.length) : RowsIn W N (vs.eraseIdx i) (rows.eraseIdx i) := by
  have hl := h.1
  refine ⟨by rw [List.length_eraseIdx_of_lt (by omega), List.length_eraseIdx_of_lt hi, hl], fun j hj => ?_⟩
  rw [List.length_eraseIdx_of_lt hi] at hj
  rw [getD_erase, getD_erase]
  split
  · exact h.2 j (by omega)
  · exact h.2 (j + 1) (by omega)
theorem RowsIn.insert {W : World} {N : Nat} {vs : List Value} {rows : List (List C)} (h : RowsIn W N vs rows) (i : Nat) (hi : i ≤ rows.length) (v : Value) (row : List C) (hr : RowIn W N v row) : RowsIn W N (vs.insertIdx i v) (rows.insertIdx i row) := by
  have hl := h.1
  refine ⟨by rw [List.length_insertIdx_of_le_length (by omega), List.length_insertIdx_of_le_length hi, hl], fun j hj => ?_⟩
  rw [List.length_insertIdx_of_le_length hi] at hj
  rw [getD_insert _ _ _ _ _ (by omega), getD_insert _ _ _ _ _ hi]
  split
  · exact h.2 j (by omega)
  · split
    · exact hr
    · exact h.2 (j - 1) (by omega)
theorem RowsIn.sls {W : World} {N : Nat} {vs : List Value} {rows : List (List C)} (h : RowsIn W N vs rows) : ∀ v, v ∈ vs → IsSl v := by
  intro v hv
  obtain ⟨i, hi, rfl⟩ := List.mem_iff_getElem.1 hv
  obtain ⟨a, c, e⟩ := (h.2 i (by rw [← h.1]; exact hi)).shape
  have e2 : vs.getD i nilV = vs[i] := by simp [List.getD, hi]
  rw [e2] at e
  exact ⟨(a, _, c), e⟩
theorem sl_in {W : World} {N : Nat} {v : Value} {row : List C} (h : RowIn W N v row) : IsSl v := by
  obtain ⟨a, c, e⟩ := h.shape
  exact ⟨(a, _, c), e⟩
theorem ShA.keptR {W V : World} {M N p : Nat} {s : Scr} {rows : List (List C)} {cv tv gv rv : Value} {gvs vs : List Value} {rb : Nat} (h : ShA 63 W M N p s rows cv tv gv rv gvs vs) (hrb : rv.ownBlock = some rb) (ho : ∀ k, k < W.heap.size → k ≠ rb → V.heap[k]? = W.heap[k]?) : Kept M W V := fun k hk hS => ho k hk fun e => by
  obtain ⟨hlo, A, f, hA⟩ := owns_block h.rws rb hrb
  subst e
  rcases hS with hS | ⟨B, f', hS⟩
  · have := h.ml
    omega
  · rw [hA] at hS
    injection hS with hS
    injection hS with _ hS _
    exact absurd hS (by decide)
/-- Other rows in the same block. -/
theorem ShA.rowsNew {W V : World} {M N p : Nat} {s : Scr} {rows rows' : List (List C)} {cv tv gv rv rv' : Value} {gvs vs vs' : List Value} {rb : Nat} (h : ShA 63 W M N p s rows cv tv gv rv gvs vs) (hrb : rv.ownBlock = some rb) (hrb' : rv'.ownBlock = some rb)
    (ho : ∀ k, k < W.heap.size → k ≠ rb → V.heap[k]? = W.heap[k]?) (hw : V.ownsRow N 22 1 rv' rows'.length vs') (hr : RowsIn V M vs' rows') :
    ShA 63 (V.setCell ⟨p, 22, none⟩ rv') M N p s rows' cv tv gv rv' gvs vs' := by
  obtain ⟨hlo, A, f, hA⟩ := owns_block h.rws rb hrb
  have hpr : p ≠ rb := by
    intro e
    rw [← e, h.blk] at hA
    injection hA with hA
    injection hA with _ hA _
    exact absurd hA (by decide)
  have hp : V.heap[p]? = some (.cells (shA s cv tv gv rv) 63 (0, 0)) := (ho p (heap_lt h.blk) hpr).trans h.blk
  have hk1 : Kept M W V := fun k hk hS => ho k hk fun e => by
    subst e
    rcases hS with hS | ⟨B, f', hS⟩
    · have := h.ml
      omega
    · rw [hA] at hS
      injection hS with hS
      injection hS with _ hS _
      exact absurd hS (by decide)
  have hk2 : Kept M V (V.setCell ⟨p, 22, none⟩ rv') := Kept.store hp (by decide) (Nat.le_trans h.ml h.lo)
  have hof : ∀ {e : TypeId} {v : Value} {n : Nat} {xs : List Value}, e ≠ 63 → (∀ k, v.ownBlock = some k → k ≠ rb) → W.ownsRow N e 1 v n xs → (V.setCell ⟨p, 22, none⟩ rv').ownsRow N e 1 v n xs := fun hte hn hw => by
    refine own_off (owns_kept hw fun g hg => ?_) hp (Ne.symm hte)
    obtain ⟨-, B, f', hB⟩ := owns_block hw g hg
    exact ho g (heap_lt hB) (hn g hg)
  have hnb : ∀ k, tv.ownBlock = some k → k ≠ rb := fun k hk e => by
    subst e
    obtain ⟨-, B, f', hB⟩ := owns_block h.tabs k hk
    rw [hA] at hB
    injection hB with hB
    injection hB with _ hB _
    exact absurd hB (by decide)
  have hng : ∀ k, gv.ownBlock = some k → k ≠ rb := fun k hk e => h.two rb hrb (by rw [hk, e])
  refine ⟨store_at hp rfl, h.lo, h.ml, h.cvs, hof (by decide) hnb h.tabs, hof (by decide) hng h.gone, (h.gin.keep hk1).keep hk2, own_off hw hp (by decide), hr.keep hk2, fun k hk e => ?_⟩
  rw [hrb'] at hk
  exact hng k e (Option.some.inj hk).symm
theorem one4w (a : Int) (b c d : Int) : (#[.int .i32 a, .int .i64 b, .int .i64 c, .int .i64 d] : Array Value).all (·.oneCell') = true := by simp [Value.oneCell']
set_option maxHeartbeats 2000000 in
theorem blankS_any (p : Nat) (bk : Int) (V : World) (h : V.cell? ⟨p, 7, none⟩ = some (.int .i64 bk)) : Calls Tryd.prog 96 #[.pointer (some ⟨p, 0, none⟩)] V fun e V' => e = .returned (.agg #[.int .i32 32, .int .i64 0, .int .i64 bk, .int .i64 0]) ∧ Below V.heap.size V V' := by
  have x0 := heap_alloc_new V (.cells #[.int .i32 0, .int .i64 0, .int .i64 0, .int .i64 0] 41)
  have kb : Below V.heap.size V (V.alloc (.cells #[.int .i32 0, .int .i64 0, .int .i64 0, .int .i64 0] 41)) := (Below.refl _ _).alloc (Nat.le_refl _) _
  have h1 := cell_stay kb h
  have HX0 : Hid _ := x0
  have HKB : Hid _ := kb
  clear x0 kb h
  go_enter Tryd.func96, Tryd.ntmps96
  go_upto_region 1 with fail
  generalize V.alloc (.cells #[.int .i32 0, .int .i64 0, .int .i64 0, .int .i64 0] 41) = Y at *
  go_wp2_with (refine wpList_store_row rfl 41 (.tmp 2) _ rfl V.heap.size #[.int .i32 32, .int .i64 0, .int .i64 bk, .int .i64 0] rfl rfl _ _ HX0.out (by kernel_rfl) rfl (one4w _ _ _ _) ?_)
  (try simp only [Exit.inBlock, Exit.then])
  refine bodyPost_ret (v := .agg #[.int .i32 32, .int .i64 0, .int .i64 bk, .int .i64 0]) ?_ rfl ⟨rfl, below_setRow HKB.out (Nat.le_refl _) _⟩
  exact results_cell_row rfl _ _ V.heap.size _ _ _ _ rfl (setRow_heap _ _ _ _ _ _ HX0.out) Tryd.underlying41 rfl (by kernel_rfl)
theorem cells_one (V : World) (c : C) : CellsAt (V.alloc (.cells #[.int .i32 c.1, .int .i64 c.2.1, .int .i64 c.2.2.1, .int .i64 c.2.2.2] 41)) V.heap.size 0 [c] := fun j hj => by
  have h := heap_alloc_new V (.cells #[.int .i32 c.1, .int .i64 c.2.1, .int .i64 c.2.2.1, .int .i64 c.2.2.2] 41)
  generalize V.alloc (.cells #[.int .i32 c.1, .int .i64 c.2.1, .int .i64 c.2.2.1, .int .i64 c.2.2.2] 41) = X at *
  match j, hj with
  | 0, _ => exact ⟨by simp [World.cell?, h], by simp [World.cell?, h], by simp [World.cell?, h], by simp [World.cell?, h]⟩
set_option maxHeartbeats 2000000 in
theorem blanks_any (p n : Nat) (bk : Int) (W : World) (h7 : W.cell? ⟨p, 7, none⟩ = some (.int .i64 bk)) (hn1 : 1 ≤ n) (hn2 : n ≤ 120) :
    Calls Tryd.prog 79 #[.pointer (some ⟨p, 0, none⟩), .int .i64 (n : Int)] W fun e W' => ∃ a c g, e = .returned (.slice a n c) ∧ W.heap.size ≤ g ∧ RowB W' g (.slice a n c) (List.replicate n (32, 0, bk, 0)) ∧ Below W.heap.size W W' := by
  have HB := blankS_any p bk W h7
  have HRP : Hid (∀ V : World, Calls Tryd.prog 73 #[.slice (some ⟨V.heap.size, 0, none⟩) 1 1, .int .i64 (n : Int)] (V.alloc (.cells #[.int .i32 32, .int .i64 0, .int .i64 bk, .int .i64 0] 41)) fun e w' => ∃ v', e = .returned v' ∧ OwnG w' (V.alloc (.cells #[.int .i32 32, .int .i64 0, .int .i64 bk, .int .i64 0] 41)).heap.size v' (List.replicate n (32, 0, bk, 0)) ∧ Below (V.alloc (.cells #[.int .i32 32, .int .i64 0, .int .i64 bk, .int .i64 0] 41)).heap.size (V.alloc (.cells #[.int .i32 32, .int .i64 0, .int .i64 bk, .int .i64 0] 41)) w') := fun V => Grd.repeat_one V.heap.size 0 1 n (32, 0, bk, 0) _ (cells_one V (32, 0, bk, 0)) hn1 (by omega)
  clear h7
  go_enter Tryd.func79, Tryd.ntmps79
  go_wp2_with fail
  refine HB.mono ?_
  rintro e V1 ⟨rfl, b1⟩
  clear HB
  go_wp2_with fail
  refine (HRP.out V1).mono ?_
  rintro e V2 ⟨v2, rfl, ho, b2⟩
  have q2 := b1.alloc b1.size (.cells #[.int .i32 32, .int .i64 0, .int .i64 bk, .int .i64 0] 41)
  have q3 := q2.trans (b2.mono q2.size)
  obtain ⟨g, hg1, hr⟩ := own_rowB ho
  obtain ⟨cap, rest, hv, hc1, hc2, hh⟩ := hr
  subst hv
  go_wp2_with fail
  go_ret
  refine ⟨_, cap, g, rfl, by have := q2.size; omega, ⟨cap, rest, by rw [List.length_replicate], hc1, hc2, hh⟩, q3⟩
/-- A row goes, and a blank one comes. -/
def replR (rows : List (List C)) (n : Nat) (bk : Int) (gone fresh : Nat) : List (List C) := (rows.eraseIdx gone).insertIdx fresh (List.replicate n (32, 0, bk, 0))
theorem replR_len (rows : List (List C)) (n : Nat) (bk : Int) (gone fresh : Nat) (hg : gone < rows.length) (hf : fresh < rows.length) : (replR rows n bk gone fresh).length = rows.length := by
  unfold replR
  rw [List.length_insertIdx_of_le_length (by rw [List.length_eraseIdx_of_lt hg]; omega), List.length_eraseIdx_of_lt hg]
  omega
theorem replR_row (rows : List (List C)) (n : Nat) (bk : Int) (gone fresh : Nat) (hg : gone < rows.length) (hf : fresh < rows.length) (hn : ∀ i, i < rows.length → (rows.getD i []).length = n) (i : Nat) (hi : i < rows.length) : ((replR rows n bk gone fresh).getD i []).length = n := by
  have hl : (rows.eraseIdx gone).length = rows.length - 1 := List.length_eraseIdx_of_lt hg
  have he : ∀ j, j < rows.length - 1 → ((rows.eraseIdx gone).getD j []).length = n := fun j hj => by
    rw [getD_erase]
    split
    · exact hn j (by omega)
    · exact hn (j + 1) (by omega)
  unfold replR
  rw [getD_insert _ _ _ _ _ (by omega)]
  split
  · exact he i (by omega)
  · split
    · simp
    · exact he (i - 1) (by omega)
set_option linter.unusedSimpArgs false in
set_option maxHeartbeats 4000000 in
set_option maxRecDepth 100000 in
theorem replace_any (W : World) (M N p n : Nat) (s : Scr) (rows : List (List C)) (hS : ShAt 63 W M N p s rows) (gone fresh : Nat) (hw : s.w = n) (hn1 : 1 ≤ n) (hn2 : n ≤ 120) (hg : gone < rows.length) (hf : fresh < rows.length) (hrl : rows.length ≤ 60) :
    Calls Tryd.prog 57 #[.pointer (some ⟨p, 0, none⟩), .int .i64 (gone : Int), .int .i64 (fresh : Int)] W (Ran W M N p s (replR rows n s.sb gone fresh)) := by
  obtain ⟨cv, tv, gv, rv, gvs, vs, hS⟩ := hS
  obtain ⟨rb, rc, hrv, hrb, hrc1, hrc2, hvl, hrcell, A, hrA⟩ := own_cells hS.rws (by omega)
  subst hrv
  have HD := delete_own N rb rows.length rc gone vs W hS.rws hS.rin.sls hg
  obtain ⟨⟨c0, -⟩, ⟨-, -, -, -, -, -, -, -, -, -, -, c22⟩, f⟩ := sh_cells hS.blk
  have hpr : p ≠ rb := by
    intro e
    rw [← e, hS.blk] at hrA
    injection hrA with hrA
    injection hrA with _ hrA _
    exact absurd hrA (by decide)
  have hlo := hS.lo
  have hwg : IntKind.i64.wrap ((gone : Int) + 1) = ((gone + 1 : Nat) : Int) := by rw [wrap_id _ (by omega) (by omega)]; omega
  have HS : Hid (ShA 63 W M N p s rows cv tv gv (.slice (some ⟨rb, 0, none⟩) rows.length rc) gvs vs) := hS
  clear hS hrcell hvl f c0
  go_enter Tryd.func57, Tryd.ntmps57
  go_wp2_with fail
  refine HD.mono ?_
  rintro e V1 ⟨rfl, hO1, hk1, hb1⟩
  have hpV := (hk1 p hpr).trans HS.out.blk
  have c22' := (sh_cells hpV).2.1.2.2.2.2.2.2.2.2.2.2.2
  have f22 := (sh_cells hpV).2.2 22
  go_upto_region 1 with fail
  have hS1 : ShA 63 (V1.setCell ⟨p, 22, none⟩ (.slice (some ⟨rb, 0, none⟩) (rows.length - 1) rc)) M N p s (rows.eraseIdx gone) cv tv gv (.slice (some ⟨rb, 0, none⟩) (rows.length - 1) rc) gvs (vs.eraseIdx gone) :=
    HS.out.rowsNew (rb := rb) rfl rfl (fun k _ hk => hk1 k hk) (by rw [List.length_eraseIdx_of_lt hg]; exact hO1) ((HS.out.rin.erase gone hg).keep (HS.out.keptR (rb := rb) rfl fun k _ hk => hk1 k hk))
  have hB1 : Below N W (V1.setCell ⟨p, 22, none⟩ (.slice (some ⟨rb, 0, none⟩) (rows.length - 1) rc)) := (hb1.mono hrb).setCell hlo _
  have hF1 : Framed W (V1.setCell ⟨p, 22, none⟩ (.slice (some ⟨rb, 0, none⟩) (rows.length - 1) rc)) := fun k o hk ho => by
    have e1 : k ≠ rb := by
      intro e
      rw [e, hrA] at hk
      injection hk with hk
      exact not_other_rows (ho A _ _ hk.symm)
    exact Framed.store hpV not_other_sheet k o ((hk1 k e1).trans hk) ho
  have HS1 : Hid _ := hS1
  have HB1 : Hid _ := hB1
  have HF1 : Hid _ := hF1
  clear hS1 hB1 hF1 hO1 hk1 hb1 hpV c22' f22 c22 hrA HS HD
  generalize V1.setCell ⟨p, 22, none⟩ (.slice (some ⟨rb, 0, none⟩) (rows.length - 1) rc) = X at *
  have hX := HS1.out
  obtain ⟨⟨c0, -, -, -, -, -, -, c7, -⟩, ⟨-, -, -, -, -, -, -, -, -, -, -, c22⟩, -⟩ := sh_cells hX.blk
  rw [hw] at c0
  have b0 : Below X.heap.size X X.drew := (Below.refl _ _).drew
  have hNX : N ≤ X.heap.size := Nat.le_trans hlo (Nat.le_of_lt (heap_lt hX.blk))
  have HBL := blanks_any p n s.sb X.drew (cell_stay b0 c7) hn1 hn2
  have HIN : Hid (∀ (V2 : World) (a : Option Addr) (c g : Nat), Below X.heap.size X V2 → RowB V2 g (.slice a n c) (List.replicate n (32, 0, s.sb, 0)) → Calls Tryd.prog 78 #[.slice (some ⟨rb, 0, none⟩) (rows.length - 1) rc, .int .i64 (fresh : Int), .slice (some ⟨V2.heap.size, 0, none⟩) 1 1] (V2.alloc (.cells #[.slice a n c] 22)) fun e V3 => e = .returned (.slice (some ⟨rb, 0, none⟩) (rows.length - 1 + 1) rc) ∧ V3.cell? ⟨p, 22, none⟩ = some (.slice (some ⟨rb, 0, none⟩) (rows.length - 1) rc) ∧ V3.frozen? ⟨p, 22, none⟩ = false ∧ Hid (Ran W M N p s (replR rows n s.sb gone fresh) (.returned (.tuple #[])) (V3.setCell ⟨p, 22, none⟩ (.slice (some ⟨rb, 0, none⟩) (rows.length - 1 + 1) rc)))) := fun V2 a c g q1 hR => by
    have q2 := q1.alloc q1.size (.cells #[.slice a n c] 22)
    have hS2 := hX.next q2
    have hal := heap_alloc_new V2 (.cells #[.slice a n c] 22)
    have hri : RowIn V2 M (.slice a n c) (List.replicate n (32, 0, s.sb, 0)) := rowIn_rowB hR
    have hle : (rows.eraseIdx gone).length = rows.length - 1 := List.length_eraseIdx_of_lt hg
    obtain ⟨-, B, f', hB⟩ := owns_block hX.rws rb rfl
    have hne : V2.heap.size ≠ rb := by have h1 := heap_lt hB; have h2 := q1.size; omega
    have key := insert_own N rb (rows.length - 1) rc fresh V2.heap.size 1 (vs.eraseIdx gone) (.slice a n c) _ (by have := hS2.rws; rwa [hle] at this) hS2.rin.sls (sl_in hri) (by omega) (by omega) hal hne
    refine Calls.mono key ?_
    rintro e V3 ⟨rfl, hO3, hk3, hb3⟩
    have hp3 : V3.heap[p]? = _ := (hk3 p hpr).trans hS2.blk
    have hri3 : RowIn V3 M (.slice a n c) (List.replicate n (32, 0, s.sb, 0)) := (hri.keep (Kept.of_below ((Below.refl _ _).alloc (Nat.le_refl _) _))).keep (hS2.keptR (rb := rb) rfl fun k _ hk => hk3 k hk)
    have hS3 := hS2.rowsNew (rb := rb) (rv' := .slice (some ⟨rb, 0, none⟩) (rows.length - 1 + 1) rc) (rows' := replR rows n s.sb gone fresh) (vs' := (vs.eraseIdx gone).insertIdx fresh (.slice a n c)) rfl rfl (fun k _ hk => hk3 k hk) (by rw [replR_len rows n s.sb gone fresh hg hf, show rows.length = rows.length - 1 + 1 by omega]; exact hO3) ((hS2.rin.keep (hS2.keptR (rb := rb) rfl fun k _ hk => hk3 k hk)).insert fresh (by omega) _ _ hri3)
    refine ⟨rfl, (sh_cells hp3).2.1.2.2.2.2.2.2.2.2.2.2.2, (sh_cells hp3).2.2 22, rfl, ⟨_, _, _, _, _, _, hS3⟩, ((HB1.out.trans (q2.mono hNX)).trans (hb3.mono hrb)).setCell hlo _, ?_⟩
    refine (Framed.trans HF1.out (Framed.of_below q2)).trans ?_
    intro k o hk ho
    have e1 : k ≠ rb := by
      intro e
      have hB2 := Grd.carry hB q2
      rw [e, hB2] at hk
      injection hk with hk
      exact not_other_rows (ho B _ _ hk.symm)
    exact Framed.store hp3 not_other_sheet k o ((hk3 k e1).trans hk) ho
  have HC22 : Hid (∀ V, Below X.heap.size X V → V.cell? ⟨p, 22, none⟩ = some (.slice (some ⟨rb, 0, none⟩) (rows.length - 1) rc)) := fun V h => cell_stay h c22
  clear hX c7 HS1 HB1 HF1 hw
  generalize rows.length - 1 = m at *
  generalize replR rows n s.sb gone fresh = rows' at *
  go_region_with (first
    | (go_at_call 79; refine HBL.mono ?_; rintro e V2 ⟨a, c, g, rfl, hg2, hR, b2⟩; have q1 := b0.trans (b2.mono b0.size); have d22 := HC22.out _ q1; have e22 := HC22.out _ (q1.alloc q1.size (.cells #[.slice a n c] 22)); have hI := HIN.out V2 a c g q1 hR; clear hR b2)
    | (go_at_call 78; refine hI.mono ?_; rintro e V3 ⟨rfl, z22, zf, HE⟩))
  all_goals go_wp2_with fail
  all_goals go_end0
  all_goals exact HE.out
end Put
end Go.Proofs.YthokeflechajlaaDoor
