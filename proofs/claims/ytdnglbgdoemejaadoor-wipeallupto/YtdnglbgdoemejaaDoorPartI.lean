/- A screen out of what the row reads, and how many values it holds. -/
import Derived.Test.YtdnglbgdoemejaaDoorPartE
import Derived.Test.YtdnglbgdoemejaaDoorPartH
import Derived.Test.YtdnglbgdoemejaaDoorRows
import Derived.Deep.Slices
import Derived.Test.YtdnglbgdoemejaaDoorPartG
import Derived.Test.YtdnglbgdoemejaaDoorPartF
import Derived.Deep.RegionWith
import Derived.Deep.RegionHeld3
import Derived.BigRegion
import Derived.BigQuiet
import Derived.Lib.RuneBytes
namespace Go.Proofs.YtdnglbgdoemejaaDoor
open Go.ChangeShapes Go.WideShapes Go.ChangeAt Go.RowKit
namespace Put
open Grd (C SliceAt CellsAt CIn i64_in i32_in)
section
variable {H : Type} {enc : TypeId × Value → H} {W : World}
theorem bulk_pos (d : DataW H) : 1 ≤ Rows.uptoBulk d := by
  cases d with
  | lit l => cases l <;> simp [Rows.uptoBulk]
  | _ => simp [Rows.uptoBulk]
theorem bulk_mem {d : DataW H} : ∀ {l : List (DataW H)}, d ∈ l → Rows.uptoBulk d ≤ Rows.uptoBulkAll l
  | x :: l, h => by
    rcases List.mem_cons.1 h with rfl | h
    · simp only [Rows.uptoBulkAll]; omega
    · have := bulk_mem h
      simp only [Rows.uptoBulkAll]; omega
theorem bulk_len : ∀ (l : List (DataW H)), l.length ≤ Rows.uptoBulkAll l
  | [] => by simp
  | x :: l => by
    have := bulk_len l
    have := bulk_pos x
    simp only [Rows.uptoBulkAll, List.length_cons]; omega
theorem trod_struct4 {P : Program} {base : Nat} {spare : Nat → Bool} {held : Bool} {t : TypeId} {f0 f1 f2 f3 : Field} {fuel : Nat} {cs : List Value} {x : DataW H × List MemPlace} (ht : P.underlying t = some (.struct #[f0, f1, f2, f3])) (h : DataW.trod enc P W base spare held fuel t cs = some x) :
    ∃ y0 y1 y2 y3 n, x.1 = .agg [y0.1, y1.1, y2.1, y3.1] ∧ cs.length = P.cellsOf t ∧ DataW.trod enc P W base spare held n f0.type ((cs.drop f0.offset).take (P.cellsOf f0.type)) = some y0 ∧
      DataW.trod enc P W base spare held n f1.type ((cs.drop f1.offset).take (P.cellsOf f1.type)) = some y1 ∧
      DataW.trod enc P W base spare held n f2.type ((cs.drop f2.offset).take (P.cellsOf f2.type)) = some y2 ∧
      DataW.trod enc P W base spare held n f3.type ((cs.drop f3.offset).take (P.cellsOf f3.type)) = some y3 := by
  obtain ⟨xs, n, _, rfl, hl, hlen, hf⟩ := DataW.trod_struct ht h
  match xs, hlen with
  | [y0, y1, y2, y3], _ => exact ⟨y0, y1, y2, y3, n, by simp, hl, by simpa using hf 0 f0 rfl, by simpa using hf 1 f1 rfl, by simpa using hf 2 f2 rfl, by simpa using hf 3 f3 rfl⟩
theorem trod_struct13 {P : Program} {base : Nat} {spare : Nat → Bool} {held : Bool} {t : TypeId} {f0 f1 f2 f3 f4 f5 f6 f7 f8 f9 f10 f11 f12 : Field} {fuel : Nat} {cs : List Value} {x : DataW H × List MemPlace} (ht : P.underlying t = some (.struct #[f0, f1, f2, f3, f4, f5, f6, f7, f8, f9, f10, f11, f12])) (h : DataW.trod enc P W base spare held fuel t cs = some x) :
    ∃ y0 y1 y2 y3 y4 y5 y6 y7 y8 y9 y10 y11 y12 n, x.1 = .agg [y0.1, y1.1, y2.1, y3.1, y4.1, y5.1, y6.1, y7.1, y8.1, y9.1, y10.1, y11.1, y12.1] ∧ cs.length = P.cellsOf t ∧ DataW.trod enc P W base spare held n f0.type ((cs.drop f0.offset).take (P.cellsOf f0.type)) = some y0 ∧
      DataW.trod enc P W base spare held n f1.type ((cs.drop f1.offset).take (P.cellsOf f1.type)) = some y1 ∧
      DataW.trod enc P W base spare held n f2.type ((cs.drop f2.offset).take (P.cellsOf f2.type)) = some y2 ∧
      DataW.trod enc P W base spare held n f3.type ((cs.drop f3.offset).take (P.cellsOf f3.type)) = some y3 ∧
      DataW.trod enc P W base spare held n f4.type ((cs.drop f4.offset).take (P.cellsOf f4.type)) = some y4 ∧
      DataW.trod enc P W base spare held n f5.type ((cs.drop f5.offset).take (P.cellsOf f5.type)) = some y5 ∧
      DataW.trod enc P W base spare held n f6.type ((cs.drop f6.offset).take (P.cellsOf f6.type)) = some y6 ∧
      DataW.trod enc P W base spare held n f7.type ((cs.drop f7.offset).take (P.cellsOf f7.type)) = some y7 ∧
      DataW.trod enc P W base spare held n f8.type ((cs.drop f8.offset).take (P.cellsOf f8.type)) = some y8 ∧
      DataW.trod enc P W base spare held n f9.type ((cs.drop f9.offset).take (P.cellsOf f9.type)) = some y9 ∧
      DataW.trod enc P W base spare held n f10.type ((cs.drop f10.offset).take (P.cellsOf f10.type)) = some y10 ∧
      DataW.trod enc P W base spare held n f11.type ((cs.drop f11.offset).take (P.cellsOf f11.type)) = some y11 ∧
      DataW.trod enc P W base spare held n f12.type ((cs.drop f12.offset).take (P.cellsOf f12.type)) = some y12 := by
  obtain ⟨xs, n, _, rfl, hl, hlen, hf⟩ := DataW.trod_struct ht h
  match xs, hlen with
  | [y0, y1, y2, y3, y4, y5, y6, y7, y8, y9, y10, y11, y12], _ => exact ⟨y0, y1, y2, y3, y4, y5, y6, y7, y8, y9, y10, y11, y12, n, by simp, hl, by simpa using hf 0 f0 rfl, by simpa using hf 1 f1 rfl, by simpa using hf 2 f2 rfl, by simpa using hf 3 f3 rfl, by simpa using hf 4 f4 rfl, by simpa using hf 5 f5 rfl, by simpa using hf 6 f6 rfl, by simpa using hf 7 f7 rfl, by simpa using hf 8 f8 rfl, by simpa using hf 9 f9 rfl, by simpa using hf 10 f10 rfl, by simpa using hf 11 f11 rfl, by simpa using hf 12 f12 rfl⟩
theorem cells_bulk {cs : List C} {d : DataW H} (h : cs = [] ∨ ∃ elems sp, d = .slice elems sp ∧ cs.length = elems.length) : cs.length ≤ Rows.uptoBulk d := by
  rcases h with rfl | ⟨el, sp, rfl, hl⟩
  · simp
  · have := bulk_len el
    rw [hl]
    simp only [Rows.uptoBulk]
    omega
/-- A slice of bools. -/
theorem open_bools {fuel : Nat} {v : Value} {y : DataW H × List MemPlace} (h : DataW.trod enc Tryd.prog W 0 (fun _ => true) true fuel 27 [v] = some y) :
    ∃ l : List Bool, BoolsV W v l ∧ l.length ≤ Rows.uptoBulk y.1 := by
  rcases Deep.open_slice und_bools h with ⟨hcs, _⟩ | ⟨a, len, cap, m, n, D, Pl, hcs, _, hl, hm, hmm, rfl, hx⟩
  · simp at hcs
    subst hcs
    exact ⟨[], .inl ⟨rfl, _, _, rfl⟩, by simp⟩
  · simp at hcs
    subst hcs
    simp only [if_true] at hmm
    rw [show Tryd.prog.cellsOf 4 = 1 by kernel_rfl] at hx
    obtain ⟨f, hf⟩ := Deep.choose_lt (α := Bool) (p := fun i c => W.cell? ((a.add (i * 1)).add 0) = some (.bool c)) (n := len) (fun i hi => by
      obtain ⟨cs', h1, h2⟩ := hx i (by omega)
      obtain ⟨_, _, hc⟩ := World.cells?_some h1
      obtain ⟨c, rfl, _⟩ := DataW.trod_bool Tryd.underlying4 h2
      exact ⟨c, hc 0 (by omega)⟩)
    have hlen : ((List.range len).map f).length = len := by simp
    refine ⟨(List.range len).map f, ?_, ?_⟩
    · by_cases h0 : len = 0
      · subst h0
        exact .inl ⟨by simp, _, _, rfl⟩
      · obtain ⟨b, off, spot⟩ := a
        have hspot : spot = none := by
          have := hf 0 (by omega)
          simpa [Addr.add] using World.cell?_spot this
        subst hspot
        refine .inr ⟨b, off, cap, by rw [hlen], by rw [hlen]; omega, by unfold maxLen at hm; omega, fun j hj => ?_⟩
        rw [hlen] at hj
        have hg : ((List.range len).map f).getD j false = f j := by simp [List.getD, hj]
        rw [hg]
        have hc := hf j hj
        rw [add_plain, add_plain] at hc
        simpa using hc
    · rw [hlen]
      have h := bulk_len ((List.range len).map D)
      rw [List.length_map, List.length_range] at h
      simp only [Rows.uptoBulk]
      omega
/-- A slice of rows. -/
theorem open_rows {fuel : Nat} {v : Value} {y : DataW H × List MemPlace} (h : DataW.trod enc Tryd.prog W 0 (fun _ => true) true fuel 30 [v] = some y) :
    ∃ l : List (List C), RowsV W v l ∧ l.length ≤ Rows.uptoBulk y.1 ∧ ∀ row ∈ l, row.length ≤ Rows.uptoBulk y.1 := by
  rcases Deep.open_slice und_rows h with ⟨hcs, _⟩ | ⟨a, len, cap, m, n, D, Pl, hcs, _, hl, hm, hmm, rfl, hx⟩
  · simp at hcs
    subst hcs
    exact ⟨[], .inl ⟨rfl, _, _, rfl⟩, by simp, by simp⟩
  · simp at hcs
    subst hcs
    simp only [if_true] at hmm
    rw [show Tryd.prog.cellsOf 22 = 1 by kernel_rfl] at hx
    obtain ⟨f, hf⟩ := Deep.choose_lt (α := List C) (p := fun i row => ∃ rv, W.cell? ((a.add (i * 1)).add 0) = some rv ∧ SliceAt W rv row ∧ row.length ≤ Rows.uptoBulk (D i)) (n := len) (fun i hi => by
      obtain ⟨cs', h1, h2⟩ := hx i (by omega)
      obtain ⟨hlen1, _, hc⟩ := World.cells?_some h1
      match cs', hlen1 with
      | [rv], _ =>
        obtain ⟨row, hs, -, hb⟩ := Grd.open_cells h2
        exact ⟨row, rv, hc 0 (by omega), hs, cells_bulk hb⟩)
    have hlen : ((List.range len).map f).length = len := by simp
    refine ⟨(List.range len).map f, ?_, ?_, ?_⟩
    · by_cases h0 : len = 0
      · subst h0
        exact .inl ⟨by simp, _, _, rfl⟩
      · obtain ⟨b, off, spot⟩ := a
        have hspot : spot = none := by
          obtain ⟨rv, hc, -⟩ := hf 0 (by omega)
          simpa [Addr.add] using World.cell?_spot hc
        subst hspot
        refine .inr ⟨b, off, cap, by rw [hlen], by rw [hlen]; omega, by unfold maxLen at hm; omega, fun j hj => ?_⟩
        rw [hlen] at hj
        have hg : ((List.range len).map f).getD j [] = f j := by simp [List.getD, hj]
        rw [hg]
        obtain ⟨rv, hc, hs, -⟩ := hf j hj
        rw [add_plain, add_plain] at hc
        exact ⟨rv, by simpa using hc, hs⟩
    · rw [hlen]
      have h := bulk_len ((List.range len).map D)
      rw [List.length_map, List.length_range] at h
      simp only [Rows.uptoBulk]
      omega
    · intro row hrow
      simp only [List.mem_map, List.mem_range] at hrow
      obtain ⟨i, hi, rfl⟩ := hrow
      obtain ⟨rv, -, -, hb⟩ := hf i hi
      have h1 : Rows.uptoBulk (D i) ≤ Rows.uptoBulkAll ((List.range len).map D) := bulk_mem (List.mem_map.2 ⟨i, List.mem_range.2 hi, rfl⟩)
      simp only [Rows.uptoBulk]
      omega
set_option maxRecDepth 100000 in
theorem open_kept {fuel : Nat} {vs : List Value} {y : DataW H × List MemPlace} (h : DataW.trod enc Tryd.prog W 0 (fun _ => true) true fuel 29 vs = some y) :
    ∃ x y' f b c m : Int, vs = [.int .i64 x, .int .i64 y', .int .i64 f, .int .i64 b, .int .i64 c, .int .i64 m] ∧ (-9223372036854775808 ≤ m ∧ m ≤ 9223372036854775807) := by
  obtain ⟨y0, y1, y2, y3, n, -, hl, e0, e1, e2, e3⟩ := trod_struct4 Tryd.underlying29 h
  rw [show Tryd.prog.cellsOf 29 = 6 by kernel_rfl] at hl
  match vs, hl with
  | [v0, v1, v2, v3, v4, v5], _ =>
    simp only [show Tryd.prog.cellsOf 3 = 1 by kernel_rfl, show Tryd.prog.cellsOf 26 = 3 by kernel_rfl] at e0 e1 e2 e3
    obtain ⟨a0, k0, _, w0⟩ := DataW.trod_int Tryd.underlying3 e0
    obtain ⟨a1, k1, _, w1⟩ := DataW.trod_int Tryd.underlying3 e1
    obtain ⟨f, b, x, k2, -⟩ := Grd.open_style e2
    obtain ⟨a3, k3, _, w3⟩ := DataW.trod_int Tryd.underlying3 e3
    obtain rfl : v0 = _ := by simpa using k0
    obtain rfl : v1 = _ := by simpa using k1
    obtain ⟨rfl, rfl, rfl⟩ : v2 = _ ∧ v3 = _ ∧ v4 = _ := by simpa using k2
    obtain rfl : v5 = _ := by simpa using k3
    exact ⟨a0, a1, f, b, x, a3, rfl, i64_in w3⟩
set_option maxRecDepth 100000 in
theorem open_grid3 {fuel : Nat} {vs : List Value} {y : DataW H × List MemPlace} (h : DataW.trod enc Tryd.prog W 0 (fun _ => true) true fuel 24 vs = some y) :
    ∃ (a b : Int) (u : Value) (cs : List C), vs = [.int .i64 a, .int .i64 b, u] ∧ SliceAt W u cs ∧ cs.length ≤ Rows.uptoBulk y.1 := by
  obtain ⟨y0, y1, y2, n, hy, hl, e0, e1, e2⟩ := Deep.trod_struct3 Tryd.underlying24 h
  rw [show Tryd.prog.cellsOf 24 = 3 by kernel_rfl] at hl
  match vs, hl with
  | [v0, v1, v2], _ =>
    simp only [show Tryd.prog.cellsOf 3 = 1 by kernel_rfl, show Tryd.prog.cellsOf 22 = 1 by kernel_rfl] at e0 e1 e2
    obtain ⟨a0, k0, _, w0⟩ := DataW.trod_int Tryd.underlying3 e0
    obtain ⟨a1, k1, _, w1⟩ := DataW.trod_int Tryd.underlying3 e1
    obtain ⟨cs, hs, -, hb⟩ := Grd.open_cells (show DataW.trod enc Tryd.prog W 0 (fun _ => true) true n 22 [v2] = some y2 from e2)
    obtain rfl : v0 = _ := by simpa using k0
    obtain rfl : v1 = _ := by simpa using k1
    refine ⟨a0, a1, v2, cs, rfl, hs, ?_⟩
    have h1 := cells_bulk hb
    rw [hy]
    simp only [Rows.uptoBulk, Rows.uptoBulkAll]
    omega
set_option maxRecDepth 100000 in
set_option maxHeartbeats 1000000 in
theorem open_screen {r : Reach} {b0 : Nat} {v : Value} {d : DataW H} {p : List MemPlace} (hv : Value.okWide Tryd.prog W r b0 32 v) (h : DataW.Trod enc Tryd.prog W 0 (fun _ => true) true 32 v d p) :
    ∃ (s : Scr) (cv tv gv : Value), v = .agg (scrA s cv tv gv) ∧ ScrV W s cv tv gv ∧ ((-9223372036854775808 ≤ s.modes ∧ s.modes ≤ 9223372036854775807) ∧ (-9223372036854775808 ≤ s.km ∧ s.km ≤ 9223372036854775807) ∧ (-2147483648 ≤ s.last ∧ s.last ≤ 2147483647)) ∧ s.title.size ≤ Rows.uptoBulk d ∧ s.gone.length ≤ Rows.uptoBulk d ∧ s.tabs.length ≤ Rows.uptoBulk d ∧ s.cs.length ≤ Rows.uptoBulk d ∧ ∀ row ∈ s.gone, row.length ≤ Rows.uptoBulk d := by
  obtain ⟨cs, rfl, hsz⟩ := okWide_struct Tryd.underlying32 hv
  obtain ⟨fuel, hf⟩ := h
  obtain ⟨y0, y1, y2, y3, y4, y5, y6, y7, y8, y9, y10, y11, y12, n, hx, hl, h0, h1, h2, h3, h4, h5, h6, h7, h8, h9, h10, h11, h12⟩ := trod_struct13 Tryd.underlying32 hf
  rw [show Tryd.prog.cellsOf 32 = 22 by kernel_rfl] at hl
  obtain ⟨l⟩ := cs
  match l, hl with
  | [c0, c1, c2, c3, c4, c5, c6, c7, c8, c9, c10, c11, c12, c13, c14, c15, c16, c17, c18, c19, c20, c21], _ =>
    simp only [show Tryd.prog.cellsOf 3 = 1 by kernel_rfl, show Tryd.prog.cellsOf 21 = 1 by kernel_rfl, show Tryd.prog.cellsOf 9 = 1 by kernel_rfl, show Tryd.prog.cellsOf 4 = 1 by kernel_rfl, show Tryd.prog.cellsOf 27 = 1 by kernel_rfl, show Tryd.prog.cellsOf 30 = 1 by kernel_rfl, show Tryd.prog.cellsOf 24 = 3 by kernel_rfl, show Tryd.prog.cellsOf 26 = 3 by kernel_rfl, show Tryd.prog.cellsOf 29 = 6 by kernel_rfl, Value.cells] at h0 h1 h2 h3 h4 h5 h6 h7 h8 h9 h10 h11 h12
    obtain ⟨a0, a1, u, gcs, k0, hs0, hb0⟩ := open_grid3 h0
    obtain ⟨a3, k1, _, w1⟩ := DataW.trod_int Tryd.underlying3 h1
    obtain ⟨a4, k2, _, w2⟩ := DataW.trod_int Tryd.underlying3 h2
    obtain ⟨a5, k3, _⟩ := DataW.trod_bool Tryd.underlying4 h3
    obtain ⟨f, b, x, k4, -⟩ := Grd.open_style h4
    obtain ⟨a9, k5, _, w5⟩ := DataW.trod_int Tryd.underlying3 h5
    obtain ⟨a10, k6, _, w6⟩ := DataW.trod_int Tryd.underlying3 h6
    obtain ⟨a11, k7, _, w7⟩ := DataW.trod_int Tryd.underlying3 h7
    obtain ⟨tl, hs8, hb8⟩ := open_bools (show DataW.trod enc Tryd.prog W 0 (fun _ => true) true n 27 [c12] = some y8 from h8)
    obtain ⟨b13, b14, b15, b16, b17, b18, k9, w9⟩ := open_kept h9
    obtain ⟨a19, k10, _, w10⟩ := DataW.trod_int Tryd.underlying21 h10
    obtain ⟨a20, k11, g11, w11⟩ := DataW.trod_string Tryd.underlying9 h11
    obtain ⟨gl, hs12, hb12, hr12⟩ := open_rows (show DataW.trod enc Tryd.prog W 0 (fun _ => true) true n 30 [c21] = some y12 from h12)
    obtain ⟨rfl, rfl, rfl⟩ : c0 = _ ∧ c1 = _ ∧ c2 = _ := by simpa using k0
    obtain rfl : c3 = _ := by simpa using k1
    obtain rfl : c4 = _ := by simpa using k2
    obtain rfl : c5 = _ := by simpa using k3
    obtain ⟨rfl, rfl, rfl⟩ : c6 = _ ∧ c7 = _ ∧ c8 = _ := by simpa using k4
    obtain rfl : c9 = _ := by simpa using k5
    obtain rfl : c10 = _ := by simpa using k6
    obtain rfl : c11 = _ := by simpa using k7
    obtain ⟨rfl, rfl, rfl, rfl, rfl, rfl⟩ : c13 = _ ∧ c14 = _ ∧ c15 = _ ∧ c16 = _ ∧ c17 = _ ∧ c18 = _ := by simpa using k9
    obtain rfl : c19 = _ := by simpa using k10
    obtain rfl : c20 = _ := by simpa using k11
    have hb : Rows.uptoBulk d = Rows.uptoBulk y0.1 + (Rows.uptoBulk y1.1 + (Rows.uptoBulk y2.1 + (Rows.uptoBulk y3.1 + (Rows.uptoBulk y4.1 + (Rows.uptoBulk y5.1 + (Rows.uptoBulk y6.1 + (Rows.uptoBulk y7.1 + (Rows.uptoBulk y8.1 + (Rows.uptoBulk y9.1 + (Rows.uptoBulk y10.1 + (Rows.uptoBulk y11.1 + (Rows.uptoBulk y12.1 + 0)))))))))))) + 1 := by
      rw [show d = _ from hx]
      simp only [Rows.uptoBulk, Rows.uptoBulkAll]
    have b11 : Rows.uptoBulk y11.1 = a20.data.toList.length + 1 := by rw [g11]; simp only [Rows.uptoBulk]
    have s11 : a20.size = a20.data.toList.length := by rw [Array.length_toList]; rfl
    exact ⟨⟨a0, a1, gcs, a3, a4, a5, f, b, x, a9, a10, a11, tl, b13, b14, b15, b16, b17, b18, a19, a20, gl⟩, c2, c12, c21, rfl, ⟨hs0, hs8, hs12⟩, ⟨i64_in w7, w9, i32_in w10⟩, by show a20.size ≤ _; omega, by show gl.length ≤ _; omega, by show tl.length ≤ _; omega, by show gcs.length ≤ _; omega, fun row hrow => by have := hr12 row hrow; omega⟩
theorem fits_of {s : Scr} {k : Nat} (h : (-9223372036854775808 ≤ s.modes ∧ s.modes ≤ 9223372036854775807) ∧ (-9223372036854775808 ≤ s.km ∧ s.km ≤ 9223372036854775807) ∧ (-2147483648 ≤ s.last ∧ s.last ≤ 2147483647)) (h1 : s.title.size ≤ k) (h2 : s.gone.length ≤ k) (h3 : s.tabs.length ≤ k) (hk : k ≤ 1048576) : Fits s := ⟨h.1.1, h.1.2, h.2.1.1, h.2.1.2, by omega, by omega, by omega⟩
end
end Put
end Go.Proofs.YtdnglbgdoemejaaDoor

/- What stays of a sheet whose words change; Has. -/
namespace Go.Proofs.YtdnglbgdoemejaaDoor
open Go.ChangeShapes Go.WideShapes Go.ChangeAt Go.RowKit
namespace Put
open Grd (C SliceAt CellsAt gridErr z0 nilV flat rowsL)
theorem ShA.set {t : TypeId} (ht : IsSheet t) {W : World} {M N p : Nat} {s s' : Scr} {rows : List (List C)} {cv tv gv rv : Value} {gvs vs : List Value} (h : ShA t W M N p s rows cv tv gv rv gvs vs) (i : Nat) (v : Value) (e : (shA s cv tv gv rv).setIfInBounds i v = shA s' cv tv gv rv) (h1 : s'.tabs = s.tabs) (h2 : s'.gone = s.gone) : ShA t (W.setCell ⟨p, i, none⟩ v) M N p s' rows cv tv gv rv gvs vs :=
  h.put ht (store_at h.blk e) (fun _ hk => store_off hk) h1 h2
theorem ShAt.set {t : TypeId} (ht : IsSheet t) {W : World} {M N p : Nat} {s s' : Scr} {rows : List (List C)} (h : ShAt t W M N p s rows) (i : Nat) (v : Value) (e : ∀ cv tv gv rv, (shA s cv tv gv rv).setIfInBounds i v = shA s' cv tv gv rv) (h1 : s'.tabs = s.tabs) (h2 : s'.gone = s.gone) : ShAt t (W.setCell ⟨p, i, none⟩ v) M N p s' rows := by
  obtain ⟨cv, tv, gv, rv, gvs, vs, h⟩ := h
  exact ⟨cv, tv, gv, rv, gvs, vs, h.set ht i v (e _ _ _ _) h1 h2⟩
theorem ShAt.next {t : TypeId} {W W' : World} {M N p : Nat} {s : Scr} {rows : List (List C)} (h : ShAt t W M N p s rows) (hb : Below W.heap.size W W') : ShAt t W' M N p s rows := by
  obtain ⟨cv, tv, gv, rv, gvs, vs, h⟩ := h
  exact ⟨cv, tv, gv, rv, gvs, vs, h.next hb⟩
theorem ShAt.lo {t : TypeId} {W : World} {M N p : Nat} {s : Scr} {rows : List (List C)} (h : ShAt t W M N p s rows) : N ≤ p := by
  obtain ⟨cv, tv, gv, rv, gvs, vs, h⟩ := h
  exact h.lo
theorem ShAt.drew {t : TypeId} {W : World} {M N p : Nat} {s : Scr} {rows : List (List C)} (h : ShAt t W M N p s rows) : ShAt t W.drew M N p s rows := h.next ((Below.refl _ _).drew)
/-- The words of a sheet that are numbers. -/
theorem ShAt.words {t : TypeId} {W : World} {M N p : Nat} {s : Scr} {rows : List (List C)} (h : ShAt t W M N p s rows) :
    W.cell? ⟨p, 0, none⟩ = some (.int .i64 s.w) ∧ W.cell? ⟨p, 1, none⟩ = some (.int .i64 s.h) ∧ W.cell? ⟨p, 3, none⟩ = some (.int .i64 s.x) ∧ W.cell? ⟨p, 4, none⟩ = some (.int .i64 s.y) ∧ W.cell? ⟨p, 5, none⟩ = some (.bool s.late) ∧ W.cell? ⟨p, 9, none⟩ = some (.int .i64 s.top) ∧ W.cell? ⟨p, 10, none⟩ = some (.int .i64 s.bot) ∧ W.cell? ⟨p, 11, none⟩ = some (.int .i64 s.modes) ∧ W.cell? ⟨p, 19, none⟩ = some (.int .i32 s.last) ∧ ∀ i, W.frozen? ⟨p, i, none⟩ = false := by
  obtain ⟨cv, tv, gv, rv, gvs, vs, h⟩ := h
  obtain ⟨⟨c0, c1, -, c3, c4, c5, -, -, -, c9, c10⟩, ⟨c11, -, -, -, -, -, -, -, c19, -⟩, f⟩ := sh_cells h.blk
  exact ⟨c0, c1, c3, c4, c5, c9, c10, c11, c19, f⟩
theorem ShAt.fin {t : TypeId} (ht : IsSheet t) {W : World} {M N p : Nat} {s s' : Scr} {rows : List (List C)} (h : ShAt t W M N p s rows) (i : Nat) (v : Value) (e : ∀ cv tv gv rv, (shA s cv tv gv rv).setIfInBounds i v = shA s' cv tv gv rv) (h1 : s'.tabs = s.tabs) (h2 : s'.gone = s.gone) : ∀ v', v' = v → ShAt t (W.setCell ⟨p, i, none⟩ v').drew M N p s' rows ∧ Below N W (W.setCell ⟨p, i, none⟩ v').drew := fun v' hv => by
  subst hv
  exact ⟨(h.set ht i _ e h1 h2).drew, ((Below.refl _ _).setCell h.lo _).drew⟩
theorem wrap_id (a : Int) (h0 : -9223372036854775808 ≤ a) (h1 : a ≤ 9223372036854775807) : IntKind.i64.wrap a = a := by
  rw [IntKind.wrap_i64]
  omega
theorem int_wrap (a : Int) (h0 : -9223372036854775808 ≤ a) (h1 : a ≤ 9223372036854775807) : Value.int .i64 (IntKind.i64.wrap a) = Value.int .i64 a := by rw [wrap_id a h0 h1]
/-- Are these bits set? -/
def hasB (m b : Int) : Bool := bits .and .i64 m b == b
theorem has_any {M N p : Nat} {s : Scr} {rows : List (List C)} (b : Int) (W : World) (hS : ShAt 70 W M N p s rows) : Calls Tryd.prog 70 #[.pointer (some ⟨p, 0, none⟩), .int .i64 b] W fun e w' => e = .returned (.bool (hasB s.modes b)) ∧ W = w' := by
  obtain ⟨c0, c1, c3, c4, c5, c9, c10, c11, c19, f⟩ := hS.words
  clear c0 c1 c3 c4 c5 c9 c10 c19 f hS
  go_enter Tryd.func70, Tryd.ntmps70
  go_wp2_with fail
  go_ret
  exact ⟨rfl, rfl⟩
end Put
end Go.Proofs.YtdnglbgdoemejaaDoor

/- (*sheet.Sheet).alter: a row is made anew. -/
namespace Go.Proofs.YtdnglbgdoemejaaDoor
open Go.ChangeShapes Go.WideShapes Go.ChangeAt Go.RowKit
namespace Put
open Grd (C SliceAt CellsAt gridErr z0 nilV flat rowsL OwnG RowB)
/-- Blocks of other types than those that a sheet writes to are kept. -/
def Other (t : TypeId) : Prop := t ≠ 70 ∧ t ≠ 4 ∧ t ≠ 22
def OtherO (o : Obj) : Prop := ∀ (A : Array Value) (t : TypeId) (f : Nat × Nat), o = .cells A t f → Other t
def Framed (W W' : World) : Prop := ∀ (k : Nat) (o : Obj), W.heap[k]? = some o → OtherO o → W'.heap[k]? = some o
theorem Framed.refl (W : World) : Framed W W := fun _ _ h _ => h
theorem Framed.trans {a b c : World} (h : Framed a b) (k : Framed b c) : Framed a c := fun i o hi ho => k i o (h i o hi ho) ho
theorem Framed.of_below {W W' : World} (h : Below W.heap.size W W') : Framed W W' := fun k _ hk _ => (h.block k (heap_lt hk)).trans hk
theorem Framed.store {W : World} {p i : Nat} {v : Value} {A : Array Value} {t : TypeId} (hp : W.heap[p]? = some (.cells A t (0, 0))) (ht : ¬ Other t) : Framed W (W.setCell ⟨p, i, none⟩ v) := fun k o hk ho => by
  have hne : k ≠ p := by
    intro e
    rw [e, hp] at hk
    injection hk with hk
    exact ht (ho A t (0, 0) hk.symm)
  exact (store_off hne).trans hk
theorem other_cells {A : Array Value} {t : TypeId} {f : Nat × Nat} (h : Other t) : OtherO (.cells A t f) := fun B u g e => by
  injection e with _ e _
  rw [← e]
  exact h
theorem not_other_sheet : ¬ Other 70 := fun h => h.1 rfl
theorem not_other_rows : ¬ Other 22 := fun h => h.2.2 rfl
theorem not_other_bool : ¬ Other 4 := fun h => h.2.1 rfl
theorem Framed.cell {W W' : World} (h : Framed W W') {k i : Nat} {A : Array Value} {t : TypeId} (hk : W.heap[k]? = some (.cells A t (0, 0))) (ho : Other t) : W'.cell? ⟨k, i, none⟩ = W.cell? ⟨k, i, none⟩ := by
  have h1 := h k _ hk (other_cells ho)
  simp only [World.cell?, h1, hk]
/-- What a sheet is behind a call that changes it. -/
def Ran (W : World) (M N p : Nat) (s' : Scr) (rows' : List (List C)) (e : Ending) (W' : World) : Prop := e = .returned (.tuple #[]) ∧ ShAt 70 W' M N p s' rows' ∧ Below N W W' ∧ Framed W W'
theorem own_rowB {W : World} {base : Nat} {v : Value} {row : List C} (h : OwnG W base v row) : ∃ g, base ≤ g ∧ RowB W g v row := by
  obtain ⟨g, cap, rest, ⟨t, rfl⟩, hv, hg, h1, h2, h3⟩ := h
  exact ⟨g, hg, cap, rest, hv, h1, h2, h3⟩
theorem ShA.storeRow {V : World} {M N p : Nat} {s : Scr} {rows : List (List C)} {cv tv gv rv : Value} {gvs vs : List Value} (h : ShA 70 V M N p s rows cv tv gv rv gvs vs) {rb rc y : Nat} (hrv : rv = .slice (some ⟨rb, 0, none⟩) rows.length rc) {v : Value} {row' : List C} (hr : RowIn V M v row') : ShA 70 (V.setCell ⟨rb, y, none⟩ v) M N p s (rows.set y row') cv tv gv rv gvs (vs.set y v) := by
  obtain ⟨hlo, A, f, hA⟩ := owns_block h.rws rb (by rw [hrv]; rfl)
  have hA0 : ∃ A, V.heap[rb]? = some (.cells A 22 (0, 0)) := by
    have h1 := h.rws
    rw [hrv] at h1
    obtain ⟨-, ⟨h1, -⟩ | ⟨g', cap, cur, hv, -, hh, -⟩⟩ := h1
    · injection h1 with h1
      cases h1
    · injection hv with hv1 _ _
      injection hv1 with hv1
      injection hv1 with hv1
      subst hv1
      exact ⟨cur, hh⟩
  obtain ⟨B, hB⟩ := hA0
  have hne : p ≠ rb := by
    intro e
    rw [← e, h.blk] at hB
    injection hB with hB
    injection hB with _ hB _
    exact absurd hB (by decide)
  have hK : Kept M V (V.setCell ⟨rb, y, none⟩ v) := Kept.store hB (by decide) (Nat.le_trans h.ml hlo)
  refine ⟨(store_off hne).trans h.blk, h.lo, h.ml, h.cvs, own_off h.tabs hB (by decide), owns_kept h.gone fun g hg => store_off fun e => h.two rb (by rw [hrv]; rfl) (by rw [hg, e]), h.gin.keep hK, ?_, (h.rin.set y v row' hr).keep hK, h.two⟩
  have h1 := h.rws
  rw [hrv] at h1 ⊢
  rw [List.length_set]
  exact own_set h1
/-- What a function makes of a row that is handed to it as a grid. -/
def Alters (hf : FuncId) (caps : Array Value) (M : Nat) (W : World) (n : Int) (v : Value) (row' : List C) : Prop :=
  ∀ W1, Below W.heap.size W W1 → Calls Tryd.prog hf (#[.agg #[.int .i64 n, .int .i64 1, v]] ++ caps) W1 fun e W2 => ∃ a c, e = .returned (.agg #[.int .i64 n, .int .i64 1, .slice a row'.length c]) ∧ RowIn W2 M (.slice a row'.length c) row' ∧ Below W1.heap.size W1 W2
theorem field_cells (n : Int) (q : Option Addr) (l k : Nat) (W : World) : (Instr.field 24 (.agg #[.int .i64 n, .int .i64 1, .slice q l k]) 2).run Tryd.prog W = .ok (.slice q l k) W := by kernel_rfl
set_option maxHeartbeats 4000000 in
set_option maxRecDepth 100000 in
theorem alter_any (W : World) (M N p : Nat) (s : Scr) (rows : List (List C)) (cv tv gv rv : Value) (gvs vs : List Value) (hS : ShA 70 W M N p s rows cv tv gv rv gvs vs) (y : Nat) (hy : y < rows.length) (hf : FuncId) (hpl : Plain hf) (caps : Array Value) (row' : List C) (hA : Alters hf caps M W s.w (vs.getD y nilV) row') :
    Calls Tryd.prog 85 #[.pointer (some ⟨p, 0, none⟩), .int .i64 (y : Int), .func (.func hf) #[] caps] W (Ran W M N p s (rows.set y row')) := by
  obtain ⟨rb, rc, hrv, hrb, hrc1, hrc2, hvl, hrcell, A, hrA⟩ := own_cells hS.rws (by omega)
  obtain ⟨va, vc, hsh⟩ := (hS.rin.2 y hy).shape
  have hfd := field_cells s.w
  have hyI : (0 : Int) ≤ (y : Int) := by omega
  have hyI2 : (y : Int) < (rows.length : Int) := by omega
  have d1 := hrcell y hy
  have HW : Hid (ShA 70 W M N p s rows cv tv gv rv gvs vs) := hS
  obtain ⟨⟨c0, -⟩, ⟨-, -, -, -, -, -, -, -, -, -, -, c22⟩, -⟩ := sh_cells hS.blk
  rw [hrv] at c22
  rw [hsh] at d1 hA
  have HA : Hid (Alters hf caps M W s.w (.slice va (rows.getD y []).length vc) row') := hA
  have hne : rb ≠ p := by
    intro e
    rw [e, hS.blk] at hrA
    injection hrA with hrA
    injection hrA with _ hrA _
    exact absurd hrA (by decide)
  have HRA : Hid (W.heap[rb]? = some (.cells A 22 (0, 0))) := hrA
  have HRV : Hid (rv = .slice (some ⟨rb, 0, none⟩) rows.length rc) := hrv
  have hlo := hS.lo
  have hml := hS.ml
  unfold Plain at hpl
  obtain ⟨row, hrow⟩ : ∃ row, row = rows.getD y [] := ⟨_, rfl⟩
  rw [← hrow] at d1 HA
  have hpl' := heap_lt hS.blk
  have hWb : W.heap.size ≠ rb := by have := heap_lt hrA; omega
  have hrl' := heap_lt hrA
  clear hS hA hrA hrcell hsh hrow hrv
  go_enter Tryd.func85, Tryd.ntmps85
  go_upto_region 0 with fail
  go_region
  have bX : Below W.heap.size W (W.alloc (.cells #[.int .i64 s.w, .int .i64 1, .slice va row.length vc] 24)).drew := ((Below.refl _ _).alloc (Nat.le_refl _) _).drew
  have xX : (W.alloc (.cells #[.int .i64 s.w, .int .i64 1, .slice va row.length vc] 24)).drew.heap[W.heap.size]? = some (.cells #[.int .i64 s.w, .int .i64 1, .slice va row.length vc] 24 (0, 0)) := heap_alloc_new W _
  have HBX : Hid _ := bX
  have HXX : Hid _ := xX
  have k22 := cell_stay bX c22
  have kd := cell_stay bX d1
  obtain ⟨g0, g1, g2, -⟩ := Grd.cells3 xX
  clear c0 c22 d1 bX xX
  generalize (W.alloc (.cells #[.int .i64 s.w, .int .i64 1, .slice va row.length vc] 24)).drew = X at *
  go_wp2_with fail
  have e0 : (fun w' => w'.cell? ⟨p, 22, none⟩ = some (.slice (some ⟨rb, 0, none⟩) rows.length rc) ∧ w'.cell? ⟨W.heap.size, 0, none⟩ = some (.int .i64 s.w) ∧ w'.cell? ⟨W.heap.size, 1, none⟩ = some (.int .i64 1) ∧ w'.cell? ⟨W.heap.size, 2, none⟩ = some (.slice va row.length vc)) X.drew := ⟨k22, g0, g1, g2⟩
  go_region_held3 (fun w' => w'.cell? ⟨p, 22, none⟩ = some (.slice (some ⟨rb, 0, none⟩) rows.length rc) ∧ w'.cell? ⟨W.heap.size, 0, none⟩ = some (.int .i64 s.w) ∧ w'.cell? ⟨W.heap.size, 1, none⟩ = some (.int .i64 1) ∧ w'.cell? ⟨W.heap.size, 2, none⟩ = some (.slice va row.length vc))
    (first | exact e2 | exact e1 | exact e0)
    (first | (refine (HA.out X.drew (HBX.out.drew)).mono ?_; rintro e V ⟨na, nc, rfl, hri, b1⟩; have e1 : (fun w' => w'.cell? ⟨p, 22, none⟩ = some (.slice (some ⟨rb, 0, none⟩) rows.length rc) ∧ w'.cell? ⟨W.heap.size, 0, none⟩ = some (.int .i64 s.w) ∧ w'.cell? ⟨W.heap.size, 1, none⟩ = some (.int .i64 1) ∧ w'.cell? ⟨W.heap.size, 2, none⟩ = some (.slice va row.length vc)) V := ⟨cell_stay b1 k22, cell_stay b1 g0, cell_stay b1 g1, cell_stay b1 g2⟩; have bV : Below W.heap.size W V := (HBX.out.drew).trans (b1.mono HBX.out.size); have hV := Grd.carry HRA.out bV; have d2 := cell_stay b1 kd; have fz : V.frozen? ⟨rb, y, none⟩ = false := frozen_cells hV y; have e2 : (fun w' => w'.cell? ⟨p, 22, none⟩ = some (.slice (some ⟨rb, 0, none⟩) rows.length rc) ∧ w'.cell? ⟨W.heap.size, 0, none⟩ = some (.int .i64 s.w) ∧ w'.cell? ⟨W.heap.size, 1, none⟩ = some (.int .i64 1) ∧ w'.cell? ⟨W.heap.size, 2, none⟩ = some (.slice va row.length vc)) (V.setCell ⟨rb, y, none⟩ (.slice na row'.length nc)) := ⟨(cell_store_off hne.symm).trans e1.1, (cell_store_off hWb).trans e1.2.1, (cell_store_off hWb).trans e1.2.2.1, (cell_store_off hWb).trans e1.2.2.2⟩; have HRI : Hid (RowIn V M (.slice na row'.length nc) row') := hri; have HBV : Hid (Below W.heap.size W V) := bV; clear hri b1 bV hV))
  go_end0
  exact ⟨rfl, ⟨_, _, _, _, _, _, (HW.out.next HBV.out).storeRow HRV.out HRI.out⟩, (HBV.out.mono (by omega)).setCell hrb _, (Framed.of_below HBV.out).trans (Framed.store (Grd.carry HRA.out HBV.out) not_other_rows)⟩
end Put
end Go.Proofs.YtdnglbgdoemejaaDoor

/- The walk of grid.Fill. -/
namespace Go.Proofs.YtdnglbgdoemejaaDoor
open Go.ChangeShapes Go.WideShapes Go.ChangeAt Go.RowKit
namespace Grd
open Txt (wd)
open Sty (isSt)
def inside (at' long : Int) (size : Nat) (x : Nat) : Bool := decide (max (nearI at') 0 ≤ (x : Int) ∧ (x : Int) < min (nearI at' + nearI long) size)
def fillF (n hh : Nat) (rx ry rw rh : Int) (c : C) (y : Nat) (row : List C) : List C := if inside ry rh hh y then mendL (putRow row (inside rx rw n) fun _ => c) else row
def fillG (n hh : Nat) (cs : List C) (rx ry rw rh : Int) (c : C) : List C := preF n cs (fillF n hh rx ry rw rh c) hh
theorem fillF_len (n hh : Nat) (rx ry rw rh : Int) (c : C) : KeepLen n (fillF n hh rx ry rw rh c) := fun y row h => by
  unfold fillF
  split
  · rw [mendL_len, putRow_len, h]
  · exact h
theorem near_in (a : Int) : -1000 ≤ nearI a ∧ nearI a ≤ 1000 := by unfold nearI; omega
/-- The cells when the rows below k are done. -/
def upto (n hh : Nat) (cs : List C) (f : Nat → List C → List C) (k : Nat) : List C := preF n cs f (min k hh) ++ cs.drop (min k hh * n)
theorem upto_start (n hh : Nat) (cs : List C) (f : Nat → List C → List C) (k : Nat) (h : ∀ y, y < k → f y (rowAt n cs y) = rowAt n cs y) : upto n hh cs f k = cs := by
  unfold upto
  rw [preF_id n cs f _ (fun y hy => h y (by omega)), List.take_append_drop]
theorem upto_end (n hh : Nat) (cs : List C) (f : Nat → List C → List C) (hL : cs.length = n * hh) (k : Nat) (h : ∀ y, k ≤ y → f y (rowAt n cs y) = rowAt n cs y) : upto n hh cs f k = preF n cs f hh := by
  unfold upto
  by_cases hk : k ≤ hh
  · rw [Nat.min_eq_left hk]
    exact (preF_rest n hh cs f hL k (hh - k) (by omega) (fun y h1 _ => h y h1)).symm
  · rw [Nat.min_eq_right (by omega), List.drop_of_length_le (by rw [hL, Nat.mul_comm]; exact Nat.le_refl _), List.append_nil]
theorem upto_at (n hh : Nat) (cs : List C) (f : Nat → List C → List C) (k : Nat) (hk : k < hh) : upto n hh cs f k = preF n cs f k ++ (rowAt n cs k ++ cs.drop ((k + 1) * n)) := by
  unfold upto
  rw [Nat.min_eq_left (by omega), drop_row]
theorem upto_next (n hh : Nat) (cs : List C) (f : Nat → List C → List C) (k : Nat) (hk : k < hh) : upto n hh cs f (k + 1) = preF n cs f k ++ (f k (rowAt n cs k) ++ cs.drop ((k + 1) * n)) := by
  unfold upto
  rw [Nat.min_eq_left (by omega)]
  show (preF n cs f k ++ f k (rowAt n cs k)) ++ _ = _
  rw [List.append_assoc]
theorem upto_len (n hh : Nat) (cs : List C) (f : Nat → List C → List C) (hL : cs.length = n * hh) (hf : KeepLen n f) (k : Nat) : (upto n hh cs f k).length = cs.length := by
  unfold upto
  rw [List.length_append, preF_len n hh cs f hL hf _ (by omega), List.length_drop]
  have : min k hh * n ≤ cs.length := by rw [hL, Nat.mul_comm n hh]; exact Nat.mul_le_mul_right _ (by omega)
  omega
theorem flat_three (a b c : List C) (rest : List Value) : flat (a ++ (b ++ c)) ++ rest = flat a ++ (flat b ++ (flat c ++ rest)) := by
  rw [flat_append, flat_append]; simp only [List.append_assoc]
theorem alloc4 (w : World) (o0 o1 o2 o3 : Obj) : ((((w.alloc o0).alloc o1).alloc o2).alloc o3).heap[w.heap.size]? = some o0 ∧ ((((w.alloc o0).alloc o1).alloc o2).alloc o3).heap[w.heap.size + 1]? = some o1 ∧
    ((((w.alloc o0).alloc o1).alloc o2).alloc o3).heap[w.heap.size + 2]? = some o2 ∧ ((((w.alloc o0).alloc o1).alloc o2).alloc o3).heap[w.heap.size + 3]? = some o3 ∧
    Below w.heap.size w ((((w.alloc o0).alloc o1).alloc o2).alloc o3) ∧ ((((w.alloc o0).alloc o1).alloc o2).alloc o3).heap.size = w.heap.size + 4 := by
  have s1 : (w.alloc o0).heap.size = w.heap.size + 1 := by simp
  have s2 : ((w.alloc o0).alloc o1).heap.size = w.heap.size + 2 := by simp
  have s3 : (((w.alloc o0).alloc o1).alloc o2).heap.size = w.heap.size + 3 := by simp
  refine ⟨?_, ?_, ?_, ?_, (((Below.refl _ _).alloc (Nat.le_refl _) _).alloc (by omega) _ |>.alloc (by omega) _).alloc (by omega) _, by simp⟩
  · rw [Below.heap_alloc _ _ _ (by omega), Below.heap_alloc _ _ _ (by omega), Below.heap_alloc _ _ _ (by omega), heap_alloc_new]
  · rw [Below.heap_alloc _ _ _ (by omega), Below.heap_alloc _ _ _ (by omega), ← s1, heap_alloc_new]
  · rw [Below.heap_alloc _ _ _ (by omega), ← s2, heap_alloc_new]
  · rw [← s3, heap_alloc_new]
theorem alloc3 (w : World) (o0 o1 o2 : Obj) : (((w.alloc o0).alloc o1).alloc o2).heap[w.heap.size]? = some o0 ∧ (((w.alloc o0).alloc o1).alloc o2).heap[w.heap.size + 1]? = some o1 ∧
    (((w.alloc o0).alloc o1).alloc o2).heap[w.heap.size + 2]? = some o2 ∧
    Below w.heap.size w (((w.alloc o0).alloc o1).alloc o2) ∧ (((w.alloc o0).alloc o1).alloc o2).heap.size = w.heap.size + 3 := by
  have s1 : (w.alloc o0).heap.size = w.heap.size + 1 := by simp
  have s2 : ((w.alloc o0).alloc o1).heap.size = w.heap.size + 2 := by simp
  refine ⟨?_, ?_, ?_, (((Below.refl _ _).alloc (Nat.le_refl _) _).alloc (by omega) _).alloc (by omega) _, by simp⟩
  · rw [Below.heap_alloc _ _ _ (by omega), Below.heap_alloc _ _ _ (by omega), heap_alloc_new]
  · rw [Below.heap_alloc _ _ _ (by omega), ← s1, heap_alloc_new]
  · rw [← s2, heap_alloc_new]
theorem near_same (n : Int) (w : World) : Calls Tryd.prog 108 #[.int .i64 n] w fun e w' => e = .returned (.int .i64 (nearI n)) ∧ w' = w := (near_any n w).mono fun _ _ h => ⟨h.1, h.2.symm⟩
theorem reach_same (p l : Int) (s : Int) (w : World) : Calls Tryd.prog 107 #[.int .i64 (nearI p), .int .i64 (nearI l), .int .i64 s] w fun e w' => e = .returned (.tuple #[.int .i64 (max (nearI p) 0), .int .i64 (min (nearI p + nearI l) s)]) ∧ w' = w :=
  (reach_any _ _ s w (by have := near_in p; omega) (by have := near_in p; omega) (by have := near_in l; omega) (by have := near_in l; omega)).mono fun _ _ h => ⟨h.1, h.2.symm⟩
set_option maxHeartbeats 1000000 in
theorem fill_bad1 (a h : Int) (v : Value) (cs : List C) (rx ry rw rh r f bk x : Int) (w : World) (hT : Txt.Tab w) (hS : SliceAt w v cs) (hok : gridErr a h cs ≠ 0) :
    Calls Tryd.prog 87 #[.agg #[.int .i64 a, .int .i64 h, v], .agg #[.int .i64 rx, .int .i64 ry, .int .i64 rw, .int .i64 rh], .agg #[.int .i32 r, .int .i64 f, .int .i64 bk, .int .i64 x]] w fun e w' => e = .returned (.tuple #[.agg #[.int .i64 0, .int .i64 0, .slice none 0 0], .int .i64 (gridErr a h cs)]) ∧ Below w.heap.size w w' := by
  obtain ⟨_, _, _, x3, kk, hsz⟩ := alloc4 w (.cells #[.int .i64 a, .int .i64 h, v] 24) (.cells #[.int .i64 rx, .int .i64 ry, .int .i64 rw, .int .i64 rh] 113) (.cells #[.int .i32 r, .int .i64 f, .int .i64 bk, .int .i64 x] 49) (.cells #[.int .i64 0, .int .i64 0, .slice none 0 0] 24)
  have HK := check_any a h v cs _ (Tab.next hT kk) (hS.below kk)
  generalize hW0 : ((((w.alloc (.cells #[.int .i64 a, .int .i64 h, v] 24)).alloc (.cells #[.int .i64 rx, .int .i64 ry, .int .i64 rw, .int .i64 rh] 113)).alloc (.cells #[.int .i32 r, .int .i64 f, .int .i64 bk, .int .i64 x] 49)).alloc (.cells #[.int .i64 0, .int .i64 0, .slice none 0 0] 24)) = W0 at x3 kk hsz HK
  have HW0 : Hid (_ = W0) := hW0
  generalize gridErr a h cs = er at *
  have HK' : Hid (Calls Tryd.prog 24 #[.agg #[.int .i64 a, .int .i64 h, v]] W0 fun e w' => e = .returned (.int .i64 er) ∧ Below W0.heap.size W0 w') := HK
  have ne : (er != 0) = true := by simpa using hok
  clear HK hW0 hok
  go_enter Tryd.func87, Tryd.ntmps87
  go_wp2_with (first
    | (go_at_call 24; rw [HW0.out]; refine HK'.out.mono ?_; rintro e W1 ⟨rfl, b1⟩; have y3 := carry x3 b1)
    | (refine wpList_store_row rfl 24 (.tmp 6) _ rfl (w.heap.size + 3) #[.int .i64 0, .int .i64 0, .slice none 0 0] rfl rfl _ _ y3 (by kernel_rfl) rfl (one3v _ _ _ _ _) ?_))
  (try simp only [Exit.inBlock, Exit.then])
  refine bodyPost_ret (v := .tuple #[.agg #[.int .i64 0, .int .i64 0, .slice none 0 0], .int .i64 er]) ?_ rfl ⟨rfl, below_setRow (kk.trans (b1.mono kk.size)) (by omega) _⟩
  exact results_row_tmp rfl _ _ (w.heap.size + 3) _ _ _ _ rfl (setRow_heap _ _ _ _ _ _ y3) Tryd.underlying24 rfl (by kernel_rfl) _ rfl
end Grd
end Go.Proofs.YtdnglbgdoemejaaDoor

/- The walk of grid.Fill: the wrong cell, and the right one. -/
namespace Go.Proofs.YtdnglbgdoemejaaDoor
open Go.ChangeShapes Go.WideShapes Go.ChangeAt Go.RowKit
namespace Grd
open Txt (wd)
open Sty (isSt)
theorem check_ok (a h : Int) (v : Value) (cs : List C) (w : World) (hT : Txt.Tab w) (hS : SliceAt w v cs) (hok : gridErr a h cs = 0) :
    Calls Tryd.prog 24 #[.agg #[.int .i64 a, .int .i64 h, v]] w fun e w' => e = .returned (.int .i64 0) ∧ Below w.heap.size w w' := by
  have := check_any a h v cs w hT hS
  rwa [hok] at this
set_option maxHeartbeats 1000000 in
theorem fill_bad2 (a h : Int) (v : Value) (cs : List C) (rx ry rw rh r f bk x : Int) (w : World) (hT : Txt.Tab w) (hS : SliceAt w v cs) (hok : gridErr a h cs = 0) (hr : wd r ≠ 1) :
    Calls Tryd.prog 87 #[.agg #[.int .i64 a, .int .i64 h, v], .agg #[.int .i64 rx, .int .i64 ry, .int .i64 rw, .int .i64 rh], .agg #[.int .i32 r, .int .i64 f, .int .i64 bk, .int .i64 x]] w fun e w' => e = .returned (.tuple #[.agg #[.int .i64 0, .int .i64 0, .slice none 0 0], .int .i64 4]) ∧ Below w.heap.size w w' := by
  obtain ⟨_, _, x2, x3, kk, hsz⟩ := alloc4 w (.cells #[.int .i64 a, .int .i64 h, v] 24) (.cells #[.int .i64 rx, .int .i64 ry, .int .i64 rw, .int .i64 rh] 113) (.cells #[.int .i32 r, .int .i64 f, .int .i64 bk, .int .i64 x] 49) (.cells #[.int .i64 0, .int .i64 0, .slice none 0 0] 24)
  have HK := check_ok a h v cs _ (Tab.next hT kk) (hS.below kk) hok
  have HT : Hid (∀ W, Below w.heap.size w W → Txt.Tab W) := fun W k => Tab.next hT k
  clear hT hS hok
  generalize hW0 : ((((w.alloc (.cells #[.int .i64 a, .int .i64 h, v] 24)).alloc (.cells #[.int .i64 rx, .int .i64 ry, .int .i64 rw, .int .i64 rh] 113)).alloc (.cells #[.int .i32 r, .int .i64 f, .int .i64 bk, .int .i64 x] 49)).alloc (.cells #[.int .i64 0, .int .i64 0, .slice none 0 0] 24)) = W0 at x2 x3 kk hsz HK
  have HW0 : Hid (_ = W0) := hW0
  have HK' : Hid (Calls Tryd.prog 24 #[.agg #[.int .i64 a, .int .i64 h, v]] W0 fun e w' => e = .returned (.int .i64 0) ∧ Below W0.heap.size W0 w') := HK
  obtain ⟨wr, hwr⟩ : ∃ q, wd r = q := ⟨_, rfl⟩
  have HR : Hid (wd r = wr) := hwr
  rw [hwr] at hr
  have ne : (wr != 1) = true := by simpa using hr
  clear HK hW0 hwr hr
  go_enter Tryd.func87, Tryd.ntmps87
  go_wp2_with (first
    | (go_at_call 24; rw [HW0.out]; refine HK'.out.mono ?_; rintro e W1 ⟨rfl, b1⟩; have k1 := kk.trans (b1.mono kk.size); have y3 := carry x3 b1; have ⟨c0, c1, c2, c3⟩ := cells4 (carry x2 b1))
    | (go_at_call 28; refine (width_to r _ (HT.out _ k1) _ HR.out).mono ?_; rintro e W2 ⟨rfl, b2⟩; have k2 := k1.trans (b2.mono k1.size); have z3 := carry y3 b2)
    | (refine wpList_store_row rfl 24 (.tmp 6) _ rfl (w.heap.size + 3) #[.int .i64 0, .int .i64 0, .slice none 0 0] rfl rfl _ _ z3 (by kernel_rfl) rfl (one3v _ _ _ _ _) ?_))
  (try simp only [Exit.inBlock, Exit.then])
  refine bodyPost_ret (v := .tuple #[.agg #[.int .i64 0, .int .i64 0, .slice none 0 0], .int .i64 4]) ?_ rfl ⟨rfl, below_setRow k2 (by omega) _⟩
  exact results_row_tmp rfl _ _ (w.heap.size + 3) _ _ _ _ rfl (setRow_heap _ _ _ _ _ _ z3) Tryd.underlying24 rfl (by kernel_rfl) _ rfl
set_option maxHeartbeats 1000000 in
theorem fill_bad3 (a h : Int) (v : Value) (cs : List C) (rx ry rw rh r f bk x : Int) (w : World) (hT : Txt.Tab w) (hS : SliceAt w v cs) (hok : gridErr a h cs = 0) (hr : wd r = 1) (hs : isSt (f, bk, x) = false) :
    Calls Tryd.prog 87 #[.agg #[.int .i64 a, .int .i64 h, v], .agg #[.int .i64 rx, .int .i64 ry, .int .i64 rw, .int .i64 rh], .agg #[.int .i32 r, .int .i64 f, .int .i64 bk, .int .i64 x]] w fun e w' => e = .returned (.tuple #[.agg #[.int .i64 0, .int .i64 0, .slice none 0 0], .int .i64 4]) ∧ Below w.heap.size w w' := by
  obtain ⟨_, _, x2, x3, kk, hsz⟩ := alloc4 w (.cells #[.int .i64 a, .int .i64 h, v] 24) (.cells #[.int .i64 rx, .int .i64 ry, .int .i64 rw, .int .i64 rh] 113) (.cells #[.int .i32 r, .int .i64 f, .int .i64 bk, .int .i64 x] 49) (.cells #[.int .i64 0, .int .i64 0, .slice none 0 0] 24)
  have HK := check_ok a h v cs _ (Tab.next hT kk) (hS.below kk) hok
  have HT : Hid (∀ W, Below w.heap.size w W → Txt.Tab W) := fun W k => Tab.next hT k
  clear hT hS hok
  generalize hW0 : ((((w.alloc (.cells #[.int .i64 a, .int .i64 h, v] 24)).alloc (.cells #[.int .i64 rx, .int .i64 ry, .int .i64 rw, .int .i64 rh] 113)).alloc (.cells #[.int .i32 r, .int .i64 f, .int .i64 bk, .int .i64 x] 49)).alloc (.cells #[.int .i64 0, .int .i64 0, .slice none 0 0] 24)) = W0 at x2 x3 kk hsz HK
  have HW0 : Hid (_ = W0) := hW0
  have HK' : Hid (Calls Tryd.prog 24 #[.agg #[.int .i64 a, .int .i64 h, v]] W0 fun e w' => e = .returned (.int .i64 0) ∧ Below W0.heap.size W0 w') := HK
  have HR : Hid (wd r = 1) := hr
  have HS : Hid (isSt (f, bk, x) = false) := hs
  clear HK hW0 hr hs
  go_enter Tryd.func87, Tryd.ntmps87
  go_wp2_with (first
    | (go_at_call 24; rw [HW0.out]; refine HK'.out.mono ?_; rintro e W1 ⟨rfl, b1⟩; have k1 := kk.trans (b1.mono kk.size); have y3 := carry x3 b1; have y2 := carry x2 b1; have ⟨c0, c1, c2, c3⟩ := cells4 y2)
    | (go_at_call 28; refine (width_to r _ (HT.out _ k1) _ HR.out).mono ?_; rintro e W2 ⟨rfl, b2⟩; have k2 := k1.trans (b2.mono k1.size); have z3 := carry y3 b2; have ⟨d0, d1, d2, d3⟩ := cells4 (carry y2 b2))
    | (go_at_call 27; refine (check_to f bk x _ HS.out _).mono ?_; rintro e W3 ⟨rfl, b3⟩; have k3 := k2.trans (b3.mono k2.size); have u3 := carry z3 b3)
    | (refine wpList_store_row rfl 24 (.tmp 6) _ rfl (w.heap.size + 3) #[.int .i64 0, .int .i64 0, .slice none 0 0] rfl rfl _ _ u3 (by kernel_rfl) rfl (one3v _ _ _ _ _) ?_))
  (try simp only [Exit.inBlock, Exit.then])
  refine bodyPost_ret (v := .tuple #[.agg #[.int .i64 0, .int .i64 0, .slice none 0 0], .int .i64 4]) ?_ rfl ⟨rfl, below_setRow k3 (by omega) _⟩
  exact results_row_tmp rfl _ _ (w.heap.size + 3) _ _ _ _ rfl (setRow_heap _ _ _ _ _ _ u3) Tryd.underlying24 rfl (by kernel_rfl) _ rfl
end Grd
end Go.Proofs.YtdnglbgdoemejaaDoor

/- holds. -/
namespace Go.Proofs.YtdnglbgdoemejaaDoor
open Go.ChangeShapes Go.WideShapes Go.ChangeAt Go.RowKit
namespace Grd
def holdsI (n hh : Nat) (x y a b : Int) : Bool := decide (0 < a ∧ 0 < b ∧ 0 ≤ x ∧ 0 ≤ y ∧ a ≤ (n : Int) - x ∧ b ≤ (hh : Int) - y)
set_option maxHeartbeats 4000000 in
theorem holds_any (n hh : Nat) (v : Value) (x y a b : Int) (w : World) (hn : n ≤ 120) (hh' : hh ≤ 60) (hx0 : -9223372036854775808 ≤ x) (hx1 : x ≤ 9223372036854775807) (hy0 : -9223372036854775808 ≤ y) (hy1 : y ≤ 9223372036854775807) :
    Calls Tryd.prog 116 #[.agg #[.int .i64 (n : Int), .int .i64 (hh : Int), v], .agg #[.int .i64 x, .int .i64 y, .int .i64 a, .int .i64 b]] w fun e w' => e = .returned (.bool (holdsI n hh x y a b)) ∧ Below w.heap.size w w' := by
  have kk : Below w.heap.size w ((w.alloc (.cells #[.int .i64 (n : Int), .int .i64 (hh : Int), v] 24)).alloc (.cells #[.int .i64 x, .int .i64 y, .int .i64 a, .int .i64 b] 113)) := ((Below.refl _ _).alloc (Nat.le_refl _) _).alloc (by simp) _
  by_cases h1 : 0 < a
  · by_cases h2 : 0 < b
    · by_cases h3 : 0 ≤ x
      · by_cases h4 : 0 ≤ y
        · by_cases h5 : a ≤ (n : Int) - x
          · have e : holdsI n hh x y a b = decide (b ≤ (hh : Int) - y) := by unfold holdsI; rw [decide_eq_decide]; omega
            rw [e]
            go_enter Tryd.func116, Tryd.ntmps116
            go_wp2_with fail
            go_ret
            exact ⟨rfl, kk⟩
          · have e : holdsI n hh x y a b = false := by unfold holdsI; rw [decide_eq_false_iff_not]; omega
            rw [e]
            have g5 : decide (a ≤ (n : Int) - x) = false := by rw [decide_eq_false_iff_not]; exact h5
            go_enter Tryd.func116, Tryd.ntmps116
            go_wp2_with fail
            go_ret
            exact ⟨rfl, kk⟩
        · have e : holdsI n hh x y a b = false := by unfold holdsI; rw [decide_eq_false_iff_not]; omega
          rw [e]
          have g4 : decide (0 ≤ y) = false := by rw [decide_eq_false_iff_not]; exact h4
          go_enter Tryd.func116, Tryd.ntmps116
          go_wp2_with fail
          go_ret
          exact ⟨rfl, kk⟩
      · have e : holdsI n hh x y a b = false := by unfold holdsI; rw [decide_eq_false_iff_not]; omega
        rw [e]
        have g3 : decide (0 ≤ x) = false := by rw [decide_eq_false_iff_not]; exact h3
        go_enter Tryd.func116, Tryd.ntmps116
        go_wp2_with fail
        go_ret
        exact ⟨rfl, kk⟩
    · have e : holdsI n hh x y a b = false := by unfold holdsI; rw [decide_eq_false_iff_not]; omega
      rw [e]
      have g2 : decide (0 < b) = false := by rw [decide_eq_false_iff_not]; exact h2
      go_enter Tryd.func116, Tryd.ntmps116
      go_wp2_with fail
      go_ret
      exact ⟨rfl, kk⟩
  · have e : holdsI n hh x y a b = false := by unfold holdsI; rw [decide_eq_false_iff_not]; omega
    rw [e]
    have g1 : decide (0 < a) = false := by rw [decide_eq_false_iff_not]; exact h1
    go_enter Tryd.func116, Tryd.ntmps116
    go_wp2_with fail
    go_ret
    exact ⟨rfl, kk⟩
end Grd
end Go.Proofs.YtdnglbgdoemejaaDoor

/- The walk of grid.Write: what is refused. -/
namespace Go.Proofs.YtdnglbgdoemejaaDoor
open Go.ChangeShapes Go.WideShapes Go.ChangeAt Go.RowKit
namespace Grd
open Txt (wd)
open Sty (isSt)
theorem Apart.iterNew {N : Nat} {S : List Nat} {a b : World} (h : Apart N S a b) (g : Nat) (s : ByteArray) (p : Nat) (hg : a.heap.size ≤ g) (hN : N ≤ g) : Apart N S a (b.iterAt g s p) :=
  ⟨Lib.below_iterAt h.1 hN s p, fun i hi hl => (Lib.iterAt_other _ _ _ _ _ (by omega)).trans (h.2 i hi hl)⟩
theorem holds_to (n hh : Nat) (v : Value) (x y a b : Int) (q : Bool) (hq : holdsI n hh x y a b = q) (w : World) (hn : n ≤ 120) (hh' : hh ≤ 60) (hx0 : -9223372036854775808 ≤ x) (hx1 : x ≤ 9223372036854775807) (hy0 : -9223372036854775808 ≤ y) (hy1 : y ≤ 9223372036854775807) :
    Calls Tryd.prog 116 #[.agg #[.int .i64 (n : Int), .int .i64 (hh : Int), v], .agg #[.int .i64 x, .int .i64 y, .int .i64 a, .int .i64 b]] w fun e w' => e = .returned (.bool q) ∧ Below w.heap.size w w' := by
  have := holds_any n hh v x y a b w hn hh' hx0 hx1 hy0 hy1
  rwa [hq] at this
set_option maxHeartbeats 1000000 in
theorem write_bad1 (a h : Int) (v : Value) (cs : List C) (px py f bk x : Int) (s : ByteArray) (w : World) (hT : Txt.Tab w) (hS : SliceAt w v cs) (hok : gridErr a h cs ≠ 0) :
    Calls Tryd.prog 103 #[.agg #[.int .i64 a, .int .i64 h, v], .int .i64 px, .int .i64 py, .string s, .agg #[.int .i64 f, .int .i64 bk, .int .i64 x]] w fun e w' => e = .returned (.tuple #[.agg #[.int .i64 0, .int .i64 0, .slice none 0 0], .int .i64 (gridErr a h cs)]) ∧ Below w.heap.size w w' := by
  obtain ⟨_, _, x2, kk, hsz⟩ := alloc3 w (.cells #[.int .i64 a, .int .i64 h, v] 24) (.cells #[.int .i64 f, .int .i64 bk, .int .i64 x] 26) (.cells #[.int .i64 0, .int .i64 0, .slice none 0 0] 24)
  have HK := check_any a h v cs _ (Tab.next hT kk) (hS.below kk)
  generalize hW0 : (((w.alloc (.cells #[.int .i64 a, .int .i64 h, v] 24)).alloc (.cells #[.int .i64 f, .int .i64 bk, .int .i64 x] 26)).alloc (.cells #[.int .i64 0, .int .i64 0, .slice none 0 0] 24)) = W0 at x2 kk hsz HK
  have HW0 : Hid (_ = W0) := hW0
  generalize gridErr a h cs = er at *
  have HK' : Hid (Calls Tryd.prog 24 #[.agg #[.int .i64 a, .int .i64 h, v]] W0 fun e w' => e = .returned (.int .i64 er) ∧ Below W0.heap.size W0 w') := HK
  have ne : (er != 0) = true := by simpa using hok
  clear HK hW0 hok
  go_enter Tryd.func103, Tryd.ntmps103
  go_wp2_with (first
    | (go_at_call 24; rw [HW0.out]; refine HK'.out.mono ?_; rintro e W1 ⟨rfl, b1⟩; have y2 := carry x2 b1)
    | (refine wpList_store_row rfl 24 (.tmp 10) _ rfl (w.heap.size + 2) #[.int .i64 0, .int .i64 0, .slice none 0 0] rfl rfl _ _ y2 (by kernel_rfl) rfl (one3v _ _ _ _ _) ?_))
  (try simp only [Exit.inBlock, Exit.then])
  refine bodyPost_ret (v := .tuple #[.agg #[.int .i64 0, .int .i64 0, .slice none 0 0], .int .i64 er]) ?_ rfl ⟨rfl, below_setRow (kk.trans (b1.mono kk.size)) (by omega) _⟩
  exact results_row_tmp rfl _ _ (w.heap.size + 2) _ _ _ _ rfl (setRow_heap _ _ _ _ _ _ y2) Tryd.underlying24 rfl (by kernel_rfl) _ rfl
set_option maxHeartbeats 1000000 in
theorem write_bad2 (n hh : Nat) (v : Value) (cs : List C) (px py f bk x : Int) (s : ByteArray) (w : World) (hT : Txt.Tab w) (hS : SliceAt w v cs) (hok : gridErr n hh cs = 0) (hx0 : -9223372036854775808 ≤ px) (hx1 : px ≤ 9223372036854775807) (hy0 : -9223372036854775808 ≤ py) (hy1 : py ≤ 9223372036854775807) (hold : holdsI n hh px py 1 1 = false) :
    Calls Tryd.prog 103 #[.agg #[.int .i64 (n : Int), .int .i64 (hh : Int), v], .int .i64 px, .int .i64 py, .string s, .agg #[.int .i64 f, .int .i64 bk, .int .i64 x]] w fun e w' => e = .returned (.tuple #[.agg #[.int .i64 0, .int .i64 0, .slice none 0 0], .int .i64 4]) ∧ Below w.heap.size w w' := by
  obtain ⟨x0, x1, x2, kk, hsz⟩ := alloc3 w (.cells #[.int .i64 (n : Int), .int .i64 (hh : Int), v] 24) (.cells #[.int .i64 f, .int .i64 bk, .int .i64 x] 26) (.cells #[.int .i64 0, .int .i64 0, .slice none 0 0] 24)
  have HK := check_ok n hh v cs _ (Tab.next hT kk) (hS.below kk) hok
  have ⟨_, _, _, p3, _, p5⟩ := prod_in n hh ((gridErr_zero n hh cs).1 hok).1
  clear hT hS hok
  generalize hW0 : (((w.alloc (.cells #[.int .i64 (n : Int), .int .i64 (hh : Int), v] 24)).alloc (.cells #[.int .i64 f, .int .i64 bk, .int .i64 x] 26)).alloc (.cells #[.int .i64 0, .int .i64 0, .slice none 0 0] 24)) = W0 at x0 x1 x2 kk hsz HK
  have HW0 : Hid (_ = W0) := hW0
  have HK' : Hid (Calls Tryd.prog 24 #[.agg #[.int .i64 (n : Int), .int .i64 (hh : Int), v]] W0 fun e w' => e = .returned (.int .i64 0) ∧ Below W0.heap.size W0 w') := HK
  clear HK hW0
  have HH : Hid (holdsI n hh px py 1 1 = false) := hold
  clear hold
  go_enter Tryd.func103, Tryd.ntmps103
  go_wp2_with (first
    | (go_at_call 24; rw [HW0.out]; refine HK'.out.mono ?_; rintro e W1 ⟨rfl, b1⟩; have k1 := kk.trans (b1.mono kk.size); have y2 := carry x2 b1; have y1 := carry x1 b1; have y0 := carry x0 b1; have ⟨e0, e1, e2, _⟩ := cells3 y0)
    | (go_at_call 116; refine (holds_to n hh v px py 1 1 _ HH.out _ (by omega) (by omega) hx0 hx1 hy0 hy1).mono ?_; rintro e W2 ⟨rfl, b2⟩; have k2 := k1.trans (b2.mono k1.size); have z2 := carry y2 b2; have ⟨d0, d1, d2, _⟩ := cells3 (carry y1 b2))
    | (refine wpList_store_row rfl 24 (.tmp 10) _ rfl (w.heap.size + 2) #[.int .i64 0, .int .i64 0, .slice none 0 0] rfl rfl _ _ z2 (by kernel_rfl) rfl (one3v _ _ _ _ _) ?_))
  (try simp only [Exit.inBlock, Exit.then])
  refine bodyPost_ret (v := .tuple #[.agg #[.int .i64 0, .int .i64 0, .slice none 0 0], .int .i64 4]) ?_ rfl ⟨rfl, below_setRow k2 (by omega) _⟩
  exact results_row_tmp rfl _ _ (w.heap.size + 2) _ _ _ _ rfl (setRow_heap _ _ _ _ _ _ z2) Tryd.underlying24 rfl (by kernel_rfl) _ rfl
set_option maxHeartbeats 1000000 in
theorem write_bad3 (n hh : Nat) (v : Value) (cs : List C) (px py f bk x : Int) (s : ByteArray) (w : World) (hT : Txt.Tab w) (hS : SliceAt w v cs) (hok : gridErr n hh cs = 0) (hx0 : -9223372036854775808 ≤ px) (hx1 : px ≤ 9223372036854775807) (hy0 : -9223372036854775808 ≤ py) (hy1 : py ≤ 9223372036854775807) (hold : holdsI n hh px py 1 1 = true) (hs : isSt (f, bk, x) = false) :
    Calls Tryd.prog 103 #[.agg #[.int .i64 (n : Int), .int .i64 (hh : Int), v], .int .i64 px, .int .i64 py, .string s, .agg #[.int .i64 f, .int .i64 bk, .int .i64 x]] w fun e w' => e = .returned (.tuple #[.agg #[.int .i64 0, .int .i64 0, .slice none 0 0], .int .i64 4]) ∧ Below w.heap.size w w' := by
  obtain ⟨x0, x1, x2, kk, hsz⟩ := alloc3 w (.cells #[.int .i64 (n : Int), .int .i64 (hh : Int), v] 24) (.cells #[.int .i64 f, .int .i64 bk, .int .i64 x] 26) (.cells #[.int .i64 0, .int .i64 0, .slice none 0 0] 24)
  have HK := check_ok n hh v cs _ (Tab.next hT kk) (hS.below kk) hok
  have ⟨_, _, _, p3, _, p5⟩ := prod_in n hh ((gridErr_zero n hh cs).1 hok).1
  clear hT hS hok
  generalize hW0 : (((w.alloc (.cells #[.int .i64 (n : Int), .int .i64 (hh : Int), v] 24)).alloc (.cells #[.int .i64 f, .int .i64 bk, .int .i64 x] 26)).alloc (.cells #[.int .i64 0, .int .i64 0, .slice none 0 0] 24)) = W0 at x0 x1 x2 kk hsz HK
  have HW0 : Hid (_ = W0) := hW0
  have HK' : Hid (Calls Tryd.prog 24 #[.agg #[.int .i64 (n : Int), .int .i64 (hh : Int), v]] W0 fun e w' => e = .returned (.int .i64 0) ∧ Below W0.heap.size W0 w') := HK
  clear HK hW0
  have HH : Hid (holdsI n hh px py 1 1 = true) := hold
  have HS : Hid (isSt (f, bk, x) = false) := hs
  clear hold hs
  go_enter Tryd.func103, Tryd.ntmps103
  go_wp2_with (first
    | (go_at_call 24; rw [HW0.out]; refine HK'.out.mono ?_; rintro e W1 ⟨rfl, b1⟩; have k1 := kk.trans (b1.mono kk.size); have y2 := carry x2 b1; have y1 := carry x1 b1; have y0 := carry x0 b1; have ⟨e0, e1, e2, _⟩ := cells3 y0)
    | (go_at_call 116; refine (holds_to n hh v px py 1 1 _ HH.out _ (by omega) (by omega) hx0 hx1 hy0 hy1).mono ?_; rintro e W2 ⟨rfl, b2⟩; have k2 := k1.trans (b2.mono k1.size); have z2 := carry y2 b2; have ⟨d0, d1, d2, _⟩ := cells3 (carry y1 b2))
    | (go_at_call 27; refine (check_to f bk x _ HS.out _).mono ?_; rintro e W3 ⟨rfl, b3⟩; have k3 := k2.trans (b3.mono k2.size); have u2 := carry z2 b3)
    | (refine wpList_store_row rfl 24 (.tmp 10) _ rfl (w.heap.size + 2) #[.int .i64 0, .int .i64 0, .slice none 0 0] rfl rfl _ _ u2 (by kernel_rfl) rfl (one3v _ _ _ _ _) ?_))
  (try simp only [Exit.inBlock, Exit.then])
  refine bodyPost_ret (v := .tuple #[.agg #[.int .i64 0, .int .i64 0, .slice none 0 0], .int .i64 4]) ?_ rfl ⟨rfl, below_setRow k3 (by omega) _⟩
  exact results_row_tmp rfl _ _ (w.heap.size + 2) _ _ _ _ rfl (setRow_heap _ _ _ _ _ _ u2) Tryd.underlying24 rfl (by kernel_rfl) _ rfl
end Grd
end Go.Proofs.YtdnglbgdoemejaaDoor

/- The walk of grid.Write: a right place and a right style. -/
namespace Go.Proofs.YtdnglbgdoemejaaDoor
open Go.ChangeShapes Go.WideShapes Go.ChangeAt Go.RowKit
namespace Grd
open Txt (wd)
open Sty (isSt)
theorem cell4_size : (Tryd.prog.info? 49).map (·.size) = some 4 := by kernel_rfl
def writeF (X Y : Nat) (l : List (Int × Nat)) (look : Int × Int × Int) (y : Nat) (row : List C) : List C := if y = Y then mendL (writeR look l row X) else row
def writeG (n hh : Nat) (cs : List C) (X Y : Nat) (l : List (Int × Nat)) (look : Int × Int × Int) : List C := preF n cs (writeF X Y l look) hh
theorem writeF_len (n X Y : Nat) (l : List (Int × Nat)) (look : Int × Int × Int) : KeepLen n (writeF X Y l look) := fun y row h => by
  unfold writeF
  split
  · rw [mendL_len, writeR_len, h]
  · exact h
theorem writeR_stop (look : Int × Int × Int) (r : Int × Nat) (t : List (Int × Nat)) (row : List C) (x n : Nat) (hn : row.length = n) (h : (n : Int) - x < wd r.1) : writeR look (r :: t) row x = row := by
  unfold writeR; rw [hn, if_pos h]
theorem writeR_go (look : Int × Int × Int) (r : Int × Nat) (t : List (Int × Nat)) (row : List C) (x n : Nat) (hn : row.length = n) (h : ¬ (n : Int) - x < wd r.1) : writeR look (r :: t) row x = writeR look t (writeOne look row x r.1) (x + (wd r.1).toNat) := by
  rw [writeR, hn, if_neg h]
/-- A store of one cell, the world behind it a name. -/
theorem wpList_store_cell {ops : Array Oper} {rest : List Oper} {op : Oper} {a : Act} {w : World} {Q : Exit → Act → World → Prop} (hgd : op.guard = none) (x y : Operand) (ho : op.op = .store 49 x y)
    (g o : Nat) (c : C) (hx : a.eval x = .pointer (some ⟨g, o, none⟩)) (hy : a.eval y = .agg #[.int .i32 c.1, .int .i64 c.2.1, .int .i64 c.2.2.1, .int .i64 c.2.2.2]) (ht : w.there g o 4)
    (h : ∀ Z, Z = w.setCells g o (words c) → wpList Tryd.prog ops Q rest (a.put op.dst undef) Z) : wpList Tryd.prog ops Q (op :: rest) a w :=
  wpList_store_mid hgd 49 x y ho g o _ hx hy ht cell4_size (words_one c) (h _ rfl)
set_option maxHeartbeats 8000000 in
theorem write_good (n hh b o cx X Y : Nat) (cs : List C) (f bk x : Int) (s : ByteArray) (w : World) (hT : Txt.Tab w) (hC : CellsAt w b o cs) (hok : gridErr n hh cs = 0) (hc : cs.length ≤ cx) (hm : cx ≤ 9223372036854775807) (hX : X < n) (hY : Y < hh) (hs : isSt (f, bk, x) = true) :
    Calls Tryd.prog 103 #[.agg #[.int .i64 (n : Int), .int .i64 (hh : Int), .slice (some ⟨b, o, none⟩) cs.length cx], .int .i64 (X : Int), .int .i64 (Y : Int), .string s, .agg #[.int .i64 f, .int .i64 bk, .int .i64 x]] w fun e w' => ∃ v, e = .returned (.tuple #[.agg #[.int .i64 (n : Int), .int .i64 (hh : Int), v], .int .i64 0]) ∧ OwnG w' w.heap.size v (writeG n hh cs X Y (Txt.runes s) (f, bk, x)) ∧ Below w.heap.size w w' := by
  obtain ⟨hsize, hL, hrows⟩ := (gridErr_zero n hh cs).1 hok
  have ⟨p0, p1, p2, p3, p4, p5⟩ := prod_in n hh hsize
  have hne : cs ≠ [] := by
    intro h
    rw [h, List.length_nil] at hL
    have : 0 < n * hh := Nat.mul_pos (by omega) (by omega)
    omega
  have hl2 : cs.length ≤ 7200 := by
    have : ((n * hh : Nat) : Int) ≤ 7200 := by rw [Int.natCast_mul]; exact p1
    omega
  have hS : SliceAt w (.slice (some ⟨b, o, none⟩) cs.length cx) cs := .inr ⟨hne, b, o, cx, rfl, hc, hm, hC⟩
  obtain ⟨x0, x1, x2, kk, hsz⟩ := alloc3 w (.cells #[.int .i64 (n : Int), .int .i64 (hh : Int), .slice (some ⟨b, o, none⟩) cs.length cx] 24) (.cells #[.int .i64 f, .int .i64 bk, .int .i64 x] 26) (.cells #[.int .i64 0, .int .i64 0, .slice none 0 0] 24)
  have HK := check_ok n hh _ cs _ (Tab.next hT kk) (hS.below kk) hok
  have HT : Hid (∀ W, Below w.heap.size w W → Txt.Tab W) := fun W k => Tab.next hT k
  have HTP : Hid (0 < w.heap.size) := hT.pos
  have HC : Hid (CellsAt w b o cs) := hC
  have HL : Hid (cs.length = n * hh) := hL
  have HMW : Hid (Alike (writeR (f, bk, x) (Txt.runes s) (rowAt n cs Y) X)) := (meant_write (f, bk, x) hs (Txt.runes s) _ X (hrows Y hY).1).alike
  have HH : Hid (holdsI n hh X Y 1 1 = true) := by unfold Hid holdsI; rw [decide_eq_true_eq]; omega
  clear hT hS hok hC hne hrows hL p0 p1 hsize
  generalize hW0 : (((w.alloc (.cells #[.int .i64 (n : Int), .int .i64 (hh : Int), .slice (some ⟨b, o, none⟩) cs.length cx] 24)).alloc (.cells #[.int .i64 f, .int .i64 bk, .int .i64 x] 26)).alloc (.cells #[.int .i64 0, .int .i64 0, .slice none 0 0] 24)) = W0 at x0 x1 x2 kk hsz HK
  have HW0 : Hid (_ = W0) := hW0
  have HK' : Hid (Calls Tryd.prog 24 #[.agg #[.int .i64 (n : Int), .int .i64 (hh : Int), .slice (some ⟨b, o, none⟩) cs.length cx]] W0 fun e w' => e = .returned (.int .i64 0) ∧ Below W0.heap.size W0 w') := HK
  have HS : Hid (isSt (f, bk, x) = true) := hs
  clear HK hW0 hs
  go_enter Tryd.func103, Tryd.ntmps103
  go_wp2_with (first
    | (go_at_call 24; rw [HW0.out]; refine HK'.out.mono ?_; rintro e W1 ⟨rfl, b1⟩; have k1 := kk.trans (b1.mono kk.size); have y2 := carry x2 b1; have y1 := carry x1 b1; have y0 := carry x0 b1; have ⟨e0, e1, e2, _⟩ := cells3 y0)
    | (go_at_call 116; refine (holds_to n hh _ X Y 1 1 _ HH.out _ (by omega) (by omega) (by omega) (by omega) (by omega) (by omega)).mono ?_; rintro e W2 ⟨rfl, b2⟩; have k2 := k1.trans (b2.mono k1.size); have z2 := carry y2 b2; have z1 := carry y1 b2; have z0 := carry y0 b2; have ⟨d0, d1, d2, _⟩ := cells3 z1)
    | (go_at_call 27; refine (check_to f bk x _ HS.out _).mono ?_; rintro e W3 ⟨rfl, b3⟩; have k3 := k2.trans (b3.mono k2.size); have u2 := carry z2 b3; have u1 := carry z1 b3; have u0 := carry z0 b3; have ⟨g0, g1, g2, _⟩ := cells3 u0)
    | (go_at_call 106; refine (copyOf_any n hh b o cx cs _ (HC.out.below k3) (by omega)).mono ?_; rintro e W4 ⟨v4, rfl, ⟨g, cap, rest, t, rfl, hgb, hlc, hcm, hgh⟩, b4⟩; have hW4 := heap_alloc_new W4 (.cells #[.int .i64 0, .int .i64 0, .slice none 0 0] 24))
    | (refine wpList_store_row rfl 24 (.tmp 13) _ rfl W4.heap.size #[.int .i64 (n : Int), .int .i64 (hh : Int), .slice (some ⟨g, 0, none⟩) cs.length cap] rfl rfl _ _ hW4 (by kernel_rfl) rfl (one3v _ _ _ _ _) ?_; have qM0 := setRow_heap _ _ _ #[.int .i64 (n : Int), .int .i64 (hh : Int), .slice (some ⟨g, 0, none⟩) cs.length cap] _ _ hW4)
    | (refine wpList_load_row rfl 24 _ rfl W4.heap.size rfl _ _ _ _ qM0 Tryd.underlying24 rfl (by kernel_rfl) ?_)
    | (go_at_call 61; refine (rowOf_any g 0 cs.length cap n Y hh _ (by omega) (row_fits n hh _ Y HL.out hY) hlc hcm).mono ?_; rintro e W5 ⟨rfl, b5⟩))
  have hsz1 := b1.size
  have hsz2 := b2.size
  have hsz3 := b3.size
  have hsz4 := b4.size
  have hg4 : g < W4.heap.size := blk_lt hgh
  have hX' : ∀ k o', W4.heap[k]? = some o' → W5.heap[k]? = some o' := fun k o' hk => carry (by
    have := blk_lt hk
    rw [setRow_other _ _ _ _ (by omega), Below.heap_alloc _ _ _ this, hk]) b5
  have q1 := hX' _ _ (carry u1 b4)
  have q3 := hX' _ _ (carry u2 b4)
  have qg := hX' _ _ hgh
  have qM := carry qM0 b5
  have k4 := k3.trans (b4.mono k3.size)
  have kY : Below w.heap.size w W5 := (below_setRow (k4.alloc k4.size (.cells #[.int .i64 0, .int .i64 0, .slice none 0 0] 24)) k4.size #[.int .i64 (n : Int), .int .i64 (hh : Int), .slice (some ⟨g, 0, none⟩) cs.length cap]).trans (b5.mono (by simp; omega))
  have hgN : w.heap.size + 3 ≤ g := by omega
  have hMW : W4.heap.size < W5.heap.size := blk_lt qM
  generalize hM : W4.heap.size = M at *
  clear hX' qM0 hW4 hgh u0 u1 u2 g0 g1 g2 b4 b3 z0 z1 z2 d0 d1 d2 b2 y0 y1 y2 e0 e1 e2 b1 x0 x1 x2 HW0 HK' k1 k2 k3 k4 kk hsz hsz1 hsz2 hsz3 hsz4 hgb b5 hM HS HH
  generalize W5 = Y0 at *
  have HGL : Hid ((writeG n hh cs X Y (Txt.runes s) (f, bk, x)).length = cs.length) := by
    unfold Hid writeG
    rw [preF_len n hh cs _ HL.out (writeF_len n X Y _ _) hh (Nat.le_refl _), HL.out, Nat.mul_comm]
  have hst0 := upto_start n hh cs (writeF X Y (Txt.runes s) (f, bk, x)) Y (fun y hy => by unfold writeF; rw [if_neg (by omega)])
  rw [upto_at n hh cs _ Y hY] at hst0
  have hen0 := upto_end n hh cs (writeF X Y (Txt.runes s) (f, bk, x)) HL.out (Y + 1) (fun y hy => by unfold writeF; rw [if_neg (by omega)])
  rw [upto_next n hh cs _ Y hY] at hen0
  have hpl : (flat (preF n cs (writeF X Y (Txt.runes s) (f, bk, x)) Y)).length = Y * n * 4 := by rw [flat_len, preF_len n hh cs _ HL.out (writeF_len n X Y _ _) Y (by omega)]
  have hqg : flat cs ++ rest = flat (preF n cs (writeF X Y (Txt.runes s) (f, bk, x)) Y) ++ (flat (rowAt n cs Y) ++ (flat (cs.drop ((Y + 1) * n)) ++ rest)) := by
    rw [← flat_three, hst0]
  have HGE : Hid (flat (preF n cs (writeF X Y (Txt.runes s) (f, bk, x)) Y) ++ (flat (mendL (writeR (f, bk, x) (Txt.runes s) (rowAt n cs Y) X)) ++ (flat (cs.drop ((Y + 1) * n)) ++ rest)) = flat (writeG n hh cs X Y (Txt.runes s) (f, bk, x)) ++ rest) := by
    unfold Hid writeG
    rw [← hen0, flat_three]
    unfold writeF
    rw [if_pos rfl]
  have hrl := row_len n hh cs Y HL.out hY
  rw [hqg] at qg
  clear hqg hst0 hen0
  generalize flat (preF n cs (writeF X Y (Txt.runes s) (f, bk, x)) Y) = pre at *
  generalize flat (cs.drop ((Y + 1) * n)) ++ rest = post at *
  generalize rowAt n cs Y = row0 at *
  generalize Y * n * 4 = off at *
  have HPL : Hid (pre.length = off) := hpl
  have HRL : Hid (row0.length = n) := hrl
  clear hpl hrl
  go_loopw [1] (fun a wr => ∃ (pos fu xx : Nat) (row : List C), wr.heap[Y0.heap.size]? = some (.stringIter s pos) ∧ Apart g [g] Y0 wr ∧ a = .int .i64 (xx : Int) ∧ xx ≤ n ∧ row.length = n ∧ wr.heap[g]? = some (.cells (pre ++ (flat row ++ post)).toArray t (0, 0)) ∧ writeR (f, bk, x) (Txt.rs s fu pos) row xx = writeR (f, bk, x) (Txt.runes s) row0 X ∧ s.size ≤ pos + fu ∧ pos ≤ s.size) (fun _ wr => s.size - wr.iterPos Y0.heap.size)
  case atStart =>
    refine ⟨0, s.size, X, row0, World.iter_heap Y0 s 0, ⟨(Below.refl _ Y0).alloc (by omega) _, fun k _ hk => Below.heap_alloc _ _ _ hk⟩, rfl, by omega, HRL.out, ?_, rfl, by omega, by omega⟩
    exact (Below.heap_alloc _ _ _ (by omega)).trans qg
  case round =>
    obtain ⟨pos, fu, xx, row, hit, hap, rfl, hxn, hrn, hv, heq, hfu, hps⟩ := hrel
    clear qg
    have HEQ : Hid (writeR (f, bk, x) (Txt.rs s fu pos) row xx = writeR (f, bk, x) (Txt.runes s) row0 X) := heq
    have HRN : Hid (row.length = n) := hrn
    clear heq hrn
    by_cases hp : pos < s.size
    · have hnx : ∀ ty, (Instr.next (.pointer (some ⟨Y0.heap.size, 0, none⟩)) true ty).run Tryd.prog wr = _ := fun ty => Lib.run_next_any_at wr Y0.heap.size s pos ty hit hp
      have hwd := Txt.width_pos s pos hp
      have hfit := Txt.decode_fits s pos hp
      obtain ⟨fu, rfl⟩ : ∃ q, fu = q + 1 := ⟨fu - 1, by omega⟩
      have HR : Hid (Txt.rs s (fu + 1) pos = (((Utf8.decode s pos).1 : Int), (Utf8.decode s pos).2) :: Txt.rs s fu (pos + (Utf8.decode s pos).2)) := Txt.rs_step s fu pos hp
      have hwr := Txt.wd_range (Utf8.decode s pos).1
      have hit2 := Lib.iterAt_heap wr Y0.heap.size s pos (pos + (Utf8.decode s pos).2) hit
      have ap2 := hap.iterNew Y0.heap.size s (pos + (Utf8.decode s pos).2) (Nat.le_refl _) (by omega)
      have hv2 := (Lib.iterAt_other wr Y0.heap.size g s (pos + (Utf8.decode s pos).2) (by omega)).trans hv
      have kI2 := kY.trans (ap2.1.mono (show w.heap.size ≤ g by omega))
      have HI : Hid (wr.iterPos Y0.heap.size = pos) := by simp only [Hid, World.iterPos, hit]
      clear hit hap hv
      generalize Utf8.decode s pos = d at *
      by_cases hbr : (n : Int) - xx < wd d.1
      · have HST : Hid (row = writeR (f, bk, x) (Txt.runes s) row0 X) := by
          unfold Hid
          rw [← HEQ.out, HR.out, writeR_stop (f, bk, x) _ _ row xx n HRN.out hbr]
        obtain ⟨wv, hwv⟩ : ∃ q, wd d.1 = q := ⟨_, rfl⟩
        have HW : Hid (wd d.1 = wv) := hwv
        rw [hwv] at hbr hwr
        clear hwv HEQ HR
        go_wp2_with (first
          | (go_at_call 28; refine (width_to d.1 _ (HT.out _ kI2) _ HW.out).mono ?_; rintro e W1 ⟨rfl, b1⟩; have apW := ap2.step b1 (by have := blk_lt hv2; omega); have hvW := carry hv2 b1
             have KM := mend_any g (cap - Y * n) row pre post t W1 hvW (by rw [HRN.out]; omega) (HT.out _ (kY.trans (apW.1.mono (by omega)))) (by have := HTP.out; omega) (by rw [HST.out]; exact HMW.out)
             rw [HRN.out, HPL.out] at KM)
          | (go_at_call 109; refine KM.mono ?_; rintro e W6 ⟨rfl, hv6, ap6⟩; have ap7 := apW.trans ap6; have v3 := ap7.carry q3 (by simp; omega); have vM := ap7.carry qM (by simp; omega); have kW := kY.trans (ap7.1.mono (show w.heap.size ≤ g by omega)))
          | (refine wpList_load_row rfl 24 _ rfl M rfl _ _ _ _ vM Tryd.underlying24 rfl (by kernel_rfl) ?_)
          | (refine wpList_store_row rfl 24 (.tmp 10) _ rfl (w.heap.size + 2) #[.int .i64 (n : Int), .int .i64 (hh : Int), .slice (some ⟨g, 0, none⟩) cs.length cap] rfl rfl _ _ v3 (by kernel_rfl) rfl (one3v _ _ _ _ _) ?_))
        (try simp only [Exit.inBlock, Exit.then])
        refine bodyPost_ret (v := .tuple #[.agg #[.int .i64 (n : Int), .int .i64 (hh : Int), .slice (some ⟨g, 0, none⟩) cs.length cap], .int .i64 0]) ?_ rfl ⟨_, rfl, ?_, below_setRow kW (by omega) _⟩
        · exact results_row_tmp rfl _ _ (w.heap.size + 2) _ _ _ _ rfl (setRow_heap _ _ _ _ _ _ v3) Tryd.underlying24 rfl (by kernel_rfl) _ rfl
        · refine ⟨g, cap, rest, t, by rw [HGL.out], by omega, by rw [HGL.out]; exact hlc, hcm, ?_⟩
          rw [setRow_other _ _ _ _ (by omega), hv6, HST.out, HGE.out]
      · have HGO : Hid (writeR (f, bk, x) (Txt.rs s fu (pos + d.2)) (writeOne (f, bk, x) row xx d.1) (xx + (wd d.1).toNat) = writeR (f, bk, x) (Txt.runes s) row0 X) := by
          unfold Hid
          rw [← HEQ.out, HR.out, writeR_go (f, bk, x) _ _ row xx n HRN.out hbr]
        clear HEQ HR
        rcases (show wd d.1 = 0 ∨ wd d.1 = 1 ∨ wd d.1 = 2 by omega) with h0 | h0 | h0
        · have HG2 : Hid (writeR (f, bk, x) (Txt.rs s fu (pos + d.2)) row xx = writeR (f, bk, x) (Txt.runes s) row0 X) := by
            have := HGO.out
            unfold writeOne at this
            rw [if_pos h0, h0] at this
            exact this
          have HW : Hid (wd d.1 = 0) := h0
          have nb : ¬ (n : Int) - xx < 0 := by omega
          clear h0 hwr hbr HGO
          go_wp2_with (go_at_call 28; refine (width_to d.1 _ (HT.out _ kI2) _ HW.out).mono ?_; rintro e W1 ⟨rfl, b1⟩; have apW := ap2.step b1 (by have := blk_lt hv2; omega); have hvW := carry hv2 b1; have hitW := carry hit2 b1; have ⟨s0, s1, s2, _⟩ := cells3 (apW.carry q1 (by simp; omega)))
          go_roundw
          case rel => exact ⟨pos + d.2, fu, xx, row, hitW, apW, by first | rfl | simp, hxn, HRN.out, hvW, HG2.out, by omega, by omega⟩
          case measure =>
            rw [HI.out]
            simp only [World.iterPos, hitW]
            omega
        · have HG2 : Hid (writeR (f, bk, x) (Txt.rs s fu (pos + d.2)) (row.set xx (d.1, f, bk, x)) (xx + 1) = writeR (f, bk, x) (Txt.runes s) row0 X) := by
            have := HGO.out
            unfold writeOne at this
            rw [if_neg (by omega), if_neg (by omega), h0] at this
            exact this
          have HW : Hid (wd d.1 = 1) := h0
          have nb : ¬ (n : Int) - xx < 1 := by omega
          have hxl : xx < n := by omega
          clear h0 hwr hbr HGO
          go_wp2_with (first
            | (go_at_call 28; refine (width_to d.1 _ (HT.out _ kI2) _ HW.out).mono ?_; rintro e W1 ⟨rfl, b1⟩; have apW := ap2.step b1 (by have := blk_lt hv2; omega); have hvW := carry hv2 b1; have hitW := carry hit2 b1; have ⟨s0, s1, s2, _⟩ := cells3 (apW.carry q1 (by simp; omega)))
            | (refine wpList_store_cell rfl (.tmp 61) (.tmp 60) rfl g (off + xx * 4) (d.1, f, bk, x) rfl rfl (by have := there_cell hvW xx (by rw [HRN.out]; exact hxl); rwa [HPL.out] at this) ?_
               intro Z hZ
               have hvZ := store_cell hvW xx (by rw [HRN.out]; exact hxl) (d.1, f, bk, x)
               have apZ := apW.setCells g (pre.length + xx * 4) (words (d.1, f, bk, x)) (by simp) (Nat.le_refl _)
               have hitZ := (heap_setCells_ne g Y0.heap.size (by omega) (words (d.1, f, bk, x)) (pre.length + xx * 4) W1).trans hitW
               rw [HPL.out, ← hZ] at hvZ apZ hitZ
               clear hZ))
          go_roundw
          case rel => exact ⟨pos + d.2, fu, xx + 1, row.set xx (d.1, f, bk, x), hitZ, apZ, by first | rfl | simp, by omega, by rw [List.length_set, HRN.out], hvZ, HG2.out, by omega, by omega⟩
          case measure =>
            rw [HI.out]
            simp only [World.iterPos, hitZ]
            omega
        · have HG2 : Hid (writeR (f, bk, x) (Txt.rs s fu (pos + d.2)) ((row.set xx (d.1, f, bk, x)).set (xx + 1) (0, f, bk, x)) (xx + 2) = writeR (f, bk, x) (Txt.runes s) row0 X) := by
            have := HGO.out
            unfold writeOne at this
            rw [if_neg (by omega), if_pos h0, h0] at this
            exact this
          have HW : Hid (wd d.1 = 2) := h0
          have nb : ¬ (n : Int) - xx < 2 := by omega
          have hxl : xx + 1 < n := by omega
          clear h0 hwr hbr HGO
          go_wp2_with (first
            | (go_at_call 28; refine (width_to d.1 _ (HT.out _ kI2) _ HW.out).mono ?_; rintro e W1 ⟨rfl, b1⟩; have apW := ap2.step b1 (by have := blk_lt hv2; omega); have hvW := carry hv2 b1; have hitW := carry hit2 b1; have ⟨s0, s1, s2, _⟩ := cells3 (apW.carry q1 (by simp; omega)))
            | (refine wpList_store_cell rfl (.tmp 61) (.tmp 60) rfl g (off + xx * 4) (d.1, f, bk, x) rfl rfl (by have := there_cell hvW xx (by rw [HRN.out]; omega); rwa [HPL.out] at this) ?_
               intro Z hZ
               have hvZ := store_cell hvW xx (by rw [HRN.out]; omega) (d.1, f, bk, x)
               have apZ := apW.setCells g (pre.length + xx * 4) (words (d.1, f, bk, x)) (by simp) (Nat.le_refl _)
               have hitZ := (heap_setCells_ne g Y0.heap.size (by omega) (words (d.1, f, bk, x)) (pre.length + xx * 4) W1).trans hitW
               rw [HPL.out, ← hZ] at hvZ apZ hitZ
               have ⟨t0, t1, t2, _⟩ := cells3 (apZ.carry q1 (by simp; omega))
               clear hZ)
            | (refine wpList_store_cell rfl (.tmp 69) (.tmp 68) rfl g (off + (xx + 1) * 4) (0, f, bk, x) rfl rfl (by have := there_cell hvZ (xx + 1) (by rw [List.length_set, HRN.out]; exact hxl); rwa [HPL.out] at this) ?_
               intro Z2 hZ
               have hvY := store_cell hvZ (xx + 1) (by rw [List.length_set, HRN.out]; exact hxl) (0, f, bk, x)
               have apY := apZ.setCells g (pre.length + (xx + 1) * 4) (words (0, f, bk, x)) (by simp) (Nat.le_refl _)
               have hitY := (heap_setCells_ne g Y0.heap.size (by omega) (words (0, f, bk, x)) (pre.length + (xx + 1) * 4) Z).trans hitZ
               rw [HPL.out, ← hZ] at hvY apY hitY
               clear hZ))
          go_roundw
          case rel => exact ⟨pos + d.2, fu, xx + 2, (row.set xx (d.1, f, bk, x)).set (xx + 1) (0, f, bk, x), hitY, apY, by first | rfl | simp, by omega, by rw [List.length_set, List.length_set, HRN.out], hvY, HG2.out, by omega, by omega⟩
          case measure =>
            rw [HI.out]
            simp only [World.iterPos, hitY]
            omega
    · have hnx : ∀ ty, (Instr.next (.pointer (some ⟨Y0.heap.size, 0, none⟩)) true ty).run Tryd.prog wr = _ := fun ty => Lib.run_next_end_at wr Y0.heap.size s pos ty hit hp
      have HST : Hid (row = writeR (f, bk, x) (Txt.runes s) row0 X) := by
        have := HEQ.out
        rw [Txt.rs_end s fu pos hp] at this
        exact this
      have KM := mend_any g (cap - Y * n) row pre post t wr hv (by rw [HRN.out]; omega) (HT.out _ (kY.trans (hap.1.mono (by omega)))) (by have := HTP.out; omega) (by rw [HST.out]; exact HMW.out)
      rw [HRN.out, HPL.out] at KM
      go_wp2_with (first
        | (go_at_call 109; refine KM.mono ?_; rintro e W6 ⟨rfl, hv6, ap6⟩; have ap7 := hap.trans ap6; have v3 := ap7.carry q3 (by simp; omega); have vM := ap7.carry qM (by simp; omega); have kW := kY.trans (ap7.1.mono (show w.heap.size ≤ g by omega)))
        | (refine wpList_load_row rfl 24 _ rfl M rfl _ _ _ _ vM Tryd.underlying24 rfl (by kernel_rfl) ?_)
        | (refine wpList_store_row rfl 24 (.tmp 10) _ rfl (w.heap.size + 2) #[.int .i64 (n : Int), .int .i64 (hh : Int), .slice (some ⟨g, 0, none⟩) cs.length cap] rfl rfl _ _ v3 (by kernel_rfl) rfl (one3v _ _ _ _ _) ?_))
      (try simp only [Exit.inBlock, Exit.then])
      refine bodyPost_ret (v := .tuple #[.agg #[.int .i64 (n : Int), .int .i64 (hh : Int), .slice (some ⟨g, 0, none⟩) cs.length cap], .int .i64 0]) ?_ rfl ⟨_, rfl, ?_, below_setRow kW (by omega) _⟩
      · exact results_row_tmp rfl _ _ (w.heap.size + 2) _ _ _ _ rfl (setRow_heap _ _ _ _ _ _ v3) Tryd.underlying24 rfl (by kernel_rfl) _ rfl
      · refine ⟨g, cap, rest, t, by rw [HGL.out], by omega, by rw [HGL.out]; exact hlc, hcm, ?_⟩
        rw [setRow_other _ _ _ _ (by omega), hv6, HST.out, HGE.out]
end Grd
end Go.Proofs.YtdnglbgdoemejaaDoor

/- Plain mathematics: what is clean stays so. Encoding a rune and decoding it again gives the rune. No program is named. -/
namespace Go.Proofs.YtdnglbgdoemejaaDoor
namespace Txt
/-- A rune that can be encoded. -/
def okRune (r : Int) : Prop := (0 ≤ r ∧ r < 55296) ∨ (57343 < r ∧ r ≤ 1114111)
theorem decN_ok (n b0 b1 b2 b3 : Nat) : okRune (Lib.decodeN n b0 b1 b2 b3).1 := by
  unfold okRune Lib.decodeN
  repeat' split
  all_goals simp
  all_goals omega
theorem dec_ok (l : List UInt8) : okRune (dec l).1 := decN_ok _ _ _ _ _
theorem decN_two (n c b2 b3 : Nat) (hn : 2 ≤ n) (h0 : 128 ≤ c) (h1 : c ≤ 2047) : Lib.decodeN n (192 + c / 64) (128 + c % 64) b2 b3 = (c, 2) := by
  unfold Lib.decodeN
  rw [if_neg (by omega), if_pos ⟨by omega, by omega, by omega⟩, if_pos (by omega)]
  congr 1; omega
theorem decN_three (n c b3 : Nat) (hn : 3 ≤ n) (h : (2048 ≤ c ∧ c < 55296) ∨ (57343 < c ∧ c ≤ 65535)) : Lib.decodeN n (224 + c / 4096) (128 + c / 64 % 64) (128 + c % 64) b3 = (c, 3) := by
  unfold Lib.decodeN
  have e : (224 + c / 4096) % 16 * 4096 + (128 + c / 64 % 64) % 64 * 64 + (128 + c % 64) % 64 = c := by omega
  rw [if_neg (by omega), if_neg (by omega), if_pos ⟨by omega, ⟨by omega, by omega⟩, by omega, by omega⟩, e, if_pos (by omega)]
theorem decN_four (n c : Nat) (hn : 4 ≤ n) (h0 : 65536 ≤ c) (h1 : c ≤ 1114111) : Lib.decodeN n (240 + c / 262144) (128 + c / 4096 % 64) (128 + c / 64 % 64) (128 + c % 64) = (c, 4) := by
  unfold Lib.decodeN
  have e : (240 + c / 262144) % 8 * 262144 + (128 + c / 4096 % 64) % 64 * 4096 + (128 + c / 64 % 64) % 64 * 64 + (128 + c % 64) % 64 = c := by omega
  rw [if_neg (by omega), if_neg (by omega), if_neg (by omega), if_pos ⟨by omega, ⟨by omega, by omega⟩, ⟨by omega, by omega⟩, by omega, by omega⟩, e, if_pos (by omega)]
theorem byte_toNat (n : Nat) (h : n < 256) : (n.toUInt8).toNat = n := by
  rw [Nat.toUInt8, UInt8.toNat_ofNat']; omega
/-- Encoding, then decoding. -/
theorem dec_encode (r : Int) (h : okRune r) (b : List UInt8) : dec (Lib.encodeRune r ++ b) = (r.toNat, (Lib.encodeRune r).length) := by
  obtain ⟨c, rfl⟩ := Int.eq_ofNat_of_zero_le (show 0 ≤ r by unfold okRune at h; omega)
  unfold okRune at h
  unfold Lib.encodeRune
  by_cases h1 : c ≤ 127
  · rw [Lib.encodeRuneZ_one (by omega) (by omega)]
    simp only [List.map_cons, List.map_nil, List.cons_append, List.nil_append, dec, List.getD_cons_zero, Int.toNat_natCast, byte_toNat c (by omega)]
    rw [decN_ascii _ _ _ _ _ (by omega)]
    rfl
  · by_cases h2 : c ≤ 2047
    · rw [Lib.encodeRuneZ_two (by omega) (by omega)]
      simp only [List.map_cons, List.map_nil, List.cons_append, List.nil_append, dec, List.getD_cons_zero, List.getD_cons_succ, Int.toNat_natCast]
      rw [show (192 + (c : Int) / 64).toNat = 192 + c / 64 by omega, show (128 + (c : Int) % 64).toNat = 128 + c % 64 by omega, byte_toNat _ (by omega), byte_toNat _ (by omega)]
      exact decN_two _ c _ _ (by simp) (by omega) (by omega)
    · by_cases h3 : c ≤ 65535
      · rw [Lib.encodeRuneZ_three (by omega)]
        simp only [List.map_cons, List.map_nil, List.cons_append, List.nil_append, dec, List.getD_cons_zero, List.getD_cons_succ, Int.toNat_natCast]
        rw [show (224 + (c : Int) / 4096).toNat = 224 + c / 4096 by omega, show (128 + (c : Int) / 64 % 64).toNat = 128 + c / 64 % 64 by omega, show (128 + (c : Int) % 64).toNat = 128 + c % 64 by omega, byte_toNat _ (by omega), byte_toNat _ (by omega), byte_toNat _ (by omega)]
        exact decN_three _ c _ (by simp) (by omega)
      · rw [Lib.encodeRuneZ_four (by omega) (by omega)]
        simp only [List.map_cons, List.map_nil, List.cons_append, List.nil_append, dec, List.getD_cons_zero, List.getD_cons_succ, Int.toNat_natCast]
        rw [show (240 + (c : Int) / 262144).toNat = 240 + c / 262144 by omega, show (128 + (c : Int) / 4096 % 64).toNat = 128 + c / 4096 % 64 by omega, show (128 + (c : Int) / 64 % 64).toNat = 128 + c / 64 % 64 by omega, show (128 + (c : Int) % 64).toNat = 128 + c % 64 by omega, byte_toNat _ (by omega), byte_toNat _ (by omega), byte_toNat _ (by omega), byte_toNat _ (by omega)]
        exact decN_four _ c (by simp) (by omega) (by omega)
theorem encode_ne (r : Int) : Lib.encodeRune r ≠ [] := by
  intro e
  have := Lib.encodeRuneZ_length r
  have h := congrArg List.length e
  simp only [Lib.encodeRune, List.length_map, List.length_nil] at h
  omega
theorem rn_encode (r : Int) (h : okRune r) (b : List UInt8) : rn (Lib.encodeRune r ++ b) = (r, (Lib.encodeRune r).length) :: rn b := by
  rw [rn_cons _ (by simp [encode_ne]), dec_encode r h b]
  have h0 : 0 ≤ r := by unfold okRune at h; omega
  simp only [List.drop_left, Int.toNat_of_nonneg h0]
/-- The runes of a list of bytes can all be encoded. -/
theorem rl_ok : ∀ (f : Nat) (l : List UInt8), ∀ x ∈ rl f l, okRune x.1
  | 0, _, x, hx => by simp [rl] at hx
  | f + 1, l, x, hx => by
    by_cases hl : l = []
    · subst hl; rw [rl_nil] at hx; cases hx
    · rw [rl_cons f l hl] at hx
      rcases List.mem_cons.1 hx with rfl | hx
      · exact dec_ok l
      · exact rl_ok f _ x hx
end Txt
end Go.Proofs.YtdnglbgdoemejaaDoor
