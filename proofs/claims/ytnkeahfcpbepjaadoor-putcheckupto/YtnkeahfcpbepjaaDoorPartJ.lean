/- A screen out of what the row reads, and how many values it holds. -/
import Derived.Test.YtnkeahfcpbepjaaDoorPartE
import Derived.Test.YtnkeahfcpbepjaaDoorPartF
import Derived.Test.YtnkeahfcpbepjaaDoorPartI
import Derived.Test.YtnkeahfcpbepjaaDoorRows
import Derived.Deep.Slices
import Derived.BigRegion
import Derived.Deep.Cut
import Derived.Deep.CutRange
import Derived.Test.YtnkeahfcpbepjaaDoorPartH
namespace Go.Proofs.YtnkeahfcpbepjaaDoor
open Go.ChangeShapes Go.WideShapes Go.ChangeAt Go.RowKit
namespace Put
open Grd (C SliceAt CellsAt CIn i64_in i32_in)
section
variable {H : Type} {enc : TypeId × Value → H} {W : World}
theorem bulk_pos (d : DataW H) : 1 ≤ Rows.uptoBulk d := by
  cases d with
  | lit l => cases l <;> simp [Rows.uptoBulk]
  | _ => simp [Rows.uptoBulk]
theorem bulk_mem {d : DataW H} : ∀ {l : List (DataW H)}, d ∈ l → Rows.uptoBulk d ≤ Rows.uptoBulkAll l
  | x :: l, h => by
    rcases List.mem_cons.1 h with rfl | h
    · simp only [Rows.uptoBulkAll]; omega
    · have := bulk_mem h
      simp only [Rows.uptoBulkAll]; omega
theorem bulk_len : ∀ (l : List (DataW H)), l.length ≤ Rows.uptoBulkAll l
  | [] => by simp
  | x :: l => by
    have := bulk_len l
    have := bulk_pos x
    simp only [Rows.uptoBulkAll, List.length_cons]; omega
theorem trod_struct4 {P : Program} {base : Nat} {spare : Nat → Bool} {held : Bool} {t : TypeId} {f0 f1 f2 f3 : Field} {fuel : Nat} {cs : List Value} {x : DataW H × List MemPlace} (ht : P.underlying t = some (.struct #[f0, f1, f2, f3])) (h : DataW.trod enc P W base spare held fuel t cs = some x) :
    ∃ y0 y1 y2 y3 n, x.1 = .agg [y0.1, y1.1, y2.1, y3.1] ∧ cs.length = P.cellsOf t ∧ DataW.trod enc P W base spare held n f0.type ((cs.drop f0.offset).take (P.cellsOf f0.type)) = some y0 ∧
      DataW.trod enc P W base spare held n f1.type ((cs.drop f1.offset).take (P.cellsOf f1.type)) = some y1 ∧
      DataW.trod enc P W base spare held n f2.type ((cs.drop f2.offset).take (P.cellsOf f2.type)) = some y2 ∧
      DataW.trod enc P W base spare held n f3.type ((cs.drop f3.offset).take (P.cellsOf f3.type)) = some y3 := by
  obtain ⟨xs, n, _, rfl, hl, hlen, hf⟩ := DataW.trod_struct ht h
  match xs, hlen with
  | [y0, y1, y2, y3], _ => exact ⟨y0, y1, y2, y3, n, by simp, hl, by simpa using hf 0 f0 rfl, by simpa using hf 1 f1 rfl, by simpa using hf 2 f2 rfl, by simpa using hf 3 f3 rfl⟩
theorem trod_struct13 {P : Program} {base : Nat} {spare : Nat → Bool} {held : Bool} {t : TypeId} {f0 f1 f2 f3 f4 f5 f6 f7 f8 f9 f10 f11 f12 : Field} {fuel : Nat} {cs : List Value} {x : DataW H × List MemPlace} (ht : P.underlying t = some (.struct #[f0, f1, f2, f3, f4, f5, f6, f7, f8, f9, f10, f11, f12])) (h : DataW.trod enc P W base spare held fuel t cs = some x) :
    ∃ y0 y1 y2 y3 y4 y5 y6 y7 y8 y9 y10 y11 y12 n, x.1 = .agg [y0.1, y1.1, y2.1, y3.1, y4.1, y5.1, y6.1, y7.1, y8.1, y9.1, y10.1, y11.1, y12.1] ∧ cs.length = P.cellsOf t ∧ DataW.trod enc P W base spare held n f0.type ((cs.drop f0.offset).take (P.cellsOf f0.type)) = some y0 ∧
      DataW.trod enc P W base spare held n f1.type ((cs.drop f1.offset).take (P.cellsOf f1.type)) = some y1 ∧
      DataW.trod enc P W base spare held n f2.type ((cs.drop f2.offset).take (P.cellsOf f2.type)) = some y2 ∧
      DataW.trod enc P W base spare held n f3.type ((cs.drop f3.offset).take (P.cellsOf f3.type)) = some y3 ∧
      DataW.trod enc P W base spare held n f4.type ((cs.drop f4.offset).take (P.cellsOf f4.type)) = some y4 ∧
      DataW.trod enc P W base spare held n f5.type ((cs.drop f5.offset).take (P.cellsOf f5.type)) = some y5 ∧
      DataW.trod enc P W base spare held n f6.type ((cs.drop f6.offset).take (P.cellsOf f6.type)) = some y6 ∧
      DataW.trod enc P W base spare held n f7.type ((cs.drop f7.offset).take (P.cellsOf f7.type)) = some y7 ∧
      DataW.trod enc P W base spare held n f8.type ((cs.drop f8.offset).take (P.cellsOf f8.type)) = some y8 ∧
      DataW.trod enc P W base spare held n f9.type ((cs.drop f9.offset).take (P.cellsOf f9.type)) = some y9 ∧
      DataW.trod enc P W base spare held n f10.type ((cs.drop f10.offset).take (P.cellsOf f10.type)) = some y10 ∧
      DataW.trod enc P W base spare held n f11.type ((cs.drop f11.offset).take (P.cellsOf f11.type)) = some y11 ∧
      DataW.trod enc P W base spare held n f12.type ((cs.drop f12.offset).take (P.cellsOf f12.type)) = some y12 := by
  obtain ⟨xs, n, _, rfl, hl, hlen, hf⟩ := DataW.trod_struct ht h
  match xs, hlen with
  | [y0, y1, y2, y3, y4, y5, y6, y7, y8, y9, y10, y11, y12], _ => exact ⟨y0, y1, y2, y3, y4, y5, y6, y7, y8, y9, y10, y11, y12, n, by simp, hl, by simpa using hf 0 f0 rfl, by simpa using hf 1 f1 rfl, by simpa using hf 2 f2 rfl, by simpa using hf 3 f3 rfl, by simpa using hf 4 f4 rfl, by simpa using hf 5 f5 rfl, by simpa using hf 6 f6 rfl, by simpa using hf 7 f7 rfl, by simpa using hf 8 f8 rfl, by simpa using hf 9 f9 rfl, by simpa using hf 10 f10 rfl, by simpa using hf 11 f11 rfl, by simpa using hf 12 f12 rfl⟩
theorem cells_bulk {cs : List C} {d : DataW H} (h : cs = [] ∨ ∃ elems sp, d = .slice elems sp ∧ cs.length = elems.length) : cs.length ≤ Rows.uptoBulk d := by
  rcases h with rfl | ⟨el, sp, rfl, hl⟩
  · simp
  · have := bulk_len el
    rw [hl]
    simp only [Rows.uptoBulk]
    omega
/-- A slice of bools. -/
theorem open_bools {fuel : Nat} {v : Value} {y : DataW H × List MemPlace} (h : DataW.trod enc Tryd.prog W 0 (fun _ => true) true fuel 27 [v] = some y) :
    ∃ l : List Bool, BoolsV W v l ∧ l.length ≤ Rows.uptoBulk y.1 := by
  rcases Deep.open_slice und_bools h with ⟨hcs, _⟩ | ⟨a, len, cap, m, n, D, Pl, hcs, _, hl, hm, hmm, rfl, hx⟩
  · simp at hcs
    subst hcs
    exact ⟨[], .inl ⟨rfl, _, _, rfl⟩, by simp⟩
  · simp at hcs
    subst hcs
    simp only [if_true] at hmm
    rw [show Tryd.prog.cellsOf 4 = 1 by kernel_rfl] at hx
    obtain ⟨f, hf⟩ := Deep.choose_lt (α := Bool) (p := fun i c => W.cell? ((a.add (i * 1)).add 0) = some (.bool c)) (n := len) (fun i hi => by
      obtain ⟨cs', h1, h2⟩ := hx i (by omega)
      obtain ⟨_, _, hc⟩ := World.cells?_some h1
      obtain ⟨c, rfl, _⟩ := DataW.trod_bool Tryd.underlying4 h2
      exact ⟨c, hc 0 (by omega)⟩)
    have hlen : ((List.range len).map f).length = len := by simp
    refine ⟨(List.range len).map f, ?_, ?_⟩
    · by_cases h0 : len = 0
      · subst h0
        exact .inl ⟨by simp, _, _, rfl⟩
      · obtain ⟨b, off, spot⟩ := a
        have hspot : spot = none := by
          have := hf 0 (by omega)
          simpa [Addr.add] using World.cell?_spot this
        subst hspot
        refine .inr ⟨b, off, cap, by rw [hlen], by rw [hlen]; omega, by unfold maxLen at hm; omega, fun j hj => ?_⟩
        rw [hlen] at hj
        have hg : ((List.range len).map f).getD j false = f j := by simp [List.getD, hj]
        rw [hg]
        have hc := hf j hj
        rw [add_plain, add_plain] at hc
        simpa using hc
    · rw [hlen]
      have h := bulk_len ((List.range len).map D)
      rw [List.length_map, List.length_range] at h
      simp only [Rows.uptoBulk]
      omega
/-- A slice of rows. -/
theorem open_rows {fuel : Nat} {v : Value} {y : DataW H × List MemPlace} (h : DataW.trod enc Tryd.prog W 0 (fun _ => true) true fuel 30 [v] = some y) :
    ∃ l : List (List C), RowsV W v l ∧ l.length ≤ Rows.uptoBulk y.1 ∧ ∀ row ∈ l, row.length ≤ Rows.uptoBulk y.1 := by
  rcases Deep.open_slice und_rows h with ⟨hcs, _⟩ | ⟨a, len, cap, m, n, D, Pl, hcs, _, hl, hm, hmm, rfl, hx⟩
  · simp at hcs
    subst hcs
    exact ⟨[], .inl ⟨rfl, _, _, rfl⟩, by simp, by simp⟩
  · simp at hcs
    subst hcs
    simp only [if_true] at hmm
    rw [show Tryd.prog.cellsOf 22 = 1 by kernel_rfl] at hx
    obtain ⟨f, hf⟩ := Deep.choose_lt (α := List C) (p := fun i row => ∃ rv, W.cell? ((a.add (i * 1)).add 0) = some rv ∧ SliceAt W rv row ∧ row.length ≤ Rows.uptoBulk (D i)) (n := len) (fun i hi => by
      obtain ⟨cs', h1, h2⟩ := hx i (by omega)
      obtain ⟨hlen1, _, hc⟩ := World.cells?_some h1
      match cs', hlen1 with
      | [rv], _ =>
        obtain ⟨row, hs, -, hb⟩ := Grd.open_cells h2
        exact ⟨row, rv, hc 0 (by omega), hs, cells_bulk hb⟩)
    have hlen : ((List.range len).map f).length = len := by simp
    refine ⟨(List.range len).map f, ?_, ?_, ?_⟩
    · by_cases h0 : len = 0
      · subst h0
        exact .inl ⟨by simp, _, _, rfl⟩
      · obtain ⟨b, off, spot⟩ := a
        have hspot : spot = none := by
          obtain ⟨rv, hc, -⟩ := hf 0 (by omega)
          simpa [Addr.add] using World.cell?_spot hc
        subst hspot
        refine .inr ⟨b, off, cap, by rw [hlen], by rw [hlen]; omega, by unfold maxLen at hm; omega, fun j hj => ?_⟩
        rw [hlen] at hj
        have hg : ((List.range len).map f).getD j [] = f j := by simp [List.getD, hj]
        rw [hg]
        obtain ⟨rv, hc, hs, -⟩ := hf j hj
        rw [add_plain, add_plain] at hc
        exact ⟨rv, by simpa using hc, hs⟩
    · rw [hlen]
      have h := bulk_len ((List.range len).map D)
      rw [List.length_map, List.length_range] at h
      simp only [Rows.uptoBulk]
      omega
    · intro row hrow
      simp only [List.mem_map, List.mem_range] at hrow
      obtain ⟨i, hi, rfl⟩ := hrow
      obtain ⟨rv, -, -, hb⟩ := hf i hi
      have h1 : Rows.uptoBulk (D i) ≤ Rows.uptoBulkAll ((List.range len).map D) := bulk_mem (List.mem_map.2 ⟨i, List.mem_range.2 hi, rfl⟩)
      simp only [Rows.uptoBulk]
      omega
set_option maxRecDepth 100000 in
theorem open_kept {fuel : Nat} {vs : List Value} {y : DataW H × List MemPlace} (h : DataW.trod enc Tryd.prog W 0 (fun _ => true) true fuel 29 vs = some y) :
    ∃ x y' f b c m : Int, vs = [.int .i64 x, .int .i64 y', .int .i64 f, .int .i64 b, .int .i64 c, .int .i64 m] ∧ (-9223372036854775808 ≤ m ∧ m ≤ 9223372036854775807) := by
  obtain ⟨y0, y1, y2, y3, n, -, hl, e0, e1, e2, e3⟩ := trod_struct4 Tryd.underlying29 h
  rw [show Tryd.prog.cellsOf 29 = 6 by kernel_rfl] at hl
  match vs, hl with
  | [v0, v1, v2, v3, v4, v5], _ =>
    simp only [show Tryd.prog.cellsOf 3 = 1 by kernel_rfl, show Tryd.prog.cellsOf 26 = 3 by kernel_rfl] at e0 e1 e2 e3
    obtain ⟨a0, k0, _, w0⟩ := DataW.trod_int Tryd.underlying3 e0
    obtain ⟨a1, k1, _, w1⟩ := DataW.trod_int Tryd.underlying3 e1
    obtain ⟨f, b, x, k2, -⟩ := Grd.open_style e2
    obtain ⟨a3, k3, _, w3⟩ := DataW.trod_int Tryd.underlying3 e3
    obtain rfl : v0 = _ := by simpa using k0
    obtain rfl : v1 = _ := by simpa using k1
    obtain ⟨rfl, rfl, rfl⟩ : v2 = _ ∧ v3 = _ ∧ v4 = _ := by simpa using k2
    obtain rfl : v5 = _ := by simpa using k3
    exact ⟨a0, a1, f, b, x, a3, rfl, i64_in w3⟩
set_option maxRecDepth 100000 in
theorem open_grid3 {fuel : Nat} {vs : List Value} {y : DataW H × List MemPlace} (h : DataW.trod enc Tryd.prog W 0 (fun _ => true) true fuel 24 vs = some y) :
    ∃ (a b : Int) (u : Value) (cs : List C), vs = [.int .i64 a, .int .i64 b, u] ∧ SliceAt W u cs ∧ cs.length ≤ Rows.uptoBulk y.1 := by
  obtain ⟨y0, y1, y2, n, hy, hl, e0, e1, e2⟩ := Deep.trod_struct3 Tryd.underlying24 h
  rw [show Tryd.prog.cellsOf 24 = 3 by kernel_rfl] at hl
  match vs, hl with
  | [v0, v1, v2], _ =>
    simp only [show Tryd.prog.cellsOf 3 = 1 by kernel_rfl, show Tryd.prog.cellsOf 22 = 1 by kernel_rfl] at e0 e1 e2
    obtain ⟨a0, k0, _, w0⟩ := DataW.trod_int Tryd.underlying3 e0
    obtain ⟨a1, k1, _, w1⟩ := DataW.trod_int Tryd.underlying3 e1
    obtain ⟨cs, hs, -, hb⟩ := Grd.open_cells (show DataW.trod enc Tryd.prog W 0 (fun _ => true) true n 22 [v2] = some y2 from e2)
    obtain rfl : v0 = _ := by simpa using k0
    obtain rfl : v1 = _ := by simpa using k1
    refine ⟨a0, a1, v2, cs, rfl, hs, ?_⟩
    have h1 := cells_bulk hb
    rw [hy]
    simp only [Rows.uptoBulk, Rows.uptoBulkAll]
    omega
set_option maxRecDepth 100000 in
set_option maxHeartbeats 1000000 in
theorem open_screen {r : Reach} {b0 : Nat} {v : Value} {d : DataW H} {p : List MemPlace} (hv : Value.okWide Tryd.prog W r b0 32 v) (h : DataW.Trod enc Tryd.prog W 0 (fun _ => true) true 32 v d p) :
    ∃ (s : Scr) (cv tv gv : Value), v = .agg (scrA s cv tv gv) ∧ ScrV W s cv tv gv ∧ ((-9223372036854775808 ≤ s.modes ∧ s.modes ≤ 9223372036854775807) ∧ (-9223372036854775808 ≤ s.km ∧ s.km ≤ 9223372036854775807) ∧ (-2147483648 ≤ s.last ∧ s.last ≤ 2147483647)) ∧ s.title.size ≤ Rows.uptoBulk d ∧ s.gone.length ≤ Rows.uptoBulk d ∧ s.tabs.length ≤ Rows.uptoBulk d ∧ s.cs.length ≤ Rows.uptoBulk d ∧ ∀ row ∈ s.gone, row.length ≤ Rows.uptoBulk d := by
  obtain ⟨cs, rfl, hsz⟩ := okWide_struct Tryd.underlying32 hv
  obtain ⟨fuel, hf⟩ := h
  obtain ⟨y0, y1, y2, y3, y4, y5, y6, y7, y8, y9, y10, y11, y12, n, hx, hl, h0, h1, h2, h3, h4, h5, h6, h7, h8, h9, h10, h11, h12⟩ := trod_struct13 Tryd.underlying32 hf
  rw [show Tryd.prog.cellsOf 32 = 22 by kernel_rfl] at hl
  obtain ⟨l⟩ := cs
  match l, hl with
  | [c0, c1, c2, c3, c4, c5, c6, c7, c8, c9, c10, c11, c12, c13, c14, c15, c16, c17, c18, c19, c20, c21], _ =>
    simp only [show Tryd.prog.cellsOf 3 = 1 by kernel_rfl, show Tryd.prog.cellsOf 21 = 1 by kernel_rfl, show Tryd.prog.cellsOf 9 = 1 by kernel_rfl, show Tryd.prog.cellsOf 4 = 1 by kernel_rfl, show Tryd.prog.cellsOf 27 = 1 by kernel_rfl, show Tryd.prog.cellsOf 30 = 1 by kernel_rfl, show Tryd.prog.cellsOf 24 = 3 by kernel_rfl, show Tryd.prog.cellsOf 26 = 3 by kernel_rfl, show Tryd.prog.cellsOf 29 = 6 by kernel_rfl, Value.cells] at h0 h1 h2 h3 h4 h5 h6 h7 h8 h9 h10 h11 h12
    obtain ⟨a0, a1, u, gcs, k0, hs0, hb0⟩ := open_grid3 h0
    obtain ⟨a3, k1, _, w1⟩ := DataW.trod_int Tryd.underlying3 h1
    obtain ⟨a4, k2, _, w2⟩ := DataW.trod_int Tryd.underlying3 h2
    obtain ⟨a5, k3, _⟩ := DataW.trod_bool Tryd.underlying4 h3
    obtain ⟨f, b, x, k4, -⟩ := Grd.open_style h4
    obtain ⟨a9, k5, _, w5⟩ := DataW.trod_int Tryd.underlying3 h5
    obtain ⟨a10, k6, _, w6⟩ := DataW.trod_int Tryd.underlying3 h6
    obtain ⟨a11, k7, _, w7⟩ := DataW.trod_int Tryd.underlying3 h7
    obtain ⟨tl, hs8, hb8⟩ := open_bools (show DataW.trod enc Tryd.prog W 0 (fun _ => true) true n 27 [c12] = some y8 from h8)
    obtain ⟨b13, b14, b15, b16, b17, b18, k9, w9⟩ := open_kept h9
    obtain ⟨a19, k10, _, w10⟩ := DataW.trod_int Tryd.underlying21 h10
    obtain ⟨a20, k11, g11, w11⟩ := DataW.trod_string Tryd.underlying9 h11
    obtain ⟨gl, hs12, hb12, hr12⟩ := open_rows (show DataW.trod enc Tryd.prog W 0 (fun _ => true) true n 30 [c21] = some y12 from h12)
    obtain ⟨rfl, rfl, rfl⟩ : c0 = _ ∧ c1 = _ ∧ c2 = _ := by simpa using k0
    obtain rfl : c3 = _ := by simpa using k1
    obtain rfl : c4 = _ := by simpa using k2
    obtain rfl : c5 = _ := by simpa using k3
    obtain ⟨rfl, rfl, rfl⟩ : c6 = _ ∧ c7 = _ ∧ c8 = _ := by simpa using k4
    obtain rfl : c9 = _ := by simpa using k5
    obtain rfl : c10 = _ := by simpa using k6
    obtain rfl : c11 = _ := by simpa using k7
    obtain ⟨rfl, rfl, rfl, rfl, rfl, rfl⟩ : c13 = _ ∧ c14 = _ ∧ c15 = _ ∧ c16 = _ ∧ c17 = _ ∧ c18 = _ := by simpa using k9
    obtain rfl : c19 = _ := by simpa using k10
    obtain rfl : c20 = _ := by simpa using k11
    have hb : Rows.uptoBulk d = Rows.uptoBulk y0.1 + (Rows.uptoBulk y1.1 + (Rows.uptoBulk y2.1 + (Rows.uptoBulk y3.1 + (Rows.uptoBulk y4.1 + (Rows.uptoBulk y5.1 + (Rows.uptoBulk y6.1 + (Rows.uptoBulk y7.1 + (Rows.uptoBulk y8.1 + (Rows.uptoBulk y9.1 + (Rows.uptoBulk y10.1 + (Rows.uptoBulk y11.1 + (Rows.uptoBulk y12.1 + 0)))))))))))) + 1 := by
      rw [show d = _ from hx]
      simp only [Rows.uptoBulk, Rows.uptoBulkAll]
    have b11 : Rows.uptoBulk y11.1 = a20.data.toList.length + 1 := by rw [g11]; simp only [Rows.uptoBulk]
    have s11 : a20.size = a20.data.toList.length := by rw [Array.length_toList]; rfl
    exact ⟨⟨a0, a1, gcs, a3, a4, a5, f, b, x, a9, a10, a11, tl, b13, b14, b15, b16, b17, b18, a19, a20, gl⟩, c2, c12, c21, rfl, ⟨hs0, hs8, hs12⟩, ⟨i64_in w7, w9, i32_in w10⟩, by show a20.size ≤ _; omega, by show gl.length ≤ _; omega, by show tl.length ≤ _; omega, by show gcs.length ≤ _; omega, fun row hrow => by have := hr12 row hrow; omega⟩
theorem fits_of {s : Scr} {k : Nat} (h : (-9223372036854775808 ≤ s.modes ∧ s.modes ≤ 9223372036854775807) ∧ (-9223372036854775808 ≤ s.km ∧ s.km ≤ 9223372036854775807) ∧ (-2147483648 ≤ s.last ∧ s.last ≤ 2147483647)) (h1 : s.title.size ≤ k) (h2 : s.gone.length ≤ k) (h3 : s.tabs.length ≤ k) (hk : k ≤ 1048576) : Fits s := ⟨h.1.1, h.1.2, h.2.1.1, h.2.1.2, by omega, by omega, by omega⟩
end
end Put
end Go.Proofs.YtnkeahfcpbepjaaDoor

/- put.New. -/
namespace Go.Proofs.YtnkeahfcpbepjaaDoor
open Go.ChangeShapes Go.WideShapes Go.ChangeAt Go.RowKit
namespace Put
open Grd (C SliceAt CellsAt gridErr z0 nilV flat rowsL OwnG isSize)
/-- The tabs of a new screen. -/
def newTabs (n : Nat) : List Bool := (List.range n).map fun x => decide (0 < x ∧ x % 8 = 0)
/-- A new screen. -/
def newScr (n hh : Nat) : Scr := ⟨n, hh, List.replicate (n * hh) (32, 0, 0, 0), 0, 0, false, 0, 0, 0, 0, (hh : Int) - 1, 4, newTabs n, 0, 0, 0, 0, 0, 4, 0, ⟨#[]⟩, []⟩
def preScr (a b y : Int) : Scr := ⟨a, b, [], 0, 0, false, 0, 0, 0, 0, y, 4, [], 0, 0, 0, 0, 0, 4, 0, ⟨#[]⟩, []⟩
def IsGridV (v : Value) : Prop := ∃ a b q l c, v = .agg #[.int .i64 a, .int .i64 b, .slice q l c]
theorem isGridV (a b : Int) (q : Option Addr) (l c : Nat) : IsGridV (.agg #[.int .i64 a, .int .i64 b, .slice q l c]) := ⟨a, b, q, l, c, rfl⟩
def IsIntV (v : Value) : Prop := ∃ a, v = .int .i64 a
theorem isIntV (a : Int) : IsIntV (.int .i64 a) := ⟨a, rfl⟩
def IsKeptV (v : Value) : Prop := v = .agg #[.int .i64 0, .int .i64 0, .int .i64 0, .int .i64 0, .int .i64 0, .int .i64 4]
theorem isKeptV : IsKeptV (.agg #[.int .i64 0, .int .i64 0, .int .i64 0, .int .i64 0, .int .i64 0, .int .i64 4]) := rfl
def newArr (x y u : Value) : Array Value := #[(aggOf x).getD 0 undef, (aggOf x).getD 1 undef, (aggOf x).getD 2 undef, .int .i64 0, .int .i64 0, .bool false, .int .i64 0, .int .i64 0, .int .i64 0, .int .i64 0, y, .int .i64 4, u, .int .i64 0, .int .i64 0, .int .i64 0, .int .i64 0, .int .i64 0, .int .i64 4, .int .i32 0, .string ⟨#[]⟩, .slice none 0 0]
theorem newArr_scr (a b y : Int) (cv tv : Value) : newArr (.agg #[.int .i64 a, .int .i64 b, cv]) (.int .i64 y) tv = scrA (preScr a b y) cv tv (.slice none 0 0) := rfl
theorem build_new_run (W : World) (a b y : Int) (q : Option Addr) (l c : Nat) (q' : Option Addr) (l' c' : Nat) : (Instr.build 32 #[(0, .agg #[.int .i64 a, .int .i64 b, .slice q l c]), (6, .int .i64 y), (7, .int .i64 4), (9, .agg #[.int .i64 0, .int .i64 0, .int .i64 0, .int .i64 0, .int .i64 0, .int .i64 4]), (8, .slice q' l' c')]).run Tryd.prog W = .ok (.agg (scrA (preScr a b y) (.slice q l c) (.slice q' l' c') (.slice none 0 0))) W := by kernel_rfl
theorem build_new (a : Act) (dst : Option Tmp) (x y z u : Operand) (ty : TypeId) (pos : String) (after : Array Edge) (guard : Option (Nat × Bool)) (W : World) (hx : IsGridV (a.eval x)) (hy : IsIntV (a.eval y)) (hz : IsKeptV (a.eval z)) (hu : IsSliceV (a.eval u)) :
    (execOp a.eval { dst, op := .build 32 #[(0, x), (6, y), (7, Operand.const (.int .i64 4)), (9, z), (8, u)], type := ty, pos, after, guard }).run Tryd.prog W = .ok (.value (.agg (newArr (a.eval x) (a.eval y) (a.eval u)))) W := by
  obtain ⟨a1, b1, q, l, c, hx⟩ := hx
  obtain ⟨y1, hy⟩ := hy
  unfold IsKeptV at hz
  obtain ⟨q', l', c', hu⟩ := hu
  have e4 : a.eval (Operand.const (.int .i64 4)) = .int .i64 4 := rfl
  unfold execOp
  simp only [List.map_toArray, List.map_cons, List.map_nil, hx, hy, hz, hu, e4, newArr_scr, Sem.run_bind, build_new_run, Sem.run_pure, Result.andThen_ok]
/-- The tabs that are set up to x. -/
def tabsL (n x : Nat) : List Bool := (List.range n).map fun j => decide (0 < j ∧ j % 8 = 0 ∧ j < x)
def tabsA (n x : Nat) : Array Value := ((tabsL n x).map Value.bool).toArray
theorem tabsL_all (n x : Nat) (h : n ≤ x) : tabsL n x = newTabs n := by
  unfold tabsL newTabs
  apply List.map_congr_left
  intro j hj
  rw [List.mem_range] at hj
  rw [decide_eq_decide]
  omega
theorem tabsA_cell {W : World} {T n x : Nat} (h : W.heap[T]? = some (.cells (tabsA n x) 4 (0, 0))) (hx : x < n) : W.cell? ⟨T, x, none⟩ = some (.bool false) := by
  simp [World.cell?, h, tabsA, tabsL, hx]
theorem tabsA_set (n x : Nat) (h8 : x % 8 = 0) (h0 : 0 < x) : (tabsA n x).setIfInBounds x (.bool true) = tabsA n (x + 8) := by
  unfold tabsA tabsL
  apply Array.ext
  · simp
  · intro i h1 h2
    simp only [Array.size_setIfInBounds, List.size_toArray, List.length_map, List.length_range] at h1
    rw [Array.getElem_setIfInBounds (by simpa using h1)]
    by_cases e : x = i
    · subst e
      simp [h8]
      omega
    · have h3 : decide (0 < i ∧ i % 8 = 0 ∧ i < x) = decide (0 < i ∧ i % 8 = 0 ∧ i < x + 8) := by rw [decide_eq_decide]; omega
      simp only [if_neg e, List.getElem_toArray, List.getElem_map, List.getElem_range, h3]
/-- Tabs, none set. -/
def falses (n : Nat) : Array Value := (List.replicate n (Value.bool false)).toArray
theorem tabsA_start (n : Nat) : tabsA n 8 = falses n := by
  unfold tabsA tabsL falses
  apply Array.ext
  · simp
  · intro i h1 h2
    simp
    omega
theorem made_falses (n : Nat) : madeCells (Value.bool false).cells (n * 1) = falses n := by
  unfold madeCells falses
  apply Array.ext
  · simp
  · intro i h1 h2
    have e : i % 1 = 0 := by omega
    simp [Value.cells, e]
theorem makeTabs (n : Nat) (hn : n ≤ 120) (W : World) : (Instr.makeSlice 27 (.int .i64 (n : Int)) (.int .i64 (n : Int))).run Tryd.prog W = .ok (.slice (some ⟨W.heap.size, 0, none⟩) n n) (W.alloc (.cells (falses n) 4)) := by
  obtain ⟨i0, hi, hzz⟩ := Option.map_eq_some_iff.1 info_bool
  simp only [Prod.mk.injEq] at hzz
  obtain ⟨hz0, hz1, hz2⟩ := hzz
  have h := run_makeSlice (P := Tryd.prog) (w := W) 27 4 i0 (.bool false) und_bools hi hz0 .i64 .i64 (n : Int) (n : Int) (by omega) (by omega) (by rw [hz1]; simp; omega) (by rw [hz2]; simp; omega) (by omega)
  rw [h, hz1, Int.toNat_natCast, made_falses]
section
attribute [local go_sem ↓] build_new store_scr
attribute [local go_sem] isGridV isIntV isKeptV isSliceV isScrS newArr_scr ptrBlk_at aggOf_agg
set_option maxHeartbeats 4000000 in
set_option maxRecDepth 100000 in
theorem new_good' (n hh : Nat) (w : World) (hs : isSize n hh = true) : Calls Tryd.prog 10 #[.int .i64 (n : Int), .int .i64 (hh : Int)] w (Made w w (newScr n hh) 0) := by
  have hsz : 1 ≤ (n : Int) ∧ (n : Int) ≤ 120 ∧ 1 ≤ (hh : Int) ∧ (hh : Int) ≤ 60 := by simpa [Grd.isSize] using hs
  obtain ⟨w1, w2, w3, w4⟩ := hsz
  have HN : Hid (∀ W, Calls Tryd.prog 40 #[.int .i64 (n : Int), .int .i64 (hh : Int)] W fun e w' => ∃ v, e = .returned (.tuple #[.agg #[.int .i64 (n : Int), .int .i64 (hh : Int), v], .int .i64 0]) ∧ OwnG w' W.heap.size v (List.replicate (n * hh) (32, 0, 0, 0)) ∧ Below W.heap.size W w') := fun W => by
    have h := Grd.new_good (n : Int) (hh : Int) W hs
    have e : ((n : Int) * (hh : Int)).toNat = n * hh := by rw [← Int.natCast_mul, Int.toNat_natCast]
    rw [e] at h
    exact h
  have hx0 := heap_alloc_new w (.cells #[.int .i64 0, .int .i64 0, .slice none 0 0, .int .i64 0, .int .i64 0, .bool false, .int .i64 0, .int .i64 0, .int .i64 0, .int .i64 0, .int .i64 0, .int .i64 0, .slice none 0 0, .int .i64 0, .int .i64 0, .int .i64 0, .int .i64 0, .int .i64 0, .int .i64 0, .int .i32 0, .string ⟨#[]⟩, .slice none 0 0] 32)
  have kb : Below w.heap.size w (w.alloc (.cells #[.int .i64 0, .int .i64 0, .slice none 0 0, .int .i64 0, .int .i64 0, .bool false, .int .i64 0, .int .i64 0, .int .i64 0, .int .i64 0, .int .i64 0, .int .i64 0, .slice none 0 0, .int .i64 0, .int .i64 0, .int .i64 0, .int .i64 0, .int .i64 0, .int .i64 0, .int .i32 0, .string ⟨#[]⟩, .slice none 0 0] 32)) := (Below.refl _ _).alloc (Nat.le_refl _) _
  have HX0 : Hid _ := hx0
  have HKB : Hid _ := kb
  clear hs hx0 kb
  go_enter Tryd.func10, Tryd.ntmps10
  go_wp2_with fail
  refine (HN.out _).mono ?_
  rintro e W1 ⟨v, rfl, ho, b1⟩
  have HO : Hid (OwnG W1 _ v (List.replicate (n * hh) (32, 0, 0, 0))) := ho
  obtain ⟨g, cap, rest, t, hv, -, -, -, -⟩ := ho
  rw [List.length_replicate] at hv
  subst hv
  go_upto_region 4 with fail
  have hL : n * hh ≤ 7200 := by have := Nat.mul_le_mul (show n ≤ 120 by omega) (show hh ≤ 60 by omega); omega
  generalize hLL : n * hh = L at *
  have HLL : Hid (n * hh = L) := hLL
  clear hLL
  have HX1 : Hid (W1.heap[w.heap.size]? = _) := Grd.carry HX0.out b1
  have hb1 : Below w.heap.size w W1 := HKB.out.trans (b1.mono HKB.out.size)
  have xg := heap_alloc_new W1 (.cells #[.int .i64 (n : Int), .int .i64 (hh : Int), .slice (some ⟨g, 0, none⟩) L cap] 24)
  have bg : Below W1.heap.size W1 (W1.alloc (.cells #[.int .i64 (n : Int), .int .i64 (hh : Int), .slice (some ⟨g, 0, none⟩) L cap] 24)) := (Below.refl _ _).alloc (Nat.le_refl _) _
  obtain ⟨g0, g1, g2, -⟩ := Grd.cells3 xg
  have HX2 : Hid _ := Grd.carry HX1.out bg
  have HBG : Hid _ := bg
  clear HX0 HKB b1 bg
  generalize (W1.alloc (.cells #[.int .i64 (n : Int), .int .i64 (hh : Int), .slice (some ⟨g, 0, none⟩) L cap] 24)) = X at *
  have hwr : IntKind.i64.wrap ((hh : Int) - 1) = (hh : Int) - 1 := by rw [IntKind.wrap_i64]; omega
  have hms := makeTabs n (by omega)
  have p1 : ScrPtr0 ((X.alloc (.cells (falses n) 4)).alloc (.cells #[.int .i64 0, .int .i64 0, .slice none 0 0, .int .i64 0, .int .i64 0, .bool false, .int .i64 0, .int .i64 0, .int .i64 0, .int .i64 0, .int .i64 0, .int .i64 0, .slice none 0 0, .int .i64 0, .int .i64 0, .int .i64 0, .int .i64 0, .int .i64 0, .int .i64 0, .int .i32 0, .string ⟨#[]⟩, .slice none 0 0] 32)).drew (.pointer (some ⟨X.heap.size + 1, 0, none⟩)) := scrPtr0_of (show ((X.alloc (.cells (falses n) 4)).alloc (.cells #[.int .i64 0, .int .i64 0, .slice none 0 0, .int .i64 0, .int .i64 0, .bool false, .int .i64 0, .int .i64 0, .int .i64 0, .int .i64 0, .int .i64 0, .int .i64 0, .slice none 0 0, .int .i64 0, .int .i64 0, .int .i64 0, .int .i64 0, .int .i64 0, .int .i64 0, .int .i32 0, .string ⟨#[]⟩, .slice none 0 0] 32)).heap[X.heap.size + 1]? = _ from heap_alloc2_new X _ _) rfl
  have p2 : ScrPtr0 ((X.alloc (.cells #[.int .i64 0, .int .i64 0, .slice none 0 0, .int .i64 0, .int .i64 0, .bool false, .int .i64 0, .int .i64 0, .int .i64 0, .int .i64 0, .int .i64 0, .int .i64 0, .slice none 0 0, .int .i64 0, .int .i64 0, .int .i64 0, .int .i64 0, .int .i64 0, .int .i64 0, .int .i32 0, .string ⟨#[]⟩, .slice none 0 0] 32)).alloc (.cells (falses n) 4)).drew (.pointer (some ⟨X.heap.size, 0, none⟩)) := scrPtr0_of (show ((X.alloc (.cells #[.int .i64 0, .int .i64 0, .slice none 0 0, .int .i64 0, .int .i64 0, .bool false, .int .i64 0, .int .i64 0, .int .i64 0, .int .i64 0, .int .i64 0, .int .i64 0, .slice none 0 0, .int .i64 0, .int .i64 0, .int .i64 0, .int .i64 0, .int .i64 0, .int .i64 0, .int .i32 0, .string ⟨#[]⟩, .slice none 0 0] 32)).alloc (.cells (falses n) 4)).heap[X.heap.size]? = _ from (Below.heap_alloc _ _ _ (by simp)).trans (heap_alloc_new _ _)) rfl
  have SK : Hid (∀ w', Below X.heap.size X w' → w'.cell? ⟨W1.heap.size, 0, none⟩ = some (.int .i64 (n : Int)) ∧ w'.cell? ⟨W1.heap.size, 1, none⟩ = some (.int .i64 (hh : Int)) ∧ w'.cell? ⟨W1.heap.size, 2, none⟩ = some (.slice (some ⟨g, 0, none⟩) L cap)) := fun w' h => ⟨cell_stay h g0, cell_stay h g1, cell_stay h g2⟩
  have b0 : Below X.heap.size X X.drew := (Below.refl _ _).drew
  have bF : Below X.heap.size X (X.alloc (.cells (falses n) 4)).drew := ((Below.refl _ _).alloc (Nat.le_refl _) _).drew
  have bZ : Below X.heap.size X (X.alloc (.cells #[.int .i64 0, .int .i64 0, .slice none 0 0, .int .i64 0, .int .i64 0, .bool false, .int .i64 0, .int .i64 0, .int .i64 0, .int .i64 0, .int .i64 0, .int .i64 0, .slice none 0 0, .int .i64 0, .int .i64 0, .int .i64 0, .int .i64 0, .int .i64 0, .int .i64 0, .int .i32 0, .string ⟨#[]⟩, .slice none 0 0] 32)).drew := ((Below.refl _ _).alloc (Nat.le_refl _) _).drew
  have bFZ : Below X.heap.size X ((X.alloc (.cells (falses n) 4)).alloc (.cells #[.int .i64 0, .int .i64 0, .slice none 0 0, .int .i64 0, .int .i64 0, .bool false, .int .i64 0, .int .i64 0, .int .i64 0, .int .i64 0, .int .i64 0, .int .i64 0, .slice none 0 0, .int .i64 0, .int .i64 0, .int .i64 0, .int .i64 0, .int .i64 0, .int .i64 0, .int .i32 0, .string ⟨#[]⟩, .slice none 0 0] 32)).drew := (((Below.refl _ _).alloc (Nat.le_refl _) _).alloc (by simp) _).drew
  have bZF : Below X.heap.size X ((X.alloc (.cells #[.int .i64 0, .int .i64 0, .slice none 0 0, .int .i64 0, .int .i64 0, .bool false, .int .i64 0, .int .i64 0, .int .i64 0, .int .i64 0, .int .i64 0, .int .i64 0, .slice none 0 0, .int .i64 0, .int .i64 0, .int .i64 0, .int .i64 0, .int .i64 0, .int .i64 0, .int .i32 0, .string ⟨#[]⟩, .slice none 0 0] 32)).alloc (.cells (falses n) 4)).drew := (((Below.refl _ _).alloc (Nat.le_refl _) _).alloc (by simp) _).drew
  go_cut [8] from 20 to 26 (fun c wx => ∃ R T, c = .pointer (some ⟨R, 0, none⟩) ∧ X.heap.size ≤ R ∧ X.heap.size ≤ T ∧ R ≠ T ∧ wx.heap[R]? = some (.cells (scrA (preScr (n : Int) (hh : Int) ((hh : Int) - 1)) (.slice (some ⟨g, 0, none⟩) L cap) (.slice (some ⟨T, 0, none⟩) n n) (.slice none 0 0)) 32 (0, 0)) ∧ wx.heap[T]? = some (.cells (falses n) 4 (0, 0)) ∧ Below X.heap.size X wx)
  case first =>
    go_region_held3 (fun w' => w'.cell? ⟨W1.heap.size, 0, none⟩ = some (.int .i64 (n : Int)) ∧ w'.cell? ⟨W1.heap.size, 1, none⟩ = some (.int .i64 (hh : Int)) ∧ w'.cell? ⟨W1.heap.size, 2, none⟩ = some (.slice (some ⟨g, 0, none⟩) L cap))
      (first | exact SK.out _ b0 | exact SK.out _ bF | exact SK.out _ bZ | exact SK.out _ bFZ | exact SK.out _ bZF | exact SK.out _ (below_setRow bFZ (Nat.le_succ _) _) | exact SK.out _ (below_setRow bZF (Nat.le_refl _) _)) (fail)
    all_goals go_wp2_with fail
    all_goals go_meet
    all_goals first
      | exact ⟨X.heap.size + 1, X.heap.size, rfl, Nat.le_succ _, Nat.le_refl _, Nat.succ_ne_self _, setRow_heap _ _ _ _ _ _ (show ((X.alloc (.cells (falses n) 4)).alloc (.cells #[.int .i64 0, .int .i64 0, .slice none 0 0, .int .i64 0, .int .i64 0, .bool false, .int .i64 0, .int .i64 0, .int .i64 0, .int .i64 0, .int .i64 0, .int .i64 0, .slice none 0 0, .int .i64 0, .int .i64 0, .int .i64 0, .int .i64 0, .int .i64 0, .int .i64 0, .int .i32 0, .string ⟨#[]⟩, .slice none 0 0] 32)).heap[X.heap.size + 1]? = _ from heap_alloc2_new X _ _), (setRow_other _ _ _ _ (Nat.ne_of_lt (Nat.lt_succ_self _))).trans (show ((X.alloc (.cells (falses n) 4)).alloc (.cells #[.int .i64 0, .int .i64 0, .slice none 0 0, .int .i64 0, .int .i64 0, .bool false, .int .i64 0, .int .i64 0, .int .i64 0, .int .i64 0, .int .i64 0, .int .i64 0, .slice none 0 0, .int .i64 0, .int .i64 0, .int .i64 0, .int .i64 0, .int .i64 0, .int .i64 0, .int .i32 0, .string ⟨#[]⟩, .slice none 0 0] 32)).heap[X.heap.size]? = _ from (Below.heap_alloc _ _ _ (by simp)).trans (heap_alloc_new _ _)), below_setRow bFZ (Nat.le_succ _) _⟩
      | exact ⟨X.heap.size, X.heap.size + 1, rfl, Nat.le_refl _, Nat.le_succ _, Nat.ne_of_lt (Nat.lt_succ_self _), setRow_heap _ _ _ _ _ _ (show ((X.alloc (.cells #[.int .i64 0, .int .i64 0, .slice none 0 0, .int .i64 0, .int .i64 0, .bool false, .int .i64 0, .int .i64 0, .int .i64 0, .int .i64 0, .int .i64 0, .int .i64 0, .slice none 0 0, .int .i64 0, .int .i64 0, .int .i64 0, .int .i64 0, .int .i64 0, .int .i64 0, .int .i32 0, .string ⟨#[]⟩, .slice none 0 0] 32)).alloc (.cells (falses n) 4)).heap[X.heap.size]? = _ from (Below.heap_alloc _ _ _ (by simp)).trans (heap_alloc_new _ _)), (setRow_other _ _ _ _ (Nat.succ_ne_self _)).trans (show ((X.alloc (.cells #[.int .i64 0, .int .i64 0, .slice none 0 0, .int .i64 0, .int .i64 0, .bool false, .int .i64 0, .int .i64 0, .int .i64 0, .int .i64 0, .int .i64 0, .int .i64 0, .slice none 0 0, .int .i64 0, .int .i64 0, .int .i64 0, .int .i64 0, .int .i64 0, .int .i64 0, .int .i32 0, .string ⟨#[]⟩, .slice none 0 0] 32)).alloc (.cells (falses n) 4)).heap[X.heap.size + 1]? = _ from heap_alloc2_new X _ _), below_setRow bZF (Nat.le_refl _) _⟩
  case rest =>
    obtain ⟨R, T, rfl, hR, hTT, hne, hxR, hxT, hbx⟩ := hcut
    have HXR : Hid _ := hxR
    have HXT : Hid (wc.heap[T]? = some (.cells (falses n) 4 (0, 0))) := hxT
    have HBX : Hid (Below X.heap.size X wc) := hbx
    clear p1 p2 b0 bF bZ bFZ bZF SK g0 g1 g2 hxR hxT hbx hms
    go_wp2_with fail
    go_loopg [9] (n + 8) (fun q i wr => ∃ x : Nat, i = .int .i64 (x : Int) ∧ x % 8 = 0 ∧ 8 ≤ x ∧ x ≤ n + 8 ∧ n + 8 - x ≤ q ∧ wr.heap[R]? = some (.cells (scrA (preScr (n : Int) (hh : Int) ((hh : Int) - 1)) (.slice (some ⟨g, 0, none⟩) L cap) (.slice (some ⟨T, 0, none⟩) n n) (.slice none 0 0)) 32 (0, 0)) ∧ wr.heap[T]? = some (.cells (tabsA n x) 4 (0, 0)) ∧ Below X.heap.size X wr)
    case atStart => exact ⟨8, rfl, by omega, by omega, by omega, by omega, HXR.out, by rw [tabsA_start]; exact HXT.out, HBX.out⟩
    case round =>
      obtain ⟨x, rfl, hx8, hx9, hx10, hq, hyR, hyT, hby⟩ := hrel
      have HYR : Hid (wr.heap[R]? = _) := hyR
      have HYT : Hid (wr.heap[T]? = some (.cells (tabsA n x) 4 (0, 0))) := hyT
      have HBY : Hid (Below X.heap.size X wr) := hby
      clear HXR HXT HBX
      by_cases hlt : x < n
      · have lt1 : ((x : Int) < (n : Int)) := by omega
        have c12 := (scr_cells hyR).2.1.2.1
        have d1 := tabsA_cell hyT hlt
        have f1 := frozen_cells hyT x
        clear hyR hyT hby
        go_wp2_with fail
        go_roundg (n + 8 - (x + 8))
        case measure => omega
        case rel => exact ⟨x + 8, by go_num, by omega, by omega, by omega, by omega, (store_off hne).trans HYR.out, store_at HYT.out (tabsA_set n x hx8 (by omega)), HBY.out.setCell hTT _⟩
      · have lt1 : ¬ ((x : Int) < (n : Int)) := by omega
        clear hyR hyT hby
        have hyZ : wr.heap[w.heap.size]? = _ := Grd.carry HX2.out HBY.out
        have HYZ : Hid _ := hyZ
        clear hyZ
        go_wp2_with (first
          | (refine wpList_load_row rfl 32 (.tmp 8) rfl R rfl _ _ _ _ HYR.out Tryd.underlying32 rfl (by kernel_rfl) ?_)
          | (refine wpList_store_row rfl 32 (.tmp 4) _ rfl w.heap.size (scrA (preScr (n : Int) (hh : Int) ((hh : Int) - 1)) (.slice (some ⟨g, 0, none⟩) L cap) (.slice (some ⟨T, 0, none⟩) n n) (.slice none 0 0)) rfl rfl _ _ HYZ.out (by kernel_rfl) rfl (scr_one _ _ _ _ _ _ _ _ _ _) ?_))
        (try simp only [Exit.inBlock, Exit.then])
        refine bodyPost_ret (v := .tuple #[.agg (scrA (preScr (n : Int) (hh : Int) ((hh : Int) - 1)) (.slice (some ⟨g, 0, none⟩) L cap) (.slice (some ⟨T, 0, none⟩) n n) (.slice none 0 0)), .int .i64 0]) ?_ rfl ⟨.slice (some ⟨g, 0, none⟩) L cap, .slice (some ⟨T, 0, none⟩) n n, .slice none 0 0, rfl, ?_, ?_⟩
        · exact Grd.results_row_tmp rfl _ _ w.heap.size _ _ _ _ rfl (setRow_heap _ _ _ _ _ _ HYZ.out) Tryd.underlying32 rfl (by kernel_rfl) _ rfl
        · have hw1 := hb1.size
          have hw2 := HBG.out.size
          have hw3 := heap_lt HX2.out
          have hbA : Below W1.heap.size W1 wr := HBG.out.trans (HBY.out.mono hw2)
          obtain ⟨g', cap', rest', t', hv', hg', hl', hm', hh'⟩ := HO.out
          injection hv' with hv1 hv2 hv3
          injection hv1 with hv1
          injection hv1 with hv1
          subst hv1 hv3
          have hg2 : w.heap.size < g := by simp at hg'; omega
          refine ⟨.inr ⟨g, cap, rest', t', ?_, by omega, ?_, hm', ?_⟩, ?_, [], World.ownsRow_nil _ _ _ _, rfl, fun i hi => absurd hi (by simp [newScr])⟩
          · show _ = Value.slice _ (List.replicate (n * hh) _).length _
            rw [List.length_replicate, HLL.out]
          · show (List.replicate (n * hh) _).length ≤ _
            rw [HLL.out]
            exact hl'
          · show _ = some (Obj.cells (flat (List.replicate (n * hh) _) ++ rest').toArray _ _)
            rw [HLL.out, setRow_other _ _ _ _ (by omega)]
            exact Grd.carry hh' hbA
          · show (wr.setRow _ _).ownsRow _ _ _ _ (newTabs n).length ((newTabs n).map Value.bool)
            have e := tabsL_all n x (by omega)
            have hlen : (newTabs n).length = n := by simp [newTabs]
            rw [hlen]
            refine ⟨by rw [List.length_map, hlen, Nat.mul_one], .inr ⟨T, n, tabsA n x, rfl, by omega, ?_, Nat.le_refl _, by unfold maxLen; omega, by simp [tabsA, tabsL], ?_⟩⟩
            · rw [setRow_other _ _ _ _ (by omega)]
              exact HYT.out
            · unfold tabsA
              rw [e]
              show List.take (n * 1) ((newTabs n).map Value.bool) = _
              rw [List.take_of_length_le (by rw [List.length_map, hlen, Nat.mul_one]; exact Nat.le_refl _)]
        · exact below_setRow (hb1.trans ((HBG.out.trans (HBY.out.mono HBG.out.size)).mono hb1.size)) (Nat.le_refl _) _
end
end Put
end Go.Proofs.YtnkeahfcpbepjaaDoor

/- SameScreen of two screens that read alike. -/
namespace Go.Proofs.YtnkeahfcpbepjaaDoor
open Go.ChangeShapes Go.WideShapes Go.ChangeAt Go.RowKit
namespace Put
open Grd (C SliceAt CellsAt gridErr z0)
set_option maxHeartbeats 1000000 in
theorem equalB_empty (a1 a2 : Option Addr) (c1 c2 : Nat) (w : World) :
    Calls Tryd.prog 54 #[.slice a1 0 c1, .slice a2 0 c2] w fun e w' => e = .returned (.bool true) ∧ Below w.heap.size w w' := by
  go_enter Tryd.func54, Tryd.ntmps54
  go_wp2_with fail
  go_loopg [13] 0 (fun g i wr => i = .int .i64 0 ∧ Below w.heap.size w wr)
  case atStart => exact ⟨rfl, Below.refl _ _⟩
  case round =>
    obtain ⟨rfl, hb⟩ := hrel
    go_wp2_with fail
    go_ret
    exact ⟨rfl, hb⟩
set_option maxHeartbeats 1000000 in
theorem equalB_cells (b1 o1 c1 b2 o2 c2 : Nat) (l : List Bool) (w : World) (h1 : ∀ j, j < l.length → w.cell? ⟨b1, o1 + j, none⟩ = some (.bool (l.getD j false))) (h2 : ∀ j, j < l.length → w.cell? ⟨b2, o2 + j, none⟩ = some (.bool (l.getD j false))) (hn : l.length ≤ 4398046511104) :
    Calls Tryd.prog 54 #[.slice (some ⟨b1, o1, none⟩) l.length c1, .slice (some ⟨b2, o2, none⟩) l.length c2] w fun e w' => e = .returned (.bool true) ∧ Below w.heap.size w w' := by
  have H1 : Hid (∀ j, j < l.length → w.cell? ⟨b1, o1 + j, none⟩ = some (.bool (l.getD j false))) := h1
  have H2 : Hid (∀ j, j < l.length → w.cell? ⟨b2, o2 + j, none⟩ = some (.bool (l.getD j false))) := h2
  clear h1 h2
  generalize hl : l.length = L at *
  have HL : Hid (l.length = L) := hl
  clear hl
  have ne : ((L : Int) != (L : Int)) = false := by simp
  go_enter Tryd.func54, Tryd.ntmps54
  go_wp2_with fail
  go_loopg [13] L (fun g i wr => ∃ k : Nat, i = .int .i64 (k : Int) ∧ k ≤ L ∧ L - k ≤ g ∧ Below w.heap.size w wr)
  case atStart => exact ⟨0, rfl, by omega, by omega, Below.refl _ _⟩
  case round =>
    obtain ⟨k, rfl, hk, hg, hb⟩ := hrel
    by_cases hlt : k < L
    · have lt1 : ((k : Int) < (L : Int)) := by omega
      have p0 := Grd.cell_keep hb (H1.out k hlt)
      have q0 := Grd.cell_keep hb (H2.out k hlt)
      generalize l.getD k false = x at *
      have nq : (x != x) = false := by simp
      go_wp2_with fail
      go_region
      go_wp2_with fail
      go_roundg (L - (k + 1))
      case measure => omega
      case rel => exact ⟨k + 1, rfl, by omega, by omega, hb.drew⟩
    · have lt1 : ¬ ((k : Int) < (L : Int)) := by omega
      go_wp2_with fail
      go_ret
      exact ⟨rfl, hb⟩
theorem equalB_any (v1 v2 : Value) (l : List Bool) (w : World) (h1 : BoolsV w v1 l) (h2 : BoolsV w v2 l) (hn : l.length ≤ 4398046511104) :
    Calls Tryd.prog 54 #[v1, v2] w fun e w' => e = .returned (.bool true) ∧ Below w.heap.size w w' := by
  by_cases h0 : l = []
  · obtain ⟨a1, c1, rfl⟩ := h1.slice
    obtain ⟨a2, c2, rfl⟩ := h2.slice
    subst h0
    exact equalB_empty a1 a2 c1 c2 w
  · rcases h1 with ⟨h, -⟩ | ⟨b1, o1, c1, rfl, -, -, hc1⟩
    · exact absurd h h0
    · rcases h2 with ⟨h, -⟩ | ⟨b2, o2, c2, rfl, -, -, hc2⟩
      · exact absurd h h0
      · exact equalB_cells b1 o1 c1 b2 o2 c2 l w hc1 hc2 hn
set_option maxHeartbeats 1000000 in
theorem eqRows_empty (a1 a2 : Option Addr) (c1 c2 : Nat) (w : World) :
    Calls Tryd.prog 98 #[.slice a1 0 c1, .slice a2 0 c2, .func (.func 78) #[] #[]] w fun e w' => e = .returned (.bool true) ∧ Below w.heap.size w w' := by
  go_enter Tryd.func98, Tryd.ntmps98
  go_wp2_with fail
  go_loopg [17] 0 (fun g i wr => i = .int .i64 0 ∧ Below w.heap.size w wr)
  case atStart => exact ⟨rfl, Below.refl _ _⟩
  case round =>
    obtain ⟨rfl, hb⟩ := hrel
    go_wp2_with fail
    go_ret
    exact ⟨rfl, hb⟩
/-- The rows of two lists of rows that read alike. -/
def RowsA (w : World) (b o : Nat) (l : List (List C)) : Prop := ∀ j, j < l.length → ∃ rv, w.cell? ⟨b, o + j, none⟩ = some rv ∧ SliceAt w rv (l.getD j [])
set_option maxHeartbeats 2000000 in
theorem eqRows_cells (b1 o1 c1 b2 o2 c2 : Nat) (l : List (List C)) (w : World) (h1 : RowsA w b1 o1 l) (h2 : RowsA w b2 o2 l) (hn : l.length ≤ 4398046511104) (hr : ∀ row, row ∈ l → row.length ≤ 4398046511104) :
    Calls Tryd.prog 98 #[.slice (some ⟨b1, o1, none⟩) l.length c1, .slice (some ⟨b2, o2, none⟩) l.length c2, .func (.func 78) #[] #[]] w fun e w' => e = .returned (.bool true) ∧ Below w.heap.size w w' := by
  have H1 : Hid (RowsA w b1 o1 l) := h1
  have H2 : Hid (RowsA w b2 o2 l) := h2
  have HR : Hid (∀ k, k < l.length → (l.getD k []).length ≤ 4398046511104) := fun k hk => by
    rw [List.getD_eq_getElem?_getD, List.getElem?_eq_getElem hk]
    exact hr _ (List.getElem_mem hk)
  clear h1 h2 hr
  unfold RowsA at H1 H2
  generalize hl : l.length = L at *
  have HL : Hid (l.length = L) := hl
  clear hl
  have ne : ((L : Int) != (L : Int)) = false := by simp
  go_enter Tryd.func98, Tryd.ntmps98
  go_wp2_with fail
  go_loopg [17] L (fun g i wr => ∃ k : Nat, i = .int .i64 (k : Int) ∧ k ≤ L ∧ L - k ≤ g ∧ Below w.heap.size w wr)
  case atStart => exact ⟨0, rfl, by omega, by omega, Below.refl _ _⟩
  case round =>
    obtain ⟨k, rfl, hk, hg, hb⟩ := hrel
    by_cases hlt : k < L
    · have lt1 : ((k : Int) < (L : Int)) := by omega
      obtain ⟨r1, p0, s1⟩ := H1.out k hlt
      obtain ⟨r2, q0, s2⟩ := H2.out k hlt
      have p1 := Grd.cell_keep hb p0
      have q1 := Grd.cell_keep hb q0
      have HS1 : Hid (SliceAt wr r1 (l.getD k [])) := s1.below hb
      have HS2 : Hid (SliceAt wr r2 (l.getD k [])) := s2.below hb
      have HLN : Hid ((l.getD k []).length ≤ 4398046511104) := HR.out k hlt
      have HB : Hid (Below w.heap.size w wr) := hb
      obtain ⟨a1, d1, rfl⟩ := s1.shape
      obtain ⟨a2, d2, rfl⟩ := s2.shape
      clear p0 q0 s1 s2 hb
      generalize l.getD k [] = row at *
      go_wp2_with fail
      refine (Grd.equal_slices_big _ _ row _ HS1.out HS2.out HLN.out).mono ?_
      rintro e W1 ⟨rfl, b1⟩
      have HB1 : Hid (Below w.heap.size w W1) := HB.out.trans (b1.mono HB.out.size)
      clear b1 p1 q1
      go_wp2_with fail
      go_roundg (L - (k + 1))
      case measure => omega
      case rel => exact ⟨k + 1, rfl, by omega, by omega, HB1.out⟩
    · have lt1 : ¬ ((k : Int) < (L : Int)) := by omega
      go_wp2_with fail
      go_ret
      exact ⟨rfl, hb⟩
theorem eqRows_any (v1 v2 : Value) (l : List (List C)) (w : World) (h1 : RowsV w v1 l) (h2 : RowsV w v2 l) (hn : l.length ≤ 4398046511104) (hr : ∀ row, row ∈ l → row.length ≤ 4398046511104) :
    Calls Tryd.prog 98 #[v1, v2, .func (.func 78) #[] #[]] w fun e w' => e = .returned (.bool true) ∧ Below w.heap.size w w' := by
  by_cases h0 : l = []
  · obtain ⟨a1, c1, rfl⟩ := h1.slice
    obtain ⟨a2, c2, rfl⟩ := h2.slice
    subst h0
    exact eqRows_empty a1 a2 c1 c2 w
  · rcases h1 with ⟨h, -⟩ | ⟨b1, o1, c1, rfl, -, -, hc1⟩
    · exact absurd h h0
    · rcases h2 with ⟨h, -⟩ | ⟨b2, o2, c2, rfl, -, -, hc2⟩
      · exact absurd h h0
      · exact eqRows_cells b1 o1 c1 b2 o2 c2 l w hc1 hc2 hn hr
theorem sameRows_any (v1 v2 : Value) (l : List (List C)) (w : World) (h1 : RowsV w v1 l) (h2 : RowsV w v2 l) (hn : l.length ≤ 4398046511104) (hr : ∀ row, row ∈ l → row.length ≤ 4398046511104) :
    Calls Tryd.prog 55 #[v1, v2] w fun e w' => e = .returned (.bool true) ∧ Below w.heap.size w w' := by
  have HC := eqRows_any v1 v2 l w h1 h2 hn hr
  obtain ⟨a1, d1, rfl⟩ := h1.slice
  obtain ⟨a2, d2, rfl⟩ := h2.slice
  clear h1 h2
  go_enter Tryd.func55, Tryd.ntmps55
  go_wp2_with fail
  refine HC.mono ?_
  rintro e W1 ⟨rfl, b1⟩
  clear HC
  go_wp2_with fail
  go_ret
  exact ⟨rfl, b1⟩
theorem eql_style (f b x : Int) (w : World) : (binOp .eql 26 (.agg #[.int .i64 f, .int .i64 b, .int .i64 x]) (.agg #[.int .i64 f, .int .i64 b, .int .i64 x])).run Tryd.prog w = .ok (.bool true) w := by
  go_simp
theorem eql_kept (a b c d e f : Int) (w : World) : (binOp .eql 29 (.agg #[.int .i64 a, .int .i64 b, .int .i64 c, .int .i64 d, .int .i64 e, .int .i64 f]) (.agg #[.int .i64 a, .int .i64 b, .int .i64 c, .int .i64 d, .int .i64 e, .int .i64 f])).run Tryd.prog w = .ok (.bool true) w := by
  go_simp
/-- What SameScreen asks of the sizes. -/
structure Small (s : Scr) : Prop where
  c : s.cs.length ≤ 4398046511104
  t : s.tabs.length ≤ 4398046511104
  g : s.gone.length ≤ 4398046511104
  r : ∀ row, row ∈ s.gone → row.length ≤ 4398046511104
set_option maxHeartbeats 8000000 in
set_option maxRecDepth 100000 in
theorem sameScreen_any (s : Scr) (cv tv gv cv' tv' gv' : Value) (w : World) (h1 : ScrV w s cv tv gv) (h2 : ScrV w s cv' tv' gv') (hS : Small s) :
    Calls Tryd.prog 16 #[.agg (scrA s cv tv gv), .agg (scrA s cv' tv' gv')] w fun e w' => e = .returned (.bool true) ∧ Below w.heap.size w w' := by
  obtain ⟨ca, cc, rfl⟩ := h1.c.shape
  obtain ⟨ta, tc, rfl⟩ := h1.t.slice
  obtain ⟨ga, gc, rfl⟩ := h1.g.slice
  obtain ⟨ca', cc', rfl⟩ := h2.c.shape
  obtain ⟨ta', tc', rfl⟩ := h2.t.slice
  obtain ⟨ga', gc', rfl⟩ := h2.g.slice
  have x0 := heap_alloc_new w (.cells (scrA s (.slice ca s.cs.length cc) (.slice ta s.tabs.length tc) (.slice ga s.gone.length gc)) 32)
  have y0 := (Below.heap_alloc (w.alloc (.cells (scrA s (.slice ca s.cs.length cc) (.slice ta s.tabs.length tc) (.slice ga s.gone.length gc)) 32)) (.cells (scrA s (.slice ca' s.cs.length cc') (.slice ta' s.tabs.length tc') (.slice ga' s.gone.length gc')) 32) _ (heap_lt x0)).trans x0
  have y1 := heap_alloc_new (w.alloc (.cells (scrA s (.slice ca s.cs.length cc) (.slice ta s.tabs.length tc) (.slice ga s.gone.length gc)) 32)) (.cells (scrA s (.slice ca' s.cs.length cc') (.slice ta' s.tabs.length tc') (.slice ga' s.gone.length gc')) 32)
  have kb : Below w.heap.size w ((w.alloc (.cells (scrA s (.slice ca s.cs.length cc) (.slice ta s.tabs.length tc) (.slice ga s.gone.length gc)) 32)).alloc (.cells (scrA s (.slice ca' s.cs.length cc') (.slice ta' s.tabs.length tc') (.slice ga' s.gone.length gc')) 32)) := ((Below.refl _ _).alloc (Nat.le_refl _) _).alloc (by simp) _
  have es : (w.alloc (.cells (scrA s (.slice ca s.cs.length cc) (.slice ta s.tabs.length tc) (.slice ga s.gone.length gc)) 32)).heap.size = w.heap.size + 1 := by simp
  rw [es] at y1
  have HKB : Hid _ := kb
  have HV1 : Hid (ScrV w s _ _ _) := h1
  have HV2 : Hid (ScrV w s _ _ _) := h2
  have HS : Hid (Small s) := hS
  have HY0 : Hid _ := y0
  have HY1 : Hid _ := y1
  have aw : (s.w == s.w) = true := by simp
  obtain ⟨⟨c0, c1, c2, -⟩, -, -⟩ := scr_cells y0
  obtain ⟨⟨d0, d1, d2, -⟩, -, -⟩ := scr_cells y1
  have HG := Grd.same_any_big s.w s.h _ _ s.cs _ (h1.c.below kb) (h2.c.below kb) hS.c
  clear x0 y0 y1 kb h1 h2 hS es
  go_enter Tryd.func16, Tryd.ntmps16
  go_wp2_with fail
  refine HG.mono ?_
  rintro e W1 ⟨rfl, b1⟩
  clear HG c0 c1 c2 d0 d1 d2
  have HB1 : Hid (Below w.heap.size w W1) := HKB.out.trans (b1.mono HKB.out.size)
  have HZ0 : Hid (W1.heap[w.heap.size]? = _) := Grd.carry HY0.out b1
  have HZ1 : Hid (W1.heap[w.heap.size + 1]? = _) := Grd.carry HY1.out b1
  clear b1 HY0 HY1 HKB
  obtain ⟨⟨c0, c1, c2, c3, c4, c5, c6, c7, c8, c9, c10⟩, ⟨c11, c12, c13, c14, c15, c16, c17, c18, c19, c20, c21⟩, -⟩ := scr_cells HZ0.out
  obtain ⟨⟨d0, d1, d2, d3, d4, d5, d6, d7, d8, d9, d10⟩, ⟨d11, d12, d13, d14, d15, d16, d17, d18, d19, d20, d21⟩, -⟩ := scr_cells HZ1.out
  have HT := equalB_any _ _ s.tabs _ (HV1.out.t.next HB1.out) (HV2.out.t.next HB1.out) HS.out.t
  have q1 := eql_style s.sf s.sb s.sx
  have q2 := eql_kept s.kx s.ky s.kf s.kb s.kbits s.km
  go_wp2_with fail
  refine HT.mono ?_
  rintro e W2 ⟨rfl, b2⟩
  clear HT c0 c1 c2 c3 c4 c5 c6 c7 c8 c9 c10 c11 c12 c13 c14 c15 c16 c17 c18 c19 c20 c21 d0 d1 d2 d3 d4 d5 d6 d7 d8 d9 d10 d11 d12 d13 d14 d15 d16 d17 d18 d19 d20 d21
  have HB2 : Hid (Below w.heap.size w W2) := HB1.out.trans (b2.mono HB1.out.size)
  have HA0 : Hid (W2.heap[w.heap.size]? = _) := Grd.carry HZ0.out b2
  have HA1 : Hid (W2.heap[w.heap.size + 1]? = _) := Grd.carry HZ1.out b2
  clear b2 HZ0 HZ1 HB1
  obtain ⟨-, ⟨c11, c12, c13, c14, c15, c16, c17, c18, c19, c20, c21⟩, -⟩ := scr_cells HA0.out
  obtain ⟨-, ⟨d11, d12, d13, d14, d15, d16, d17, d18, d19, d20, d21⟩, -⟩ := scr_cells HA1.out
  have HR := sameRows_any _ _ s.gone _ (HV1.out.g.next HB2.out) (HV2.out.g.next HB2.out) HS.out.g HS.out.r
  go_wp2_with fail
  refine HR.mono ?_
  rintro e W3 ⟨rfl, b3⟩
  clear HR
  have HB3 : Hid (Below w.heap.size w W3) := HB2.out.trans (b3.mono HB2.out.size)
  clear b3 HA0 HA1 c11 c12 c13 c14 c15 c16 c17 c18 c19 c20 c21 d11 d12 d13 d14 d15 d16 d17 d18 d19 d20 d21
  go_wp2_with fail
  go_ret
  exact ⟨rfl, HB3.out⟩
end Put
end Go.Proofs.YtnkeahfcpbepjaaDoor

/- trellislaw.ownScreen, noScreen. -/
namespace Go.Proofs.YtnkeahfcpbepjaaDoor
open Go.ChangeShapes Go.WideShapes Go.ChangeAt Go.RowKit
namespace Put
open Grd (C SliceAt CellsAt gridErr z0 nilV)
/-- A screen that a machine holds. -/
structure Bulk (s : Scr) : Prop where
  f : Fits s
  c : s.cs.length ≤ 1048576
  r : ∀ row, row ∈ s.gone → row.length ≤ 1048576
theorem Bulk.small {s : Scr} (h : Bulk s) : Small s := ⟨by have := h.c; omega, by have := h.f.bl; omega, by have := h.f.gl; omega, fun row hr => by have := h.r row hr; omega⟩
theorem Bulk.row {s : Scr} (h : Bulk s) (k : Nat) (hk : k < s.gone.length) : (s.gone.getD k []).length ≤ 1048576 := by
  have e : s.gone.getD k [] = s.gone[k] := by simp [List.getD, hk]
  rw [e]
  exact h.r _ (List.getElem_mem hk)
theorem cloneCells_any (v : Value) (N : Nat) (row : List C) (w : World) (h : SliceAt w v row) (hbig : row.length ≤ 1048576) :
    Calls Tryd.prog 107 #[v] w fun e w' => ∃ a c, e = .returned (.slice a row.length c) ∧ RowIn w' N (.slice a row.length c) row ∧ Below w.heap.size w w' := by
  rcases h with ⟨rfl, a, c, rfl⟩ | ⟨hr, b, o, c, rfl, h1, h2, h3⟩
  · refine (Grd.clone_empty a c w).mono ?_
    rintro e W ⟨a', c', rfl, hb⟩
    exact ⟨a', c', rfl, .inl ⟨rfl, a', c', rfl⟩, hb⟩
  · refine (Grd.clone_row b o c row w h3 (by omega)).mono ?_
    rintro e W ⟨v', g, rfl, hg, hR, hb⟩
    obtain ⟨a', c', hv⟩ := (rowIn_rowB (N := N) hR).shape
    subst hv
    exact ⟨a', c', rfl, rowIn_rowB hR, hb⟩
theorem Kept.grown {W W' : World} {N base : Nat} {v : Value} {n : Nat} {xs : List Value} (ho : W.ownsRow base 22 1 v n xs) (hb : N ≤ base) (hg : W.grownBy W' v.ownBlock) : Kept N W W' := fun k hk hS => hg.block k hk fun e => by
  obtain ⟨h1, A, f, hA⟩ := owns_block ho k e.symm
  rcases hS with hS | ⟨B, f', hS⟩
  · omega
  · rw [hA] at hS
    injection hS with hS
    injection hS with _ hS _
    exact absurd hS (by decide)
theorem own_grown {W W' : World} {N base : Nat} {e : TypeId} {u v : Value} {n m : Nat} {xs ys : List Value} (h : W.ownsRow N e 1 u m ys) (ho : W.ownsRow base 22 1 v n xs) (he : 22 ≠ e) (hg : W.grownBy W' v.ownBlock) : W'.ownsRow N e 1 u m ys :=
  owns_kept h fun k hk => by
    obtain ⟨-, B, f', hB⟩ := owns_block h k hk
    refine hg.block k (heap_lt hB) fun e' => ?_
    obtain ⟨h1, A, f, hA⟩ := owns_block ho k e'.symm
    rw [hA] at hB
    injection hB with hB
    injection hB with _ hB _
    exact he hB
theorem RowsIn.snoc {W : World} {N : Nat} {vs : List Value} {rows : List (List C)} (h : RowsIn W N vs rows) {v : Value} {row : List C} (hr : RowIn W N v row) : RowsIn W N (vs ++ [v]) (rows ++ [row]) := by
  refine ⟨by simp [h.1], fun i hi => ?_⟩
  rw [List.length_append, List.length_singleton] at hi
  by_cases e : i < rows.length
  · rw [Grd.getD_snoc_lt _ _ _ _ e, Grd.getD_snoc_lt _ _ _ _ (by rw [h.1]; exact e)]
    exact h.2 i e
  · have e1 : i = rows.length := by omega
    have e2 : (vs ++ [v]).getD i nilV = v := by rw [e1, ← h.1]; exact Grd.getD_snoc_eq _ _ _
    rw [e2, e1, Grd.getD_snoc_eq]
    exact hr
theorem take_next {α : Type} (l : List α) (k : Nat) (d : α) (h : k < l.length) : l.take (k + 1) = l.take k ++ [l.getD k d] := by
  rw [List.take_succ_eq_append_getElem h]
  simp [List.getD, h]
set_option maxHeartbeats 4000000 in
set_option maxRecDepth 100000 in
theorem ownScreen_any (s : Scr) (cv tv gv : Value) (w : World) (hV : ScrV w s cv tv gv) (hB : Bulk s) :
    Calls Tryd.prog 60 #[.agg (scrA s cv tv gv)] w fun e W' => ∃ cv' tv' gv', e = .returned (.agg (scrA s cv' tv' gv')) ∧ ScrV W' s cv' tv' gv' ∧ Below w.heap.size w W' := by
  obtain ⟨ca, cc, rfl⟩ := hV.c.shape
  obtain ⟨ta, tc, rfl⟩ := hV.t.slice
  obtain ⟨ga, gc, rfl⟩ := hV.g.slice
  obtain ⟨i0, hi, hzz⟩ := Option.map_eq_some_iff.1 info_rows
  simp only [Prod.mk.injEq] at hzz
  obtain ⟨hz0, hz1, hz2⟩ := hzz
  have hkb : Below w.heap.size w ((w.alloc (.cells (scrA s (.slice ca s.cs.length cc) (.slice ta s.tabs.length tc) (.slice ga s.gone.length gc)) 32)).alloc (.cells #[.int .i64 0, .int .i64 0, .slice none 0 0, .int .i64 0, .int .i64 0, .bool false, .int .i64 0, .int .i64 0, .int .i64 0, .int .i64 0, .int .i64 0, .int .i64 0, .slice none 0 0, .int .i64 0, .int .i64 0, .int .i64 0, .int .i64 0, .int .i64 0, .int .i64 0, .int .i32 0, .string ⟨#[]⟩, .slice none 0 0] 32)) := ((Below.refl _ _).alloc (Nat.le_refl _) _).alloc (by simp) _
  have hx0 : ((w.alloc (.cells (scrA s (.slice ca s.cs.length cc) (.slice ta s.tabs.length tc) (.slice ga s.gone.length gc)) 32)).alloc (.cells #[.int .i64 0, .int .i64 0, .slice none 0 0, .int .i64 0, .int .i64 0, .bool false, .int .i64 0, .int .i64 0, .int .i64 0, .int .i64 0, .int .i64 0, .int .i64 0, .slice none 0 0, .int .i64 0, .int .i64 0, .int .i64 0, .int .i64 0, .int .i64 0, .int .i64 0, .int .i32 0, .string ⟨#[]⟩, .slice none 0 0] 32)).heap[w.heap.size]? = some (.cells (scrA s (.slice ca s.cs.length cc) (.slice ta s.tabs.length tc) (.slice ga s.gone.length gc)) 32 (0, 0)) := (Below.heap_alloc _ _ _ (by simp)).trans (heap_alloc_new _ _)
  have hx1 : ((w.alloc (.cells (scrA s (.slice ca s.cs.length cc) (.slice ta s.tabs.length tc) (.slice ga s.gone.length gc)) 32)).alloc (.cells #[.int .i64 0, .int .i64 0, .slice none 0 0, .int .i64 0, .int .i64 0, .bool false, .int .i64 0, .int .i64 0, .int .i64 0, .int .i64 0, .int .i64 0, .int .i64 0, .slice none 0 0, .int .i64 0, .int .i64 0, .int .i64 0, .int .i64 0, .int .i64 0, .int .i64 0, .int .i32 0, .string ⟨#[]⟩, .slice none 0 0] 32)).heap[w.heap.size + 1]? = some (.cells (scrA zScr (.slice none 0 0) (.slice none 0 0) (.slice none 0 0)) 32 (0, 0)) := heap_alloc2_new w _ _
  have HX0 : Hid _ := hx0
  have HX1 : Hid _ := hx1
  have HKB : Hid _ := hkb
  have HV : Hid (ScrV w s _ _ _) := hV
  have HBK : Hid (Bulk s) := hB
  have hlt1 := heap_lt hx1
  clear hx0 hx1 hkb hV hB
  go_enter Tryd.func60, Tryd.ntmps60
  go_upto_region 1 with fail
  generalize ((w.alloc (.cells (scrA s (.slice ca s.cs.length cc) (.slice ta s.tabs.length tc) (.slice ga s.gone.length gc)) 32)).alloc (.cells #[.int .i64 0, .int .i64 0, .slice none 0 0, .int .i64 0, .int .i64 0, .bool false, .int .i64 0, .int .i64 0, .int .i64 0, .int .i64 0, .int .i64 0, .int .i64 0, .slice none 0 0, .int .i64 0, .int .i64 0, .int .i64 0, .int .i64 0, .int .i64 0, .int .i64 0, .int .i32 0, .string ⟨#[]⟩, .slice none 0 0] 32)) = X at *
  obtain ⟨⟨-, -, c2, -⟩, -, -⟩ := scr_cells HX0.out
  go_wp2_with fail
  refine (cloneCells_any _ w.heap.size s.cs X (HV.out.c.below HKB.out) HBK.out.c).mono ?_
  rintro e V1 ⟨a1, c1, rfl, hR1, b1⟩
  have hp1 := Grd.carry HX0.out b1
  have f2 := (scr_cells hp1).2.2 2
  have c2' := (scr_cells hp1).1.2.2.1
  have HP1 : Hid ((V1.setCell ⟨w.heap.size, 2, none⟩ (.slice a1 s.cs.length c1)).heap[w.heap.size]? = some (.cells (scrA s (.slice a1 s.cs.length c1) (.slice ta s.tabs.length tc) (.slice ga s.gone.length gc)) 32 (0, 0))) := store_at hp1 rfl
  have HQ1 : Hid ((V1.setCell ⟨w.heap.size, 2, none⟩ (.slice a1 s.cs.length c1)).heap[w.heap.size + 1]? = _) := (store_off (by omega)).trans (Grd.carry HX1.out b1)
  have HR1 : Hid (RowIn (V1.setCell ⟨w.heap.size, 2, none⟩ (.slice a1 s.cs.length c1)) w.heap.size (.slice a1 s.cs.length c1) s.cs) := hR1.keep (Kept.store hp1 (by decide) (Nat.le_refl _))
  have HB1 : Hid (Below w.heap.size w (V1.setCell ⟨w.heap.size, 2, none⟩ (.slice a1 s.cs.length c1))) := (HKB.out.trans (b1.mono HKB.out.size)).setCell (Nat.le_refl _) _
  have c12 := (scr_cells hp1).2.1.2.1
  clear hR1 b1 hp1 c2
  go_wp2_with fail
  refine (cloneBools_any _ s.tabs _ (HV.out.t.next HB1.out) HBK.out.f.bl).mono ?_
  rintro e V2 ⟨tv', rfl, ho2, b2⟩
  obtain ⟨a2, c2n, rfl⟩ := own_slice ho2
  have hp2 := Grd.carry HP1.out b2
  have f12 := (scr_cells hp2).2.2 12
  have c12' := (scr_cells hp2).2.1.2.1
  have HP2 : Hid ((V2.setCell ⟨w.heap.size, 12, none⟩ (.slice a2 s.tabs.length c2n)).heap[w.heap.size]? = some (.cells (scrA s (.slice a1 s.cs.length c1) (.slice a2 s.tabs.length c2n) (.slice ga s.gone.length gc)) 32 (0, 0))) := store_at hp2 rfl
  have HQ2 : Hid ((V2.setCell ⟨w.heap.size, 12, none⟩ (.slice a2 s.tabs.length c2n)).heap[w.heap.size + 1]? = _) := (store_off (by omega)).trans (Grd.carry HQ1.out b2)
  have HR2 : Hid (RowIn (V2.setCell ⟨w.heap.size, 12, none⟩ (.slice a2 s.tabs.length c2n)) w.heap.size (.slice a1 s.cs.length c1) s.cs) := (HR1.out.keep (Kept.of_below b2)).keep (Kept.store hp2 (by decide) (Nat.le_refl _))
  have HT2 : Hid ((V2.setCell ⟨w.heap.size, 12, none⟩ (.slice a2 s.tabs.length c2n)).ownsRow w.heap.size 4 1 (.slice a2 s.tabs.length c2n) s.tabs.length (s.tabs.map Value.bool)) := Grd.ownsRow_mono (own_off ho2 hp2 (by decide)) HB1.out.size
  have HB2 : Hid (Below w.heap.size w (V2.setCell ⟨w.heap.size, 12, none⟩ (.slice a2 s.tabs.length c2n))) := (HB1.out.trans (b2.mono HB1.out.size)).setCell (Nat.le_refl _) _
  have c21 := (scr_cells hp2).2.1.2.2.2.2.2.2.2.2.2.2
  clear ho2 b2 hp2 c12 c2' f2 HP1 HQ1 HR1 HB1
  go_wp2_with fail
  clear c21 c12' f12
  go_loopg [3, 19] s.gone.length (fun q v i wr => ∃ (k : Nat) (vs : List Value), i = .int .i64 (k : Int) ∧ k ≤ s.gone.length ∧ s.gone.length - k ≤ q ∧ wr.ownsRow (w.heap.size + 2) 22 1 v k vs ∧ RowsIn wr w.heap.size vs (s.gone.take k) ∧ Below w.heap.size w wr ∧ wr.heap[w.heap.size]? = some (.cells (scrA s (.slice a1 s.cs.length c1) (.slice a2 s.tabs.length c2n) (.slice ga s.gone.length gc)) 32 (0, 0)) ∧ wr.heap[w.heap.size + 1]? = some (.cells (scrA zScr (.slice none 0 0) (.slice none 0 0) (.slice none 0 0)) 32 (0, 0)) ∧ RowIn wr w.heap.size (.slice a1 s.cs.length c1) s.cs ∧ wr.ownsRow w.heap.size 4 1 (.slice a2 s.tabs.length c2n) s.tabs.length (s.tabs.map Value.bool))
  case atStart => exact ⟨0, [], rfl, by omega, by omega, World.ownsRow_nil _ _ _ _, ⟨by simp, fun i hi => absurd hi (by simp)⟩, HB2.out, HP2.out, HQ2.out, HR2.out, HT2.out⟩
  case round =>
    clear HB2 HP2 HQ2 HR2 HT2
    obtain ⟨k, vs, rfl, hk, hq, hown, hrows, hb, hp, hp1, hr, ht⟩ := hrel
    have HO : Hid (wr.ownsRow (w.heap.size + 2) 22 1 _ k vs) := hown
    have HRS : Hid (RowsIn wr w.heap.size vs (s.gone.take k)) := hrows
    have HB : Hid (Below w.heap.size w wr) := hb
    have HP : Hid _ := hp
    have HQ : Hid _ := hp1
    have HR : Hid (RowIn wr w.heap.size _ s.cs) := hr
    have HT : Hid (wr.ownsRow w.heap.size 4 1 _ s.tabs.length (s.tabs.map Value.bool)) := ht
    have hN := heap_lt hp1
    clear hown hrows hb hr ht
    by_cases hlt : k < s.gone.length
    · have lt1 : ((k : Int) < (s.gone.length : Int)) := by omega
      rcases HV.out.g with ⟨he, -⟩ | ⟨b, o, c, hvv, -, -, hc⟩
      · rw [he] at hlt
        exact absurd hlt (by simp)
      injection hvv with hvv1 hvv2 hvv3
      subst hvv1 hvv3
      obtain ⟨rv, hc1, hS⟩ := hc k hlt
      have q0 := cell_stay HB.out hc1
      obtain ⟨ra, rc, hrv⟩ := hS.shape
      subst hrv
      have HCL := cloneCells_any _ w.heap.size (s.gone.getD k []) wr (hS.below HB.out) (HBK.out.row k hlt)
      have HTK : Hid (s.gone.take (k + 1) = s.gone.take k ++ [s.gone.getD k []]) := take_next _ _ _ hlt
      clear hc hc1 hS hp hp1
      generalize s.gone.getD k [] = row at *
      have hsl := own_slice HO.out
      go_upto_region 7 with fail
      go_wp2_with (first | (go_at_call 107; refine HCL.mono ?_; rintro e W2 ⟨na, nc, rfl, hr2, b2⟩) | (at_builtin; refine Hid.out ?_))
      unfold Hid
      have HR2 : Hid (RowIn W2 w.heap.size (.slice na row.length nc) row) := hr2
      have hown2 : W2.ownsRow (w.heap.size + 2) 22 1 _ k vs := Grd.ownsRow_below HO.out b2
      have hgl := HBK.out.f.gl
      have hs2 := b2.size
      refine wpList_append_own _ rfl _ _ 30 rfl (w.heap.size + 2) 22 i0 (.slice none 0 0) 1 24 und_rows hi hz0 hz1 hz2 rfl (by decide) _ _ _ rfl (hown2.alloc _) ⟨W2.heap.size, 0, none⟩ 1 1 [.slice na row.length nc] rfl rfl (cell_one_new _ _ _) (by intro u hu; simp at hu; rw [hu]; rfl) (by unfold maxLen; omega) (by omega) (by simp; omega) ?_
      intro v3 W3 hown3 hgrow hnil
      go_wp2_with fail
      have kZ : Below W2.heap.size W2 (W2.alloc (.cells #[.slice na row.length nc] 22)) := (Below.refl _ _).alloc (Nat.le_refl _) _
      have hfrom := Grd.own_from HO.out
      have kb2 := HB.out.trans (b2.mono HB.out.size)
      have hN2 := b2.size
      have kk := Kept.grown (hown2.alloc (.cells #[.slice na row.length nc] 22)) (show w.heap.size ≤ w.heap.size + 2 by omega) hgrow
      have ka := Kept.of_below (N := w.heap.size) b2
      have kz := Kept.of_below (N := w.heap.size) kZ
      go_roundg (s.gone.length - (k + 1))
      case measure => omega
      case rel =>
        refine ⟨k + 1, vs ++ [.slice na row.length nc], rfl, by omega, by omega, hown3, ?_, ?_, ?_, ?_, ?_, ?_⟩
        · rw [HTK.out]
          exact (((HRS.out.keep ka).keep kz).keep kk).snoc ((HR2.out.keep kz).keep kk)
        · exact (kb2.alloc kb2.size _).grown hgrow (by simp; omega) (fun q hq => by have := hfrom q hq; omega)
        · rw [hgrow.block _ (by simp; omega) (fun e => by have := hfrom _ e.symm; omega)]
          exact Grd.carry (Grd.carry HP.out b2) kZ
        · rw [hgrow.block _ (by simp; omega) (fun e => by have := hfrom _ e.symm; omega)]
          exact Grd.carry (Grd.carry HQ.out b2) kZ
        · exact ((HR.out.keep ka).keep kz).keep kk
        · exact own_grown (own_next (own_next HT.out b2) kZ) (hown2.alloc _) (by decide) hgrow
    · have lt1 : ¬ ((k : Int) < (s.gone.length : Int)) := by omega
      have hkh : k = s.gone.length := by omega
      subst hkh
      rw [List.take_length] at HRS
      obtain ⟨na, nc, rfl⟩ := own_slice HO.out
      have f21 := (scr_cells hp).2.2 21
      have c21 := (scr_cells hp).2.1.2.2.2.2.2.2.2.2.2.2
      have HY0 : Hid ((wr.setCell ⟨w.heap.size, 21, none⟩ (.slice na s.gone.length nc)).heap[w.heap.size]? = some (.cells (scrA s (.slice a1 s.cs.length c1) (.slice a2 s.tabs.length c2n) (.slice na s.gone.length nc)) 32 (0, 0))) := store_at hp rfl
      have HY1 : Hid ((wr.setCell ⟨w.heap.size, 21, none⟩ (.slice na s.gone.length nc)).heap[w.heap.size + 1]? = _) := (store_off (by omega)).trans hp1
      have kk : Kept w.heap.size wr (wr.setCell ⟨w.heap.size, 21, none⟩ (.slice na s.gone.length nc)) := Kept.store hp (by decide) (Nat.le_refl _)
      have HRI : Hid (RowIn (wr.setCell ⟨w.heap.size, 21, none⟩ (.slice na s.gone.length nc)) w.heap.size (.slice a1 s.cs.length c1) s.cs) := HR.out.keep kk
      have HRG : Hid (RowsIn (wr.setCell ⟨w.heap.size, 21, none⟩ (.slice na s.gone.length nc)) w.heap.size vs s.gone) := HRS.out.keep kk
      have HTT : Hid ((wr.setCell ⟨w.heap.size, 21, none⟩ (.slice na s.gone.length nc)).ownsRow w.heap.size 4 1 (.slice a2 s.tabs.length c2n) s.tabs.length (s.tabs.map Value.bool)) := own_off HT.out hp (by decide)
      have HOO : Hid ((wr.setCell ⟨w.heap.size, 21, none⟩ (.slice na s.gone.length nc)).ownsRow (w.heap.size + 2) 22 1 (.slice na s.gone.length nc) s.gone.length vs) := own_off HO.out hp (by decide)
      have HBB : Hid (Below w.heap.size w (wr.setCell ⟨w.heap.size, 21, none⟩ (.slice na s.gone.length nc))) := HB.out.setCell (Nat.le_refl _) _
      clear hp hp1 kk
      go_wp2_with (first
        | (refine wpList_load_row rfl 32 (.tmp 1) rfl w.heap.size rfl _ _ _ _ HY0.out Tryd.underlying32 rfl (by kernel_rfl) ?_)
        | (refine wpList_store_row rfl 32 (.tmp 2) _ rfl (w.heap.size + 1) (scrA s (.slice a1 s.cs.length c1) (.slice a2 s.tabs.length c2n) (.slice na s.gone.length nc)) rfl rfl _ _ HY1.out (by kernel_rfl) rfl (scr_one _ _ _ _ _ _ _ _ _ _) ?_))
      (try simp only [Exit.inBlock, Exit.then])
      have ko : ∀ k, k ≠ w.heap.size + 1 → ((wr.setCell ⟨w.heap.size, 21, none⟩ (.slice na s.gone.length nc)).setRow (w.heap.size + 1) (scrA s (.slice a1 s.cs.length c1) (.slice a2 s.tabs.length c2n) (.slice na s.gone.length nc))).heap[k]? = (wr.setCell ⟨w.heap.size, 21, none⟩ (.slice na s.gone.length nc)).heap[k]? := fun k hk => setRow_other _ _ _ _ hk
      have kt : ∀ (k : Nat) (A : Array Value) (t : TypeId) (f : Nat × Nat), (wr.setCell ⟨w.heap.size, 21, none⟩ (.slice na s.gone.length nc)).heap[k]? = some (.cells A t f) → t ≠ 32 → k ≠ w.heap.size + 1 := fun k A t f hk ht e => by
        have h1 := HY1.out
        rw [← e, hk] at h1
        injection h1 with h1
        injection h1 with _ h1 _
        exact ht h1
      have kk : Kept w.heap.size (wr.setCell ⟨w.heap.size, 21, none⟩ (.slice na s.gone.length nc)) ((wr.setCell ⟨w.heap.size, 21, none⟩ (.slice na s.gone.length nc)).setRow (w.heap.size + 1) (scrA s (.slice a1 s.cs.length c1) (.slice a2 s.tabs.length c2n) (.slice na s.gone.length nc))) := fun k hk hS => ko k (by
        rcases hS with hS | ⟨A, f, hS⟩
        · omega
        · exact kt k A _ f hS (by decide))
      refine bodyPost_ret (v := .agg (scrA s (.slice a1 s.cs.length c1) (.slice a2 s.tabs.length c2n) (.slice na s.gone.length nc))) ?_ rfl ⟨_, _, _, rfl, ⟨(HRI.out.keep kk).cells, own_boolsV (owns_kept HTT.out fun g hg => ?_), own_rowsV (owns_kept HOO.out fun g hg => ?_) (HRG.out.keep kk).list⟩, below_setRow HBB.out (by omega) _⟩
      · exact results_cell_row rfl _ _ (w.heap.size + 1) _ _ _ _ rfl (setRow_heap _ _ _ _ _ _ HY1.out) Tryd.underlying32 rfl (by kernel_rfl)
      · obtain ⟨-, A, f, hA⟩ := owns_block HTT.out g hg
        exact ko g (kt g A _ f hA (by decide))
      · obtain ⟨-, A, f, hA⟩ := owns_block HOO.out g hg
        exact ko g (kt g A _ f hA (by decide))
end Put
end Go.Proofs.YtnkeahfcpbepjaaDoor
