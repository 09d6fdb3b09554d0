/- A screen out of what the row reads, and how many values it holds. -/
import Derived.Test.YtnkeahfcpbepjaaDoorPartE
import Derived.Test.YtnkeahfcpbepjaaDoorPartF
import Derived.Test.YtnkeahfcpbepjaaDoorPartI
import Derived.Test.YtnkeahfcpbepjaaDoorRows
import Derived.Deep.Slices
import Derived.Test.YtnkeahfcpbepjaaDoorPartG
import Derived.Deep.RegionWith
import Derived.Deep.RegionHeld3
import Derived.BigRegion
import Derived.BigQuiet
import Derived.Test.YtnkeahfcpbepjaaDoorPartH
import Derived.Shelf.SlicesE.Delete
import Derived.Lib.OwnBridge
import Derived.Lib.JoinLaws
import Derived.Lib.AppendZeros
import Derived.Lib.Overlaps
import Derived.Laws.Externs
import Derived.Laws.IdiomCopy
import Derived.Shelf.RegionOpenPlain
namespace Go.Proofs.YtnkeahfcpbepjaaDoor
open Go.ChangeShapes Go.WideShapes Go.ChangeAt Go.RowKit
namespace Put
open Grd (C SliceAt CellsAt CIn i64_in i32_in)
section
variable {H : Type} {enc : TypeId × Value → H} {W : World}
theorem bulk_pos (d : DataW H) : 1 ≤ Rows.uptoBulk d := by
  cases d with
  | lit l => cases l <;> simp [Rows.uptoBulk]
  | _ => simp [Rows.uptoBulk]
theorem bulk_mem {d : DataW H} : ∀ {l : List (DataW H)}, d ∈ l → Rows.uptoBulk d ≤ Rows.uptoBulkAll l
  | x :: l, h => by
    rcases List.mem_cons.1 h with rfl | h
    · simp only [Rows.uptoBulkAll]; omega
    · have := bulk_mem h
      simp only [Rows.uptoBulkAll]; omega
theorem bulk_len : ∀ (l : List (DataW H)), l.length ≤ Rows.uptoBulkAll l
  | [] => by simp
  | x :: l => by
    have := bulk_len l
    have := bulk_pos x
    simp only [Rows.uptoBulkAll, List.length_cons]; omega
theorem trod_struct4 {P : Program} {base : Nat} {spare : Nat → Bool} {held : Bool} {t : TypeId} {f0 f1 f2 f3 : Field} {fuel : Nat} {cs : List Value} {x : DataW H × List MemPlace} (ht : P.underlying t = some (.struct #[f0, f1, f2, f3])) (h : DataW.trod enc P W base spare held fuel t cs = some x) :
    ∃ y0 y1 y2 y3 n, x.1 = .agg [y0.1, y1.1, y2.1, y3.1] ∧ cs.length = P.cellsOf t ∧ DataW.trod enc P W base spare held n f0.type ((cs.drop f0.offset).take (P.cellsOf f0.type)) = some y0 ∧
      DataW.trod enc P W base spare held n f1.type ((cs.drop f1.offset).take (P.cellsOf f1.type)) = some y1 ∧
      DataW.trod enc P W base spare held n f2.type ((cs.drop f2.offset).take (P.cellsOf f2.type)) = some y2 ∧
      DataW.trod enc P W base spare held n f3.type ((cs.drop f3.offset).take (P.cellsOf f3.type)) = some y3 := by
  obtain ⟨xs, n, _, rfl, hl, hlen, hf⟩ := DataW.trod_struct ht h
  match xs, hlen with
  | [y0, y1, y2, y3], _ => exact ⟨y0, y1, y2, y3, n, by simp, hl, by simpa using hf 0 f0 rfl, by simpa using hf 1 f1 rfl, by simpa using hf 2 f2 rfl, by simpa using hf 3 f3 rfl⟩
theorem trod_struct13 {P : Program} {base : Nat} {spare : Nat → Bool} {held : Bool} {t : TypeId} {f0 f1 f2 f3 f4 f5 f6 f7 f8 f9 f10 f11 f12 : Field} {fuel : Nat} {cs : List Value} {x : DataW H × List MemPlace} (ht : P.underlying t = some (.struct #[f0, f1, f2, f3, f4, f5, f6, f7, f8, f9, f10, f11, f12])) (h : DataW.trod enc P W base spare held fuel t cs = some x) :
    ∃ y0 y1 y2 y3 y4 y5 y6 y7 y8 y9 y10 y11 y12 n, x.1 = .agg [y0.1, y1.1, y2.1, y3.1, y4.1, y5.1, y6.1, y7.1, y8.1, y9.1, y10.1, y11.1, y12.1] ∧ cs.length = P.cellsOf t ∧ DataW.trod enc P W base spare held n f0.type ((cs.drop f0.offset).take (P.cellsOf f0.type)) = some y0 ∧
      DataW.trod enc P W base spare held n f1.type ((cs.drop f1.offset).take (P.cellsOf f1.type)) = some y1 ∧
      DataW.trod enc P W base spare held n f2.type ((cs.drop f2.offset).take (P.cellsOf f2.type)) = some y2 ∧
      DataW.trod enc P W base spare held n f3.type ((cs.drop f3.offset).take (P.cellsOf f3.type)) = some y3 ∧
      DataW.trod enc P W base spare held n f4.type ((cs.drop f4.offset).take (P.cellsOf f4.type)) = some y4 ∧
      DataW.trod enc P W base spare held n f5.type ((cs.drop f5.offset).take (P.cellsOf f5.type)) = some y5 ∧
      DataW.trod enc P W base spare held n f6.type ((cs.drop f6.offset).take (P.cellsOf f6.type)) = some y6 ∧
      DataW.trod enc P W base spare held n f7.type ((cs.drop f7.offset).take (P.cellsOf f7.type)) = some y7 ∧
      DataW.trod enc P W base spare held n f8.type ((cs.drop f8.offset).take (P.cellsOf f8.type)) = some y8 ∧
      DataW.trod enc P W base spare held n f9.type ((cs.drop f9.offset).take (P.cellsOf f9.type)) = some y9 ∧
      DataW.trod enc P W base spare held n f10.type ((cs.drop f10.offset).take (P.cellsOf f10.type)) = some y10 ∧
      DataW.trod enc P W base spare held n f11.type ((cs.drop f11.offset).take (P.cellsOf f11.type)) = some y11 ∧
      DataW.trod enc P W base spare held n f12.type ((cs.drop f12.offset).take (P.cellsOf f12.type)) = some y12 := by
  obtain ⟨xs, n, _, rfl, hl, hlen, hf⟩ := DataW.trod_struct ht h
  match xs, hlen with
  | [y0, y1, y2, y3, y4, y5, y6, y7, y8, y9, y10, y11, y12], _ => exact ⟨y0, y1, y2, y3, y4, y5, y6, y7, y8, y9, y10, y11, y12, n, by simp, hl, by simpa using hf 0 f0 rfl, by simpa using hf 1 f1 rfl, by simpa using hf 2 f2 rfl, by simpa using hf 3 f3 rfl, by simpa using hf 4 f4 rfl, by simpa using hf 5 f5 rfl, by simpa using hf 6 f6 rfl, by simpa using hf 7 f7 rfl, by simpa using hf 8 f8 rfl, by simpa using hf 9 f9 rfl, by simpa using hf 10 f10 rfl, by simpa using hf 11 f11 rfl, by simpa using hf 12 f12 rfl⟩
theorem cells_bulk {cs : List C} {d : DataW H} (h : cs = [] ∨ ∃ elems sp, d = .slice elems sp ∧ cs.length = elems.length) : cs.length ≤ Rows.uptoBulk d := by
  rcases h with rfl | ⟨el, sp, rfl, hl⟩
  · simp
  · have := bulk_len el
    rw [hl]
    simp only [Rows.uptoBulk]
    omega
/-- A slice of bools. -/
theorem open_bools {fuel : Nat} {v : Value} {y : DataW H × List MemPlace} (h : DataW.trod enc Tryd.prog W 0 (fun _ => true) true fuel 27 [v] = some y) :
    ∃ l : List Bool, BoolsV W v l ∧ l.length ≤ Rows.uptoBulk y.1 := by
  rcases Deep.open_slice und_bools h with ⟨hcs, _⟩ | ⟨a, len, cap, m, n, D, Pl, hcs, _, hl, hm, hmm, rfl, hx⟩
  · simp at hcs
    subst hcs
    exact ⟨[], .inl ⟨rfl, _, _, rfl⟩, by simp⟩
  · simp at hcs
    subst hcs
    simp only [if_true] at hmm
    rw [show Tryd.prog.cellsOf 4 = 1 by kernel_rfl] at hx
    obtain ⟨f, hf⟩ := Deep.choose_lt (α := Bool) (p := fun i c => W.cell? ((a.add (i * 1)).add 0) = some (.bool c)) (n := len) (fun i hi => by
      obtain ⟨cs', h1, h2⟩ := hx i (by omega)
      obtain ⟨_, _, hc⟩ := World.cells?_some h1
      obtain ⟨c, rfl, _⟩ := DataW.trod_bool Tryd.underlying4 h2
      exact ⟨c, hc 0 (by omega)⟩)
    have hlen : ((List.range len).map f).length = len := by simp
    refine ⟨(List.range len).map f, ?_, ?_⟩
    · by_cases h0 : len = 0
      · subst h0
        exact .inl ⟨by simp, _, _, rfl⟩
      · obtain ⟨b, off, spot⟩ := a
        have hspot : spot = none := by
          have := hf 0 (by omega)
          simpa [Addr.add] using World.cell?_spot this
        subst hspot
        refine .inr ⟨b, off, cap, by rw [hlen], by rw [hlen]; omega, by unfold maxLen at hm; omega, fun j hj => ?_⟩
        rw [hlen] at hj
        have hg : ((List.range len).map f).getD j false = f j := by simp [List.getD, hj]
        rw [hg]
        have hc := hf j hj
        rw [add_plain, add_plain] at hc
        simpa using hc
    · rw [hlen]
      have h := bulk_len ((List.range len).map D)
      rw [List.length_map, List.length_range] at h
      simp only [Rows.uptoBulk]
      omega
/-- A slice of rows. -/
theorem open_rows {fuel : Nat} {v : Value} {y : DataW H × List MemPlace} (h : DataW.trod enc Tryd.prog W 0 (fun _ => true) true fuel 30 [v] = some y) :
    ∃ l : List (List C), RowsV W v l ∧ l.length ≤ Rows.uptoBulk y.1 ∧ ∀ row ∈ l, row.length ≤ Rows.uptoBulk y.1 := by
  rcases Deep.open_slice und_rows h with ⟨hcs, _⟩ | ⟨a, len, cap, m, n, D, Pl, hcs, _, hl, hm, hmm, rfl, hx⟩
  · simp at hcs
    subst hcs
    exact ⟨[], .inl ⟨rfl, _, _, rfl⟩, by simp, by simp⟩
  · simp at hcs
    subst hcs
    simp only [if_true] at hmm
    rw [show Tryd.prog.cellsOf 22 = 1 by kernel_rfl] at hx
    obtain ⟨f, hf⟩ := Deep.choose_lt (α := List C) (p := fun i row => ∃ rv, W.cell? ((a.add (i * 1)).add 0) = some rv ∧ SliceAt W rv row ∧ row.length ≤ Rows.uptoBulk (D i)) (n := len) (fun i hi => by
      obtain ⟨cs', h1, h2⟩ := hx i (by omega)
      obtain ⟨hlen1, _, hc⟩ := World.cells?_some h1
      match cs', hlen1 with
      | [rv], _ =>
        obtain ⟨row, hs, -, hb⟩ := Grd.open_cells h2
        exact ⟨row, rv, hc 0 (by omega), hs, cells_bulk hb⟩)
    have hlen : ((List.range len).map f).length = len := by simp
    refine ⟨(List.range len).map f, ?_, ?_, ?_⟩
    · by_cases h0 : len = 0
      · subst h0
        exact .inl ⟨by simp, _, _, rfl⟩
      · obtain ⟨b, off, spot⟩ := a
        have hspot : spot = none := by
          obtain ⟨rv, hc, -⟩ := hf 0 (by omega)
          simpa [Addr.add] using World.cell?_spot hc
        subst hspot
        refine .inr ⟨b, off, cap, by rw [hlen], by rw [hlen]; omega, by unfold maxLen at hm; omega, fun j hj => ?_⟩
        rw [hlen] at hj
        have hg : ((List.range len).map f).getD j [] = f j := by simp [List.getD, hj]
        rw [hg]
        obtain ⟨rv, hc, hs, -⟩ := hf j hj
        rw [add_plain, add_plain] at hc
        exact ⟨rv, by simpa using hc, hs⟩
    · rw [hlen]
      have h := bulk_len ((List.range len).map D)
      rw [List.length_map, List.length_range] at h
      simp only [Rows.uptoBulk]
      omega
    · intro row hrow
      simp only [List.mem_map, List.mem_range] at hrow
      obtain ⟨i, hi, rfl⟩ := hrow
      obtain ⟨rv, -, -, hb⟩ := hf i hi
      have h1 : Rows.uptoBulk (D i) ≤ Rows.uptoBulkAll ((List.range len).map D) := bulk_mem (List.mem_map.2 ⟨i, List.mem_range.2 hi, rfl⟩)
      simp only [Rows.uptoBulk]
      omega
set_option maxRecDepth 100000 in
theorem open_kept {fuel : Nat} {vs : List Value} {y : DataW H × List MemPlace} (h : DataW.trod enc Tryd.prog W 0 (fun _ => true) true fuel 29 vs = some y) :
    ∃ x y' f b c m : Int, vs = [.int .i64 x, .int .i64 y', .int .i64 f, .int .i64 b, .int .i64 c, .int .i64 m] ∧ (-9223372036854775808 ≤ m ∧ m ≤ 9223372036854775807) := by
  obtain ⟨y0, y1, y2, y3, n, -, hl, e0, e1, e2, e3⟩ := trod_struct4 Tryd.underlying29 h
  rw [show Tryd.prog.cellsOf 29 = 6 by kernel_rfl] at hl
  match vs, hl with
  | [v0, v1, v2, v3, v4, v5], _ =>
    simp only [show Tryd.prog.cellsOf 3 = 1 by kernel_rfl, show Tryd.prog.cellsOf 26 = 3 by kernel_rfl] at e0 e1 e2 e3
    obtain ⟨a0, k0, _, w0⟩ := DataW.trod_int Tryd.underlying3 e0
    obtain ⟨a1, k1, _, w1⟩ := DataW.trod_int Tryd.underlying3 e1
    obtain ⟨f, b, x, k2, -⟩ := Grd.open_style e2
    obtain ⟨a3, k3, _, w3⟩ := DataW.trod_int Tryd.underlying3 e3
    obtain rfl : v0 = _ := by simpa using k0
    obtain rfl : v1 = _ := by simpa using k1
    obtain ⟨rfl, rfl, rfl⟩ : v2 = _ ∧ v3 = _ ∧ v4 = _ := by simpa using k2
    obtain rfl : v5 = _ := by simpa using k3
    exact ⟨a0, a1, f, b, x, a3, rfl, i64_in w3⟩
set_option maxRecDepth 100000 in
theorem open_grid3 {fuel : Nat} {vs : List Value} {y : DataW H × List MemPlace} (h : DataW.trod enc Tryd.prog W 0 (fun _ => true) true fuel 24 vs = some y) :
    ∃ (a b : Int) (u : Value) (cs : List C), vs = [.int .i64 a, .int .i64 b, u] ∧ SliceAt W u cs ∧ cs.length ≤ Rows.uptoBulk y.1 := by
  obtain ⟨y0, y1, y2, n, hy, hl, e0, e1, e2⟩ := Deep.trod_struct3 Tryd.underlying24 h
  rw [show Tryd.prog.cellsOf 24 = 3 by kernel_rfl] at hl
  match vs, hl with
  | [v0, v1, v2], _ =>
    simp only [show Tryd.prog.cellsOf 3 = 1 by kernel_rfl, show Tryd.prog.cellsOf 22 = 1 by kernel_rfl] at e0 e1 e2
    obtain ⟨a0, k0, _, w0⟩ := DataW.trod_int Tryd.underlying3 e0
    obtain ⟨a1, k1, _, w1⟩ := DataW.trod_int Tryd.underlying3 e1
    obtain ⟨cs, hs, -, hb⟩ := Grd.open_cells (show DataW.trod enc Tryd.prog W 0 (fun _ => true) true n 22 [v2] = some y2 from e2)
    obtain rfl : v0 = _ := by simpa using k0
    obtain rfl : v1 = _ := by simpa using k1
    refine ⟨a0, a1, v2, cs, rfl, hs, ?_⟩
    have h1 := cells_bulk hb
    rw [hy]
    simp only [Rows.uptoBulk, Rows.uptoBulkAll]
    omega
set_option maxRecDepth 100000 in
set_option maxHeartbeats 1000000 in
theorem open_screen {r : Reach} {b0 : Nat} {v : Value} {d : DataW H} {p : List MemPlace} (hv : Value.okWide Tryd.prog W r b0 32 v) (h : DataW.Trod enc Tryd.prog W 0 (fun _ => true) true 32 v d p) :
    ∃ (s : Scr) (cv tv gv : Value), v = .agg (scrA s cv tv gv) ∧ ScrV W s cv tv gv ∧ ((-9223372036854775808 ≤ s.modes ∧ s.modes ≤ 9223372036854775807) ∧ (-9223372036854775808 ≤ s.km ∧ s.km ≤ 9223372036854775807) ∧ (-2147483648 ≤ s.last ∧ s.last ≤ 2147483647)) ∧ s.title.size ≤ Rows.uptoBulk d ∧ s.gone.length ≤ Rows.uptoBulk d ∧ s.tabs.length ≤ Rows.uptoBulk d ∧ s.cs.length ≤ Rows.uptoBulk d ∧ ∀ row ∈ s.gone, row.length ≤ Rows.uptoBulk d := by
  obtain ⟨cs, rfl, hsz⟩ := okWide_struct Tryd.underlying32 hv
  obtain ⟨fuel, hf⟩ := h
  obtain ⟨y0, y1, y2, y3, y4, y5, y6, y7, y8, y9, y10, y11, y12, n, hx, hl, h0, h1, h2, h3, h4, h5, h6, h7, h8, h9, h10, h11, h12⟩ := trod_struct13 Tryd.underlying32 hf
  rw [show Tryd.prog.cellsOf 32 = 22 by kernel_rfl] at hl
  obtain ⟨l⟩ := cs
  match l, hl with
  | [c0, c1, c2, c3, c4, c5, c6, c7, c8, c9, c10, c11, c12, c13, c14, c15, c16, c17, c18, c19, c20, c21], _ =>
    simp only [show Tryd.prog.cellsOf 3 = 1 by kernel_rfl, show Tryd.prog.cellsOf 21 = 1 by kernel_rfl, show Tryd.prog.cellsOf 9 = 1 by kernel_rfl, show Tryd.prog.cellsOf 4 = 1 by kernel_rfl, show Tryd.prog.cellsOf 27 = 1 by kernel_rfl, show Tryd.prog.cellsOf 30 = 1 by kernel_rfl, show Tryd.prog.cellsOf 24 = 3 by kernel_rfl, show Tryd.prog.cellsOf 26 = 3 by kernel_rfl, show Tryd.prog.cellsOf 29 = 6 by kernel_rfl, Value.cells] at h0 h1 h2 h3 h4 h5 h6 h7 h8 h9 h10 h11 h12
    obtain ⟨a0, a1, u, gcs, k0, hs0, hb0⟩ := open_grid3 h0
    obtain ⟨a3, k1, _, w1⟩ := DataW.trod_int Tryd.underlying3 h1
    obtain ⟨a4, k2, _, w2⟩ := DataW.trod_int Tryd.underlying3 h2
    obtain ⟨a5, k3, _⟩ := DataW.trod_bool Tryd.underlying4 h3
    obtain ⟨f, b, x, k4, -⟩ := Grd.open_style h4
    obtain ⟨a9, k5, _, w5⟩ := DataW.trod_int Tryd.underlying3 h5
    obtain ⟨a10, k6, _, w6⟩ := DataW.trod_int Tryd.underlying3 h6
    obtain ⟨a11, k7, _, w7⟩ := DataW.trod_int Tryd.underlying3 h7
    obtain ⟨tl, hs8, hb8⟩ := open_bools (show DataW.trod enc Tryd.prog W 0 (fun _ => true) true n 27 [c12] = some y8 from h8)
    obtain ⟨b13, b14, b15, b16, b17, b18, k9, w9⟩ := open_kept h9
    obtain ⟨a19, k10, _, w10⟩ := DataW.trod_int Tryd.underlying21 h10
    obtain ⟨a20, k11, g11, w11⟩ := DataW.trod_string Tryd.underlying9 h11
    obtain ⟨gl, hs12, hb12, hr12⟩ := open_rows (show DataW.trod enc Tryd.prog W 0 (fun _ => true) true n 30 [c21] = some y12 from h12)
    obtain ⟨rfl, rfl, rfl⟩ : c0 = _ ∧ c1 = _ ∧ c2 = _ := by simpa using k0
    obtain rfl : c3 = _ := by simpa using k1
    obtain rfl : c4 = _ := by simpa using k2
    obtain rfl : c5 = _ := by simpa using k3
    obtain ⟨rfl, rfl, rfl⟩ : c6 = _ ∧ c7 = _ ∧ c8 = _ := by simpa using k4
    obtain rfl : c9 = _ := by simpa using k5
    obtain rfl : c10 = _ := by simpa using k6
    obtain rfl : c11 = _ := by simpa using k7
    obtain ⟨rfl, rfl, rfl, rfl, rfl, rfl⟩ : c13 = _ ∧ c14 = _ ∧ c15 = _ ∧ c16 = _ ∧ c17 = _ ∧ c18 = _ := by simpa using k9
    obtain rfl : c19 = _ := by simpa using k10
    obtain rfl : c20 = _ := by simpa using k11
    have hb : Rows.uptoBulk d = Rows.uptoBulk y0.1 + (Rows.uptoBulk y1.1 + (Rows.uptoBulk y2.1 + (Rows.uptoBulk y3.1 + (Rows.uptoBulk y4.1 + (Rows.uptoBulk y5.1 + (Rows.uptoBulk y6.1 + (Rows.uptoBulk y7.1 + (Rows.uptoBulk y8.1 + (Rows.uptoBulk y9.1 + (Rows.uptoBulk y10.1 + (Rows.uptoBulk y11.1 + (Rows.uptoBulk y12.1 + 0)))))))))))) + 1 := by
      rw [show d = _ from hx]
      simp only [Rows.uptoBulk, Rows.uptoBulkAll]
    have b11 : Rows.uptoBulk y11.1 = a20.data.toList.length + 1 := by rw [g11]; simp only [Rows.uptoBulk]
    have s11 : a20.size = a20.data.toList.length := by rw [Array.length_toList]; rfl
    exact ⟨⟨a0, a1, gcs, a3, a4, a5, f, b, x, a9, a10, a11, tl, b13, b14, b15, b16, b17, b18, a19, a20, gl⟩, c2, c12, c21, rfl, ⟨hs0, hs8, hs12⟩, ⟨i64_in w7, w9, i32_in w10⟩, by show a20.size ≤ _; omega, by show gl.length ≤ _; omega, by show tl.length ≤ _; omega, by show gcs.length ≤ _; omega, fun row hrow => by have := hr12 row hrow; omega⟩
theorem fits_of {s : Scr} {k : Nat} (h : (-9223372036854775808 ≤ s.modes ∧ s.modes ≤ 9223372036854775807) ∧ (-9223372036854775808 ≤ s.km ∧ s.km ≤ 9223372036854775807) ∧ (-2147483648 ≤ s.last ∧ s.last ≤ 2147483647)) (h1 : s.title.size ≤ k) (h2 : s.gone.length ≤ k) (h3 : s.tabs.length ≤ k) (hk : k ≤ 1048576) : Fits s := ⟨h.1.1, h.1.2, h.2.1.1, h.2.1.2, by omega, by omega, by omega⟩
end
end Put
end Go.Proofs.YtnkeahfcpbepjaaDoor

/- What stays of a sheet whose words change; Has. -/
namespace Go.Proofs.YtnkeahfcpbepjaaDoor
open Go.ChangeShapes Go.WideShapes Go.ChangeAt Go.RowKit
namespace Put
open Grd (C SliceAt CellsAt gridErr z0 nilV flat rowsL)
theorem ShA.set {t : TypeId} (ht : IsSheet t) {W : World} {M N p : Nat} {s s' : Scr} {rows : List (List C)} {cv tv gv rv : Value} {gvs vs : List Value} (h : ShA t W M N p s rows cv tv gv rv gvs vs) (i : Nat) (v : Value) (e : (shA s cv tv gv rv).setIfInBounds i v = shA s' cv tv gv rv) (h1 : s'.tabs = s.tabs) (h2 : s'.gone = s.gone) : ShA t (W.setCell ⟨p, i, none⟩ v) M N p s' rows cv tv gv rv gvs vs :=
  h.put ht (store_at h.blk e) (fun _ hk => store_off hk) h1 h2
theorem ShAt.set {t : TypeId} (ht : IsSheet t) {W : World} {M N p : Nat} {s s' : Scr} {rows : List (List C)} (h : ShAt t W M N p s rows) (i : Nat) (v : Value) (e : ∀ cv tv gv rv, (shA s cv tv gv rv).setIfInBounds i v = shA s' cv tv gv rv) (h1 : s'.tabs = s.tabs) (h2 : s'.gone = s.gone) : ShAt t (W.setCell ⟨p, i, none⟩ v) M N p s' rows := by
  obtain ⟨cv, tv, gv, rv, gvs, vs, h⟩ := h
  exact ⟨cv, tv, gv, rv, gvs, vs, h.set ht i v (e _ _ _ _) h1 h2⟩
theorem ShAt.next {t : TypeId} {W W' : World} {M N p : Nat} {s : Scr} {rows : List (List C)} (h : ShAt t W M N p s rows) (hb : Below W.heap.size W W') : ShAt t W' M N p s rows := by
  obtain ⟨cv, tv, gv, rv, gvs, vs, h⟩ := h
  exact ⟨cv, tv, gv, rv, gvs, vs, h.next hb⟩
theorem ShAt.lo {t : TypeId} {W : World} {M N p : Nat} {s : Scr} {rows : List (List C)} (h : ShAt t W M N p s rows) : N ≤ p := by
  obtain ⟨cv, tv, gv, rv, gvs, vs, h⟩ := h
  exact h.lo
theorem ShAt.drew {t : TypeId} {W : World} {M N p : Nat} {s : Scr} {rows : List (List C)} (h : ShAt t W M N p s rows) : ShAt t W.drew M N p s rows := h.next ((Below.refl _ _).drew)
/-- The words of a sheet that are numbers. -/
theorem ShAt.words {t : TypeId} {W : World} {M N p : Nat} {s : Scr} {rows : List (List C)} (h : ShAt t W M N p s rows) :
    W.cell? ⟨p, 0, none⟩ = some (.int .i64 s.w) ∧ W.cell? ⟨p, 1, none⟩ = some (.int .i64 s.h) ∧ W.cell? ⟨p, 3, none⟩ = some (.int .i64 s.x) ∧ W.cell? ⟨p, 4, none⟩ = some (.int .i64 s.y) ∧ W.cell? ⟨p, 5, none⟩ = some (.bool s.late) ∧ W.cell? ⟨p, 9, none⟩ = some (.int .i64 s.top) ∧ W.cell? ⟨p, 10, none⟩ = some (.int .i64 s.bot) ∧ W.cell? ⟨p, 11, none⟩ = some (.int .i64 s.modes) ∧ W.cell? ⟨p, 19, none⟩ = some (.int .i32 s.last) ∧ ∀ i, W.frozen? ⟨p, i, none⟩ = false := by
  obtain ⟨cv, tv, gv, rv, gvs, vs, h⟩ := h
  obtain ⟨⟨c0, c1, -, c3, c4, c5, -, -, -, c9, c10⟩, ⟨c11, -, -, -, -, -, -, -, c19, -⟩, f⟩ := sh_cells h.blk
  exact ⟨c0, c1, c3, c4, c5, c9, c10, c11, c19, f⟩
theorem ShAt.fin {t : TypeId} (ht : IsSheet t) {W : World} {M N p : Nat} {s s' : Scr} {rows : List (List C)} (h : ShAt t W M N p s rows) (i : Nat) (v : Value) (e : ∀ cv tv gv rv, (shA s cv tv gv rv).setIfInBounds i v = shA s' cv tv gv rv) (h1 : s'.tabs = s.tabs) (h2 : s'.gone = s.gone) : ∀ v', v' = v → ShAt t (W.setCell ⟨p, i, none⟩ v').drew M N p s' rows ∧ Below N W (W.setCell ⟨p, i, none⟩ v').drew := fun v' hv => by
  subst hv
  exact ⟨(h.set ht i _ e h1 h2).drew, ((Below.refl _ _).setCell h.lo _).drew⟩
theorem wrap_id (a : Int) (h0 : -9223372036854775808 ≤ a) (h1 : a ≤ 9223372036854775807) : IntKind.i64.wrap a = a := by
  rw [IntKind.wrap_i64]
  omega
theorem int_wrap (a : Int) (h0 : -9223372036854775808 ≤ a) (h1 : a ≤ 9223372036854775807) : Value.int .i64 (IntKind.i64.wrap a) = Value.int .i64 a := by rw [wrap_id a h0 h1]
/-- Are these bits set? -/
def hasB (m b : Int) : Bool := bits .and .i64 m b == b
theorem has_any {M N p : Nat} {s : Scr} {rows : List (List C)} (b : Int) (W : World) (hS : ShAt 109 W M N p s rows) : Calls Tryd.prog 102 #[.pointer (some ⟨p, 0, none⟩), .int .i64 b] W fun e w' => e = .returned (.bool (hasB s.modes b)) ∧ W = w' := by
  obtain ⟨c0, c1, c3, c4, c5, c9, c10, c11, c19, f⟩ := hS.words
  clear c0 c1 c3 c4 c5 c9 c10 c19 f hS
  go_enter Tryd.func102, Tryd.ntmps102
  go_wp2_with fail
  go_ret
  exact ⟨rfl, rfl⟩
end Put
end Go.Proofs.YtnkeahfcpbepjaaDoor

/- (*sheet.Sheet).alter: a row is made anew. -/
namespace Go.Proofs.YtnkeahfcpbepjaaDoor
open Go.ChangeShapes Go.WideShapes Go.ChangeAt Go.RowKit
namespace Put
open Grd (C SliceAt CellsAt gridErr z0 nilV flat rowsL OwnG RowB)
/-- Blocks of other types than those that a sheet writes to are kept. -/
def Other (t : TypeId) : Prop := t ≠ 109 ∧ t ≠ 4 ∧ t ≠ 22
def OtherO (o : Obj) : Prop := ∀ (A : Array Value) (t : TypeId) (f : Nat × Nat), o = .cells A t f → Other t
def Framed (W W' : World) : Prop := ∀ (k : Nat) (o : Obj), W.heap[k]? = some o → OtherO o → W'.heap[k]? = some o
theorem Framed.refl (W : World) : Framed W W := fun _ _ h _ => h
theorem Framed.trans {a b c : World} (h : Framed a b) (k : Framed b c) : Framed a c := fun i o hi ho => k i o (h i o hi ho) ho
theorem Framed.of_below {W W' : World} (h : Below W.heap.size W W') : Framed W W' := fun k _ hk _ => (h.block k (heap_lt hk)).trans hk
theorem Framed.store {W : World} {p i : Nat} {v : Value} {A : Array Value} {t : TypeId} (hp : W.heap[p]? = some (.cells A t (0, 0))) (ht : ¬ Other t) : Framed W (W.setCell ⟨p, i, none⟩ v) := fun k o hk ho => by
  have hne : k ≠ p := by
    intro e
    rw [e, hp] at hk
    injection hk with hk
    exact ht (ho A t (0, 0) hk.symm)
  exact (store_off hne).trans hk
theorem other_cells {A : Array Value} {t : TypeId} {f : Nat × Nat} (h : Other t) : OtherO (.cells A t f) := fun B u g e => by
  injection e with _ e _
  rw [← e]
  exact h
theorem not_other_sheet : ¬ Other 109 := fun h => h.1 rfl
theorem not_other_rows : ¬ Other 22 := fun h => h.2.2 rfl
theorem not_other_bool : ¬ Other 4 := fun h => h.2.1 rfl
theorem Framed.cell {W W' : World} (h : Framed W W') {k i : Nat} {A : Array Value} {t : TypeId} (hk : W.heap[k]? = some (.cells A t (0, 0))) (ho : Other t) : W'.cell? ⟨k, i, none⟩ = W.cell? ⟨k, i, none⟩ := by
  have h1 := h k _ hk (other_cells ho)
  simp only [World.cell?, h1, hk]
/-- What a sheet is behind a call that changes it. -/
def Ran (W : World) (M N p : Nat) (s' : Scr) (rows' : List (List C)) (e : Ending) (W' : World) : Prop := e = .returned (.tuple #[]) ∧ ShAt 109 W' M N p s' rows' ∧ Below N W W' ∧ Framed W W'
theorem own_rowB {W : World} {base : Nat} {v : Value} {row : List C} (h : OwnG W base v row) : ∃ g, base ≤ g ∧ RowB W g v row := by
  obtain ⟨g, cap, rest, ⟨t, rfl⟩, hv, hg, h1, h2, h3⟩ := h
  exact ⟨g, hg, cap, rest, hv, h1, h2, h3⟩
theorem ShA.storeRow {V : World} {M N p : Nat} {s : Scr} {rows : List (List C)} {cv tv gv rv : Value} {gvs vs : List Value} (h : ShA 109 V M N p s rows cv tv gv rv gvs vs) {rb rc y : Nat} (hrv : rv = .slice (some ⟨rb, 0, none⟩) rows.length rc) {v : Value} {row' : List C} (hr : RowIn V M v row') : ShA 109 (V.setCell ⟨rb, y, none⟩ v) M N p s (rows.set y row') cv tv gv rv gvs (vs.set y v) := by
  obtain ⟨hlo, A, f, hA⟩ := owns_block h.rws rb (by rw [hrv]; rfl)
  have hA0 : ∃ A, V.heap[rb]? = some (.cells A 22 (0, 0)) := by
    have h1 := h.rws
    rw [hrv] at h1
    obtain ⟨-, ⟨h1, -⟩ | ⟨g', cap, cur, hv, -, hh, -⟩⟩ := h1
    · injection h1 with h1
      cases h1
    · injection hv with hv1 _ _
      injection hv1 with hv1
      injection hv1 with hv1
      subst hv1
      exact ⟨cur, hh⟩
  obtain ⟨B, hB⟩ := hA0
  have hne : p ≠ rb := by
    intro e
    rw [← e, h.blk] at hB
    injection hB with hB
    injection hB with _ hB _
    exact absurd hB (by decide)
  have hK : Kept M V (V.setCell ⟨rb, y, none⟩ v) := Kept.store hB (by decide) (Nat.le_trans h.ml hlo)
  refine ⟨(store_off hne).trans h.blk, h.lo, h.ml, h.cvs, own_off h.tabs hB (by decide), owns_kept h.gone fun g hg => store_off fun e => h.two rb (by rw [hrv]; rfl) (by rw [hg, e]), h.gin.keep hK, ?_, (h.rin.set y v row' hr).keep hK, h.two⟩
  have h1 := h.rws
  rw [hrv] at h1 ⊢
  rw [List.length_set]
  exact own_set h1
end Put
end Go.Proofs.YtnkeahfcpbepjaaDoor

/- halves.Mend of any row: halves of two runes that came together become blanks, too. -/
namespace Go.Proofs.YtnkeahfcpbepjaaDoor
open Go.ChangeShapes Go.WideShapes Go.ChangeAt Go.RowKit
namespace Grd
open Txt (wd)
/-- Does the cell have the half of another rune behind it? -/
def partB (cs : List C) (x : Nat) : Bool := decide (wd (cs.getD x z0).1 = 2) && decide (x + 1 < cs.length ∧ (cs.getD (x + 1) z0).1 = 0 ∧ (cs.getD x z0).2 ≠ (cs.getD (x + 1) z0).2)
/-- First halves of runes whose second half isn't theirs: blanks. -/
def unpart (cs : List C) : List C := (List.range cs.length).map fun x => if partB cs x then (32, (cs.getD x z0).2) else cs.getD x z0
theorem unpart_len (cs : List C) : (unpart cs).length = cs.length := by simp [unpart]
theorem unpart_at (cs : List C) (x : Nat) (hx : x < cs.length) : (unpart cs).getD x z0 = if partB cs x then (32, (cs.getD x z0).2) else cs.getD x z0 := by
  simp [unpart, List.getD, hx]
theorem unpart_alike (cs : List C) (h : Alike cs) : unpart cs = cs := by
  refine List.ext_getElem (unpart_len cs) fun i h1 h2 => ?_
  have e1 : (unpart cs).getD i z0 = (unpart cs)[i] := by simp [List.getD, h1]
  have e2 : cs.getD i z0 = cs[i] := by simp [List.getD, h2]
  rw [← e1, ← e2, unpart_at cs i h2]
  have hp : partB cs i = false := by
    unfold partB
    by_cases hw : wd (cs.getD i z0).1 = 2
    · by_cases hq : i + 1 < cs.length ∧ (cs.getD (i + 1) z0).1 = 0 ∧ (cs.getD i z0).2 ≠ (cs.getD (i + 1) z0).2
      · exact absurd (h i hq.1 hw hq.2.1) hq.2.2
      · rw [decide_eq_false hq, Bool.and_false]
    · rw [decide_eq_false hw, Bool.false_and]
  rw [hp]
  rfl
theorem wd_blank : wd 32 ≠ 2 := by decide +kernel
theorem wd_zero : wd 0 ≠ 2 := by decide +kernel
def mendStepG (cs : List C) (x : Nat) : List C := if loose cs x || partB cs x then setR cs x else cs
def mendToG (cs : List C) : Nat → List C
  | 0 => cs
  | k + 1 => mendStepG (mendToG cs k) k
theorem mendStepG_len (cs : List C) (x : Nat) : (mendStepG cs x).length = cs.length := by
  unfold mendStepG setR
  split <;> simp
theorem mendToG_len (cs : List C) : ∀ k, (mendToG cs k).length = cs.length
  | 0 => rfl
  | k + 1 => by
    show (mendStepG (mendToG cs k) k).length = _
    rw [mendStepG_len, mendToG_len cs k]
theorem step_at (cs : List C) (k j : Nat) (hk : k < cs.length) (b : Bool) : (if b then setR cs k else cs).getD j z0 = if j = k ∧ b = true then (32, (cs.getD k z0).2) else cs.getD j z0 := by
  cases b with
  | false => simp
  | true =>
    rw [if_pos rfl, setR_at cs k j hk]
    by_cases e : j = k
    · rw [if_pos e, if_pos ⟨e, rfl⟩]
    · rw [if_neg e, if_neg (fun h => e h.1)]
/-- Cell by cell: what is mended is what mending the other row makes; what isn't yet is as it was. -/
theorem mendG_at (cs : List C) : ∀ k, k ≤ cs.length → ∀ j, j < cs.length → (mendToG cs k).getD j z0 = (if j < k then (mendTo (unpart cs) k).getD j z0 else cs.getD j z0) ∧ (k ≤ j → (mendTo (unpart cs) k).getD j z0 = (unpart cs).getD j z0)
  | 0, _, j, _ => by
    rw [if_neg (by omega)]
    exact ⟨rfl, fun _ => rfl⟩
  | k + 1, hk, j, hj => by
    have ih := mendG_at cs k (by omega)
    have hkl : k < cs.length := by omega
    have lA := mendToG_len cs k
    have lB : (mendTo (unpart cs) k).length = cs.length := by rw [mendTo_len, unpart_len]
    have Ak : (mendToG cs k).getD k z0 = cs.getD k z0 := by rw [(ih k hkl).1, if_neg (by omega)]
    have Bk : (mendTo (unpart cs) k).getD k z0 = (unpart cs).getD k z0 := (ih k hkl).2 (Nat.le_refl _)
    have Ak1 : k + 1 < cs.length → (mendToG cs k).getD (k + 1) z0 = cs.getD (k + 1) z0 := fun h => by rw [(ih (k + 1) h).1, if_neg (by omega)]
    have Bk1 : k + 1 < cs.length → (mendTo (unpart cs) k).getD (k + 1) z0 = (unpart cs).getD (k + 1) z0 := fun h => (ih (k + 1) h).2 (by omega)
    have Ap : 0 < k → (mendToG cs k).getD (k - 1) z0 = (mendTo (unpart cs) k).getD (k - 1) z0 := fun h => by rw [(ih (k - 1) (by omega)).1, if_pos (by omega)]
    have pA : partB (mendToG cs k) k = partB cs k := by
      unfold partB
      rw [Ak, lA]
      by_cases h1 : k + 1 < cs.length
      · rw [Ak1 h1]
      · have e1 : ¬ (k + 1 < cs.length ∧ ((mendToG cs k).getD (k + 1) z0).1 = 0 ∧ (cs.getD k z0).2 ≠ ((mendToG cs k).getD (k + 1) z0).2) := fun h => h1 h.1
        have e2 : ¬ (k + 1 < cs.length ∧ (cs.getD (k + 1) z0).1 = 0 ∧ (cs.getD k z0).2 ≠ (cs.getD (k + 1) z0).2) := fun h => h1 h.1
        rw [decide_eq_false e1, decide_eq_false e2]
    have zero1 : k + 1 < cs.length → (((unpart cs).getD (k + 1) z0).1 = 0 ↔ (cs.getD (k + 1) z0).1 = 0) := fun h1 => by
      rw [unpart_at cs (k + 1) h1]
      by_cases hp : partB cs (k + 1) = true
      · rw [if_pos hp]
        unfold partB at hp
        simp only [Bool.and_eq_true, decide_eq_true_eq] at hp
        constructor
        · intro h
          exact absurd (show (32 : Int) = 0 from h) (by decide)
        · intro h
          rw [h] at hp
          exact absurd hp.1 wd_zero
      · rw [if_neg hp]
    -- the cell k, behind both steps
    have key : (if loose (mendToG cs k) k || partB (mendToG cs k) k then ((32 : Int), ((mendToG cs k).getD k z0).2) else (mendToG cs k).getD k z0) = (if loose (mendTo (unpart cs) k) k then ((32 : Int), ((mendTo (unpart cs) k).getD k z0).2) else (mendTo (unpart cs) k).getD k z0) := by
      rw [pA]
      by_cases hp : partB cs k = true
      · have hu : (unpart cs).getD k z0 = (32, (cs.getD k z0).2) := by rw [unpart_at cs k hkl, if_pos hp]
        have hlB : loose (mendTo (unpart cs) k) k = false := by
          unfold loose
          rw [Bk, hu]
          show (if (32 : Int) = 0 then _ else _) = false
          rw [if_neg (by decide)]
          show (decide (wd 32 = 2) && _) = false
          rw [decide_eq_false wd_blank]
          rfl
        rw [hp, Bool.or_true, if_pos rfl, hlB, if_neg (by decide), Bk, hu, Ak]
      · have hp' : partB cs k = false := by simpa using hp
        have hu : (unpart cs).getD k z0 = cs.getD k z0 := by rw [unpart_at cs k hkl, if_neg hp]
        have hll : loose (mendToG cs k) k = loose (mendTo (unpart cs) k) k := by
          unfold loose
          rw [Ak, Bk, hu, lA, lB]
          by_cases h0 : (cs.getD k z0).1 = 0
          · rw [if_pos h0, if_pos h0]
            by_cases hk0 : k = 0
            · simp [hk0]
            · rw [Ap (by omega)]
          · rw [if_neg h0, if_neg h0]
            by_cases h1 : k + 1 = cs.length
            · simp [h1]
            · have h2 : k + 1 < cs.length := by omega
              rw [Ak1 h2, Bk1 h2]
              congr 2
              rw [decide_eq_decide]
              exact not_congr (zero1 h2).symm
        rw [hp', Bool.or_false, hll, Ak, Bk, hu]
    have eA : (mendToG cs (k + 1)).getD j z0 = if j = k ∧ (loose (mendToG cs k) k || partB (mendToG cs k) k) = true then (32, ((mendToG cs k).getD k z0).2) else (mendToG cs k).getD j z0 := step_at _ k j (by rw [lA]; exact hkl) _
    have eB : (mendTo (unpart cs) (k + 1)).getD j z0 = if j = k ∧ loose (mendTo (unpart cs) k) k = true then (32, ((mendTo (unpart cs) k).getD k z0).2) else (mendTo (unpart cs) k).getD j z0 := step_at _ k j (by rw [lB]; exact hkl) _
    by_cases e : j = k
    · rw [eA, eB]
      subst e
      refine ⟨?_, fun h => by omega⟩
      rw [if_pos (by omega : j < j + 1)]
      simp only [true_and]
      exact key
    · have eA' : (mendToG cs (k + 1)).getD j z0 = (mendToG cs k).getD j z0 := by rw [eA, if_neg (fun h => e h.1)]
      have eB' : (mendTo (unpart cs) (k + 1)).getD j z0 = (mendTo (unpart cs) k).getD j z0 := by rw [eB, if_neg (fun h => e h.1)]
      rw [eA', eB']
      by_cases hlt : j < k
      · rw [if_pos (by omega : j < k + 1), (ih j hj).1, if_pos hlt]
        exact ⟨rfl, fun h => by omega⟩
      · rw [if_neg (by omega : ¬ j < k + 1), (ih j hj).1, if_neg hlt]
        exact ⟨rfl, fun _ => (ih j hj).2 (by omega)⟩
theorem mendG_eq (cs : List C) : mendToG cs cs.length = mendL (unpart cs) := by
  have hl : (mendL (unpart cs)).length = cs.length := by unfold mendL; rw [mendTo_len, unpart_len]
  refine List.ext_getElem (by rw [mendToG_len, hl]) fun i h1 h2 => ?_
  have hi : i < cs.length := by rw [mendToG_len] at h1; exact h1
  have e1 : (mendToG cs cs.length).getD i z0 = (mendToG cs cs.length)[i] := by simp [List.getD, h1]
  have e2 : (mendL (unpart cs)).getD i z0 = (mendL (unpart cs))[i] := by simp [List.getD, h2]
  rw [← e1, ← e2, (mendG_at cs cs.length (Nat.le_refl _) i hi).1, if_pos hi]
  unfold mendL
  rw [unpart_len]
end Grd
end Go.Proofs.YtnkeahfcpbepjaaDoor

/- halves.isParted and Mend of any row: the walks. -/
namespace Go.Proofs.YtnkeahfcpbepjaaDoor
open Go.ChangeShapes Go.WideShapes Go.ChangeAt Go.RowKit
namespace Grd
open Txt (wd)
set_option maxHeartbeats 1000000 in
theorem parted_two (b o c : Nat) (cs : List C) (x : Nat) (r f bk xx f2 b2 x2 : Int) (w : World) (hT : Txt.Tab w) (hx : x + 1 < cs.length) (hn : cs.length ≤ 1000000)
    (h0 : w.cell? ⟨b, o + x * 4, none⟩ = some (.int .i32 r)) (h1 : w.cell? ⟨b, o + x * 4 + 1, none⟩ = some (.int .i64 f)) (h2 : w.cell? ⟨b, o + x * 4 + 2, none⟩ = some (.int .i64 bk)) (h3 : w.cell? ⟨b, o + x * 4 + 3, none⟩ = some (.int .i64 xx))
    (p1 : w.cell? ⟨b, o + (x + 1) * 4 + 1, none⟩ = some (.int .i64 f2)) (p2 : w.cell? ⟨b, o + (x + 1) * 4 + 2, none⟩ = some (.int .i64 b2)) (p3 : w.cell? ⟨b, o + (x + 1) * 4 + 3, none⟩ = some (.int .i64 x2)) (hw : wd r = 2) (d : Bool) (hd : d = decide ((f, bk, xx) ≠ (f2, b2, x2))) :
    Calls Tryd.prog 164 #[.slice (some ⟨b, o, none⟩) cs.length c, .int .i64 (x : Int)] w fun e w' => e = .returned (.bool d) ∧ Below w.heap.size w w' := by
  have HT : Hid (Txt.Tab w) := hT
  have hx0 : x < cs.length := by omega
  have hwr : IntKind.i64.wrap ((x : Int) + 1) = (x : Int) + 1 := by unfold IntKind.wrap; simp [IntKind.bits, IntKind.signed]; omega
  have hx1 : (0 : Int) ≤ (x : Int) + 1 := by omega
  have hx2 : (x : Int) + 1 < (cs.length : Int) := by omega
  have hx3 : ((x : Int) + 1).toNat = x + 1 := by omega
  have nq : ∀ w, (binOp .neq 26 (.agg #[.int .i64 f, .int .i64 bk, .int .i64 xx]) (.agg #[.int .i64 f2, .int .i64 b2, .int .i64 x2])).run Tryd.prog w = .ok (.bool d) w := fun w => by
    rw [Sty.neq_agg, hd]
    simp
  clear hd
  have y0 : ∀ d os, (Sort.grow (redrawn w d) os).cell? ⟨b, o + x * 4, none⟩ = some (.int .i32 r) := fun d os => cell_regrown h0 d os
  have y1 : ∀ d os, (Sort.grow (redrawn w d) os).cell? ⟨b, o + x * 4 + 1, none⟩ = some (.int .i64 f) := fun d os => cell_regrown h1 d os
  have y2 : ∀ d os, (Sort.grow (redrawn w d) os).cell? ⟨b, o + x * 4 + 2, none⟩ = some (.int .i64 bk) := fun d os => cell_regrown h2 d os
  have y3 : ∀ d os, (Sort.grow (redrawn w d) os).cell? ⟨b, o + x * 4 + 3, none⟩ = some (.int .i64 xx) := fun d os => cell_regrown h3 d os
  have u1 : ∀ d os, (Sort.grow (redrawn w d) os).cell? ⟨b, o + (x + 1) * 4 + 1, none⟩ = some (.int .i64 f2) := fun d os => cell_regrown p1 d os
  have u2 : ∀ d os, (Sort.grow (redrawn w d) os).cell? ⟨b, o + (x + 1) * 4 + 2, none⟩ = some (.int .i64 b2) := fun d os => cell_regrown p2 d os
  have u3 : ∀ d os, (Sort.grow (redrawn w d) os).cell? ⟨b, o + (x + 1) * 4 + 3, none⟩ = some (.int .i64 x2) := fun d os => cell_regrown p3 d os
  have K4 : Hid (∀ d os, Calls Tryd.prog 45 #[.int .i32 r] (Sort.grow (redrawn w d) os) fun e w'' => e = .returned (.int .i64 2) ∧ ∃ p : Regrown, w'' = Sort.grow (redrawn w p.d) p.os) := fun d os => Calls.regrown_of (width_to r _ (Tab.next HT.out (below_regrown w d os)) 2 hw)
  clear hT hw h0 h1 h2 h3 p1 p2 p3
  go_enter Tryd.func164, Tryd.ntmps164
  go_wp2_with fail
  refine wp_region_quiet_below (by kernel_rfl) (by kernel_rfl) ?_
  repeat (first | go_big_quiet_skip | quiet_step (first | (go_at_call 45; exact K4.out _ _)))
  refine wpQuiet_nil ?_
  intro _ hw'
  obtain ⟨⟨dq, os⟩, hw''⟩ := hw'
  subst hw''
  have k3 : Below w.heap.size w (Sort.grow (redrawn w dq) os) := below_regrown w dq os
  generalize Sort.grow (redrawn w dq) os = W3 at *
  go_wp2_with fail
  go_ret
  exact ⟨rfl, k3⟩
/-- What isParted says of a cell that isn't loose. -/
theorem parted_any (b o c : Nat) (cs : List C) (x : Nat) (w : World) (hT : Txt.Tab w) (hC : CellsAt w b o cs) (hx : x < cs.length) (hn : cs.length ≤ 1000000) (hl : loose cs x = false) :
    Calls Tryd.prog 164 #[.slice (some ⟨b, o, none⟩) cs.length c, .int .i64 (x : Int)] w fun e w' => e = .returned (.bool (partB cs x)) ∧ Below w.heap.size w w' := by
  obtain ⟨h0, h1, h2, h3⟩ := hC x hx
  by_cases hw : wd (cs.getD x z0).1 = 2
  · have hn0 : ¬ (cs.getD x z0).1 = 0 := by intro e; rw [e] at hw; exact absurd hw (by decide +kernel)
    unfold loose at hl
    rw [if_neg hn0] at hl
    simp only [hw, decide_true, Bool.true_and, Bool.or_eq_false_iff, decide_eq_false_iff_not, Decidable.not_not] at hl
    have hx1 : x + 1 < cs.length := by omega
    obtain ⟨-, p1, p2, p3⟩ := hC (x + 1) hx1
    refine parted_two b o c cs x _ _ _ _ _ _ _ w hT hx1 hn h0 h1 h2 h3 p1 p2 p3 hw _ ?_
    unfold partB
    rw [decide_eq_true hw, Bool.true_and, decide_eq_decide]
    exact ⟨fun h => h.2.2, fun h => ⟨hx1, hl.2, h⟩⟩
  · have e : partB cs x = false := by unfold partB; rw [decide_eq_false hw, Bool.false_and]
    rw [e]
    exact parted_thin b o c cs x _ w hT hx h0 hw
set_option maxHeartbeats 2000000 in
theorem mendG_any (g c : Nat) (cs : List C) (pre post : List Value) (t : TypeId) (w : World) (hh : w.heap[g]? = some (.cells (pre ++ (flat cs ++ post)).toArray t (0, 0))) (hn : cs.length ≤ 1000000) (hT : Txt.Tab w) (hg : 2 < g) :
    Calls Tryd.prog 155 #[.slice (some ⟨g, pre.length, none⟩) cs.length c] w fun e w' => e = .returned (.tuple #[]) ∧ w'.heap[g]? = some (.cells (pre ++ (flat (mendL (unpart cs)) ++ post)).toArray t (0, 0)) ∧ Apart g [g] w w' := by
  have HT : Hid (∀ W, Apart g [g] w W → Txt.Tab W) := fun W b => hT.below b.1 hg
  have HG : Hid (g < w.heap.size) := blk_lt hh
  clear hT hg
  generalize hl : cs.length = L at *
  have HL : Hid (cs.length = L) := hl
  clear hl
  generalize hp : pre.length = o at *
  have HP : Hid (pre.length = o) := hp
  clear hp
  go_enter Tryd.func155, Tryd.ntmps155
  go_wp2_with fail
  go_loopg [5] L (fun q i wr => ∃ k : Nat, i = .int .i64 (k : Int) ∧ k ≤ L ∧ L - k ≤ q ∧ Apart g [g] w wr ∧ wr.heap[g]? = some (.cells (pre ++ (flat (mendToG cs k) ++ post)).toArray t (0, 0)))
  case atStart => exact ⟨0, rfl, by omega, by omega, Apart.refl _ _ _, hh⟩
  case round =>
    obtain ⟨k, rfl, hk, hq, hb, hv⟩ := hrel
    clear hh
    have hlen : (mendToG cs k).length = L := by rw [mendToG_len, HL.out]
    by_cases hlt : k < L
    · have lt1 : ((k : Int) < (L : Int)) := by omega
      have hC : CellsAt wr g o (mendToG cs k) := by have := cellsAt_mid hv; rwa [HP.out] at this
      have hcell := (hC k (by rw [hlen]; exact hlt)).1
      have KL := isLoose_any g o c (mendToG cs k) k wr (HT.out wr hb) hC (by rw [hlen]; exact hlt) (by rw [hlen]; exact hn)
      rw [hlen] at KL
      cases hlo : loose (mendToG cs k) k with
      | false =>
        cases hpa : partB (mendToG cs k) k with
        | false =>
          rw [hlo] at KL
          have HK : Hid (Calls Tryd.prog 131 #[.slice (some ⟨g, o, none⟩) L c, .int .i64 (k : Int)] wr fun e w' => e = .returned (.bool false) ∧ Below wr.heap.size wr w') := KL
          have HKP : Hid (∀ W, Below wr.heap.size wr W → Calls Tryd.prog 164 #[.slice (some ⟨g, o, none⟩) L c, .int .i64 (k : Int)] W fun e w' => e = .returned (.bool false) ∧ Below W.heap.size W w') := fun W bW => by
            have := parted_any g o c (mendToG cs k) k W (Tab.next (HT.out wr hb) bW) (hC.below bW) (by rw [hlen]; exact hlt) (by rw [hlen]; exact hn) hlo
            rwa [hlen, hpa] at this
          have HE : Hid (mendToG cs (k + 1) = mendToG cs k) := by
            show mendStepG (mendToG cs k) k = _
            unfold mendStepG
            rw [hlo, hpa]
            rfl
          clear KL hlo hC hcell hlen
          go_wp2_with (first
            | (go_at_call 131; refine HK.out.mono ?_; rintro e W1 ⟨rfl, b1⟩)
            | (go_at_call 164; refine (HKP.out _ b1).mono ?_; rintro e W2 ⟨rfl, b2⟩; have b3 := b1.trans (b2.mono b1.size)))
          go_roundg (L - (k + 1))
          case measure => omega
          case rel => exact ⟨k + 1, rfl, by omega, by omega, hb.step b3 (Nat.le_of_lt (blk_lt hv)), by rw [HE.out]; exact carry hv b3⟩
        | true =>
          rw [hlo] at KL
          have HK : Hid (Calls Tryd.prog 131 #[.slice (some ⟨g, o, none⟩) L c, .int .i64 (k : Int)] wr fun e w' => e = .returned (.bool false) ∧ Below wr.heap.size wr w') := KL
          have HKP : Hid (∀ W, Below wr.heap.size wr W → Calls Tryd.prog 164 #[.slice (some ⟨g, o, none⟩) L c, .int .i64 (k : Int)] W fun e w' => e = .returned (.bool true) ∧ Below W.heap.size W w') := fun W bW => by
            have := parted_any g o c (mendToG cs k) k W (Tab.next (HT.out wr hb) bW) (hC.below bW) (by rw [hlen]; exact hlt) (by rw [hlen]; exact hn) hlo
            rwa [hlen, hpa] at this
          have HE : Hid (pre ++ (flat (mendToG cs (k + 1)) ++ post) = (pre ++ (flat (mendToG cs k) ++ post)).set (o + k * 4) (.int .i32 32)) := by
            have e : mendToG cs (k + 1) = setR (mendToG cs k) k := by
              show mendStepG (mendToG cs k) k = _
              unfold mendStepG
              rw [hlo, hpa]
              rfl
            unfold Hid
            rw [e, ← HP.out]
            exact (row_set pre post _ k (by rw [hlen]; exact hlt)).symm
          generalize ((mendToG cs k).getD k z0).1 = rr at hcell
          clear KL hlo hC hlen
          go_wp2_with (first
            | (go_at_call 131; refine HK.out.mono ?_; rintro e W0 ⟨rfl, b0⟩)
            | (go_at_call 164; refine (HKP.out _ b0).mono ?_; rintro e W1 ⟨rfl, b2⟩; have b1 := b0.trans (b2.mono b0.size); have hcell1 := cell_keep b1 hcell; have hv1 := carry hv b1; have hfz : W1.frozen? ⟨g, o + k * 4, none⟩ = false := frozen_of hv1 _))
          go_roundg (L - (k + 1))
          case measure => omega
          case rel =>
            refine ⟨k + 1, rfl, by omega, by omega, (hb.step b1 (Nat.le_of_lt (blk_lt hv))).setCell g _ _ (by simp) (Nat.le_refl _), ?_⟩
            rw [HE.out]
            have := heap_setCell_same W1 g (o + k * 4) _ t (.int .i32 32) hv1
            simpa using this
      | true =>
        rw [hlo] at KL
        have HK : Hid (Calls Tryd.prog 131 #[.slice (some ⟨g, o, none⟩) L c, .int .i64 (k : Int)] wr fun e w' => e = .returned (.bool true) ∧ Below wr.heap.size wr w') := KL
        have HE : Hid (pre ++ (flat (mendToG cs (k + 1)) ++ post) = (pre ++ (flat (mendToG cs k) ++ post)).set (o + k * 4) (.int .i32 32)) := by
          have e : mendToG cs (k + 1) = setR (mendToG cs k) k := by
            show mendStepG (mendToG cs k) k = _
            unfold mendStepG
            rw [hlo]
            rfl
          unfold Hid
          rw [e, ← HP.out]
          exact (row_set pre post _ k (by rw [hlen]; exact hlt)).symm
        generalize ((mendToG cs k).getD k z0).1 = rr at hcell
        clear KL hlo hC hlen
        go_wp2_with (first | (go_at_call 131; refine HK.out.mono ?_; rintro e W1 ⟨rfl, b1⟩; have hcell1 := cell_keep b1 hcell; have hv1 := carry hv b1; have hfz : W1.frozen? ⟨g, o + k * 4, none⟩ = false := frozen_of hv1 _))
        go_roundg (L - (k + 1))
        case measure => omega
        case rel =>
          refine ⟨k + 1, rfl, by omega, by omega, (hb.step b1 (Nat.le_of_lt (blk_lt hv))).setCell g _ _ (by simp) (Nat.le_refl _), ?_⟩
          rw [HE.out]
          have := heap_setCell_same W1 g (o + k * 4) _ t (.int .i32 32) hv1
          simpa using this
    · have lt1 : ¬ ((k : Int) < (L : Int)) := by omega
      have hkL : k = L := by omega
      go_wp2_with fail
      go_end0
      refine ⟨rfl, ?_, hb⟩
      rw [← mendG_eq, HL.out, ← hkL]
      exact hv
end Grd
end Go.Proofs.YtnkeahfcpbepjaaDoor

/- Package sheet: relay: a row is made anew, and its halves mended. -/
namespace Go.Proofs.YtnkeahfcpbepjaaDoor
open Go.ChangeShapes Go.WideShapes Go.ChangeAt Go.RowKit
namespace Put
open Grd (C SliceAt CellsAt gridErr z0 nilV flat rowsL RowB OwnG mendL)
/-- What a function makes of a row: new cells. -/
def Relays (hf : FuncId) (caps : Array Value) (W : World) (v : Value) (row' : List C) : Prop :=
  ∀ W1, Below W.heap.size W W1 → Calls Tryd.prog hf (#[v] ++ caps) W1 fun e W2 => ∃ g cap rest, e = .returned (.slice (some ⟨g, 0, none⟩) row'.length cap) ∧ W1.heap.size ≤ g ∧ row'.length ≤ cap ∧ cap ≤ 9223372036854775807 ∧ W2.heap[g]? = some (.cells (flat row' ++ rest).toArray 63 (0, 0)) ∧ Below W1.heap.size W1 W2
set_option maxHeartbeats 8000000 in
set_option maxRecDepth 100000 in
theorem relayG_any (W : World) (M N p : Nat) (s : Scr) (rows : List (List C)) (cv tv gv rv : Value) (gvs vs : List Value) (hS : ShA 109 W M N p s rows cv tv gv rv gvs vs) (hT : Txt.Tab W) (y : Nat) (hy : y < rows.length) (hf : FuncId) (hpl : Plain hf) (caps : Array Value) (row' : List C) (hR : Relays hf caps W (vs.getD y nilV) row') (hl : row'.length ≤ 1000000) :
    Calls Tryd.prog 135 #[.pointer (some ⟨p, 0, none⟩), .int .i64 (y : Int), .func (.func hf) #[] caps] W (Ran W M N p s (rows.set y (mendL (Grd.unpart row')))) := by
  obtain ⟨rb, rc, hrv, hrb, hrc1, hrc2, hvl, hrcell, A, hrA⟩ := own_cells hS.rws (by omega)
  obtain ⟨va, vc, hsh⟩ := (hS.rin.2 y hy).shape
  have hyI : (0 : Int) ≤ (y : Int) := by omega
  have hyI2 : (y : Int) < (rows.length : Int) := by omega
  have d1 := hrcell y hy
  have HW : Hid (ShA 109 W M N p s rows cv tv gv rv gvs vs) := hS
  rw [hsh] at d1 hR
  have HR : Hid (Relays hf caps W (.slice va (rows.getD y []).length vc) row') := hR
  have HRA : Hid (W.heap[rb]? = some (.cells A 22 (0, 0))) := hrA
  have HRV : Hid (rv = .slice (some ⟨rb, 0, none⟩) rows.length rc) := hrv
  have HT : Hid (Txt.Tab W) := hT
  have hml := hS.ml
  have hNW : N ≤ W.heap.size := Nat.le_trans hS.lo (Nat.le_of_lt (heap_lt hS.blk))
  obtain ⟨row, hrow⟩ : ∃ row, row = rows.getD y [] := ⟨_, rfl⟩
  rw [← hrow] at d1 HR
  have SK : Hid (∀ V, Below W.heap.size W V → V.cell? ⟨p, 22, none⟩ = some (.slice (some ⟨rb, 0, none⟩) rows.length rc) ∧ V.cell? ⟨rb, y, none⟩ = some (.slice va row.length vc) ∧ V.frozen? ⟨rb, y, none⟩ = false) := fun V h => by
    have hblk := Grd.carry HW.out.blk h
    obtain ⟨-, ⟨-, -, -, -, -, -, -, -, -, -, -, c22⟩, -⟩ := sh_cells hblk
    rw [HRV.out] at c22
    exact ⟨c22, cell_stay h d1, Grd.frozen_of (Grd.carry HRA.out h) _⟩
  unfold Plain at hpl
  obtain ⟨c22, dy, fy⟩ := SK.out W (Below.refl _ _)
  clear hS hR hrA hrcell hsh hrow hrv d1 hT fy
  go_enter Tryd.func135, Tryd.ntmps135
  go_wp2_with fail
  refine (HR.out W (Below.refl _ _)).mono ?_
  rintro e V ⟨g, cap, rest, rfl, hgW, hcap1, hcap2, hgh, q1⟩
  have hTV : Txt.Tab V := Grd.Tab.next HT.out q1
  have HMD := Grd.mendG_any g cap row' [] rest _ V hgh hl hTV (Nat.lt_of_lt_of_le (Txt.Tab.pos HT.out) hgW)
  have HQ1 : Hid (Below W.heap.size W V) := q1
  clear c22 dy q1 hgh hTV HR
  go_wp2_with fail
  refine HMD.mono ?_
  rintro e V2 ⟨rfl, hg2, ap⟩
  have q2 : Below W.heap.size W V2 := HQ1.out.trans (ap.1.mono hgW)
  obtain ⟨c22, dy, fy⟩ := SK.out _ q2
  have HQ2 : Hid (Below W.heap.size W V2) := q2
  have hri : RowIn V2 M (.slice (some ⟨g, 0, none⟩) row'.length cap) (mendL (Grd.unpart row')) := rowIn_rowB (g := g) ⟨cap, rest, by rw [Grd.mendL_len, Grd.unpart_len], by rw [Grd.mendL_len, Grd.unpart_len]; exact hcap1, hcap2, hg2⟩
  have HRI : Hid (RowIn V2 M (.slice (some ⟨g, 0, none⟩) row'.length cap) (mendL (Grd.unpart row'))) := hri
  clear hri ap hg2 q2 HMD SK HQ1
  go_wp2_with fail
  all_goals go_end0
  all_goals exact ⟨rfl, ⟨_, _, _, _, _, _, (ShA.next HW.out HQ2.out).storeRow HRV.out HRI.out⟩, (HQ2.out.mono hNW).setCell hrb _, (Framed.of_below HQ2.out).trans (Framed.store (Grd.carry HRA.out HQ2.out) not_other_rows)⟩
theorem relay_any (W : World) (M N p : Nat) (s : Scr) (rows : List (List C)) (cv tv gv rv : Value) (gvs vs : List Value) (hS : ShA 109 W M N p s rows cv tv gv rv gvs vs) (hT : Txt.Tab W) (y : Nat) (hy : y < rows.length) (hf : FuncId) (hpl : Plain hf) (caps : Array Value) (row' : List C) (hR : Relays hf caps W (vs.getD y nilV) row') (hAl : Grd.Alike row') (hl : row'.length ≤ 1000000) :
    Calls Tryd.prog 135 #[.pointer (some ⟨p, 0, none⟩), .int .i64 (y : Int), .func (.func hf) #[] caps] W (Ran W M N p s (rows.set y (mendL row'))) := by
  have h := relayG_any W M N p s rows cv tv gv rv gvs vs hS hT y hy hf hpl caps row' hR hl
  rwa [Grd.unpart_alike row' hAl] at h
/-- Three rows behind each other. -/
theorem concat3o (V : World) (b1 o1 b2 o2 b3 o3 x k m c1 c2 c3 : Nat) (r1 r2 r3 : List C) (h1 : CellsAt V b1 o1 r1) (h2 : CellsAt V b2 o2 r2) (h3 : CellsAt V b3 o3 r3) (l1 : r1.length = x) (l2 : r2.length = k) (l3 : r3.length = m) (hm : x + (k + m) ≤ 1000) :
    Calls Tryd.prog 64 #[.slice (some ⟨V.heap.size, 0, none⟩) 3 3] (V.alloc (.cells #[.slice (some ⟨b1, o1, none⟩) x c1, .slice (some ⟨b2, o2, none⟩) k c2, .slice (some ⟨b3, o3, none⟩) m c3] 22)) fun e w' => ∃ v', e = .returned v' ∧ w'.ownsRow (V.alloc (.cells #[.slice (some ⟨b1, o1, none⟩) x c1, .slice (some ⟨b2, o2, none⟩) k c2, .slice (some ⟨b3, o3, none⟩) m c3] 22)).heap.size 63 4 v' (x + (k + m)) (flat (r1 ++ (r2 ++ r3))) ∧ Below (V.alloc (.cells #[.slice (some ⟨b1, o1, none⟩) x c1, .slice (some ⟨b2, o2, none⟩) k c2, .slice (some ⟨b3, o3, none⟩) m c3] 22)).heap.size (V.alloc (.cells #[.slice (some ⟨b1, o1, none⟩) x c1, .slice (some ⟨b2, o2, none⟩) k c2, .slice (some ⟨b3, o3, none⟩) m c3] 22)) w' := by
  have kb : Below V.heap.size V (V.alloc (.cells #[.slice (some ⟨b1, o1, none⟩) x c1, .slice (some ⟨b2, o2, none⟩) k c2, .slice (some ⟨b3, o3, none⟩) m c3] 22)) := (Below.refl _ _).alloc (Nat.le_refl _) _
  have hnew := heap_alloc_new V (.cells #[.slice (some ⟨b1, o1, none⟩) x c1, .slice (some ⟨b2, o2, none⟩) k c2, .slice (some ⟨b3, o3, none⟩) m c3] 22)
  have hcell : ∀ (j : Nat) (v : Value), (#[.slice (some ⟨b1, o1, none⟩) x c1, .slice (some ⟨b2, o2, none⟩) k c2, .slice (some ⟨b3, o3, none⟩) m c3] : Array Value)[j]? = some v → (V.alloc (.cells #[.slice (some ⟨b1, o1, none⟩) x c1, .slice (some ⟨b2, o2, none⟩) k c2, .slice (some ⟨b3, o3, none⟩) m c3] 22)).cell? ⟨V.heap.size, 0 + j, none⟩ = some v := fun j v h => by
    rw [Nat.zero_add]
    unfold World.cell?
    rw [hnew]
    exact h
  have hfl : [r1, r2, r3].flatten = r1 ++ (r2 ++ r3) := by simp
  have hlen : (r1 ++ (r2 ++ r3)).length = x + (k + m) := by rw [List.length_append, List.length_append, l1, l2, l3]
  have key := concat_any V.heap.size 0 3 [r1, r2, r3] (V.alloc (.cells #[.slice (some ⟨b1, o1, none⟩) x c1, .slice (some ⟨b2, o2, none⟩) k c2, .slice (some ⟨b3, o3, none⟩) m c3] 22)) (fun j hj => by
    have hj3 : j < 3 := hj
    match j, hj3 with
    | 0, _ => exact ⟨b1, o1, c1, by show World.cell? _ _ = some (Value.slice _ r1.length c1); rw [l1]; exact hcell 0 _ rfl, h1.below kb⟩
    | 1, _ => exact ⟨b2, o2, c2, by show World.cell? _ _ = some (Value.slice _ r2.length c2); rw [l2]; exact hcell 1 _ rfl, h2.below kb⟩
    | 2, _ => exact ⟨b3, o3, c3, by show World.cell? _ _ = some (Value.slice _ r3.length c3); rw [l3]; exact hcell 2 _ rfl, h3.below kb⟩) (r1 ++ (r2 ++ r3)) hfl (by rw [hlen]; omega) (by simp)
  rw [hlen] at key
  exact key
/-- A row with the cells from a on, up to b, made anew. -/
def ovR (row mid : List C) (a b : Nat) : List C := row.take a ++ (mid ++ row.drop b)
theorem ovR_len (row mid : List C) (a b : Nat) (h : a + mid.length = b) (hb : b ≤ row.length) : (ovR row mid a b).length = row.length := by
  unfold ovR
  rw [List.length_append, List.length_append, List.length_take, List.length_drop]
  omega
theorem ovR_at (row mid : List C) (a b : Nat) (h : a + mid.length = b) (hb : b ≤ row.length) (i : Nat) : (ovR row mid a b).getD i z0 = if i < a then row.getD i z0 else if i < b then mid.getD (i - a) z0 else row.getD i z0 := by
  have e1 : (row.take a).length = a := by rw [List.length_take]; omega
  unfold ovR
  simp only [List.getD]
  by_cases h1 : i < a
  · rw [if_pos h1, List.getElem?_append_left (by omega), List.getElem?_take_of_lt h1]
  · rw [if_neg h1, List.getElem?_append_right (by omega), e1]
    by_cases h2 : i < b
    · rw [if_pos h2, List.getElem?_append_left (by omega)]
    · rw [if_neg h2, List.getElem?_append_right (by omega), List.getElem?_drop, show b + (i - a - mid.length) = i by omega]
/-- What slices.Concat makes of a row's ends and cells between. -/
theorem over3 (V : World) (rb ro g go c a b k vc L : Nat) (row mid : List C) (hC : CellsAt V rb ro row) (hM : CellsAt V g go mid) (hk : mid.length = k) (hb : a + k = b) (hL : row.length = L) (hbl : b ≤ L) (hl : L ≤ 120) (oo cc : Nat) (ho : (oo = ro + b * 4) ∨ b = L) :
    Calls Tryd.prog 64 #[.slice (some ⟨V.heap.size, 0, none⟩) 3 3] (V.alloc (.cells #[.slice (some ⟨rb, ro, none⟩) a c, .slice (some ⟨g, go, none⟩) k vc, .slice (some ⟨rb, oo, none⟩) (L - b) cc] 22)) fun e w' => ∃ v', e = .returned v' ∧ w'.ownsRow (V.alloc (.cells #[.slice (some ⟨rb, ro, none⟩) a c, .slice (some ⟨g, go, none⟩) k vc, .slice (some ⟨rb, oo, none⟩) (L - b) cc] 22)).heap.size 63 4 v' L (flat (ovR row mid a b)) ∧ Below (V.alloc (.cells #[.slice (some ⟨rb, ro, none⟩) a c, .slice (some ⟨g, go, none⟩) k vc, .slice (some ⟨rb, oo, none⟩) (L - b) cc] 22)).heap.size (V.alloc (.cells #[.slice (some ⟨rb, ro, none⟩) a c, .slice (some ⟨g, go, none⟩) k vc, .slice (some ⟨rb, oo, none⟩) (L - b) cc] 22)) w' := by
  have hC1 := hC.part 0 a (by omega)
  rw [Nat.zero_mul, Nat.add_zero, List.drop_zero] at hC1
  have hC2 : CellsAt V rb oo (row.drop b) := by
    by_cases hbL : b = L
    · intro j hj
      rw [List.length_drop] at hj
      omega
    · rcases ho with rfl | h
      · have h := hC.part b (L - b) (by omega)
        rwa [List.take_of_length_le (by rw [List.length_drop]; omega)] at h
      · exact absurd h hbL
  have key := concat3o V rb ro g go rb oo a k (L - b) c vc cc (row.take a) mid (row.drop b) hC1 hM hC2 (by rw [List.length_take]; omega) hk (by rw [List.length_drop, hL]) (by omega)
  rw [show a + (k + (L - b)) = L by omega] at key
  exact key
end Put
end Go.Proofs.YtnkeahfcpbepjaaDoor

/- slices.Delete of one row. -/
namespace Go.Proofs.YtnkeahfcpbepjaaDoor
open Go.ChangeShapes Go.WideShapes Go.ChangeAt Go.RowKit
namespace Put
open Grd (C nilV)
def delRen : Go.Shelf.Ren := ⟨fun | 45 => 140 | n => n, fun | 0 => 0 | 3 => 3 | 4 => 4 | 22 => 30 | 23 => 22 | n => n, fun | n => n⟩
theorem delLays : SlLaysE.n45 Tryd.prog delRen := {
  mixed := by kernel_rfl
  f45 := Exists.intro "slices.Delete[[][]trellis/api.Cell,[]trellis/api.Cell]" ⟨by kernel_rfl, Tryd.func140.trans (congrArg some (by kernel_rfl))⟩
  t0 := Tryd.underlying0
  a0 := Tryd.isAgg0
  z0 := Tryd.sizeOf0
  v0 := Tryd.zeroValue0
  t3 := Tryd.underlying3
  a3 := Tryd.isAgg3
  z3 := Tryd.sizeOf3
  v3 := Tryd.zeroValue3
  t4 := Tryd.underlying4
  a4 := Tryd.isAgg4
  z4 := Tryd.sizeOf4
  v4 := Tryd.zeroValue4
  t22 := Tryd.underlying30
  a22 := Tryd.isAgg30
  z22 := Tryd.sizeOf30
  v22 := Tryd.zeroValue30
  a23 := Tryd.isAgg22
  z23 := Tryd.sizeOf22 }
/-- A slice's words. -/
abbrev Sl := Option Addr × Nat × Nat
def encS (x : Sl) : Value := .slice x.1 x.2.1 x.2.2
theorem encS_one : OneCell encS := fun _ => rfl
def IsSl (v : Value) : Prop := ∃ x : Sl, v = encS x
theorem sls_of : ∀ (vs : List Value), (∀ v, v ∈ vs → IsSl v) → ∃ zs : List Sl, vs = zs.map encS
  | [], _ => ⟨[], rfl⟩
  | v :: vs, h => by
    obtain ⟨x, hx⟩ := h v (by simp)
    obtain ⟨zs, hz⟩ := sls_of vs fun u hu => h u (by simp [hu])
    exact ⟨x :: zs, by rw [hx, hz]; rfl⟩
theorem info_rows1 : (Tryd.prog.info? 22).map (·.size) = some 1 := by kernel_rfl
theorem putRow_other {w : World} {g q k : Nat} {d : Array Sl} (h : k ≠ g) : (Sort.putRow encS (Sort.ahead w q) g 0 d).heap[k]? = w.heap[k]? := by
  simp [Sort.putRow, Sort.mapBlock, Sort.ahead, Array.getElem?_modify, Ne.symm h]
/-- One row goes. -/
theorem delete_own (N g n cap i : Nat) (vs : List Value) (w : World) (h : w.ownsRow N 22 1 (.slice (some ⟨g, 0, none⟩) n cap) n vs) (hv : ∀ v, v ∈ vs → IsSl v) (hi : i < n) :
    Calls Tryd.prog 140 #[.slice (some ⟨g, 0, none⟩) n cap, .int .i64 (i : Int), .int .i64 ((i + 1 : Nat) : Int)] w fun e w' => e = .returned (.slice (some ⟨g, 0, none⟩) (n - 1) cap) ∧ w'.ownsRow N 22 1 (.slice (some ⟨g, 0, none⟩) (n - 1) cap) (n - 1) (vs.eraseIdx i) ∧ (∀ k, k ≠ g → w'.heap[k]? = w.heap[k]?) ∧ Below g w w' := by
  obtain ⟨zs, rfl⟩ := sls_of vs hv
  obtain ⟨g', cap', e0, -, -, h1, h2, hl, hH⟩ := Lib.holds_of_ownsRow h (by intro e; cases e)
  injection e0 with e1 _ e3
  injection e1 with e1
  injection e1 with e1
  subst e1 e3
  obtain ⟨i0, hi0, hz⟩ := Option.map_eq_some_iff.1 info_rows1
  have key := AnyE.slices_Delete delLays encS encS_one (none, 0, 0) Tryd.zeroValue22 i0 hi0 hz g 0 cap i (i + 1) zs.toArray w hH (by simpa [hl] using h1) (by unfold maxLen at h2; omega) (by omega) (by simp; omega)
  have hsz : zs.toArray.size = n := by simp [hl]
  rw [hsz, Nat.add_sub_cancel_left] at key
  refine Calls.mono key ?_
  rintro e w' ⟨rfl, q, rfl⟩
  refine ⟨rfl, ?_, fun k hk => putRow_other hk, Lib.below_putRow (Below.refl _ _) (Nat.le_refl _)⟩
  have hlen : (zs.take i ++ zs.drop (i + 1) ++ List.replicate 1 ((none, 0, 0) : Sl)).length = n := by simp; omega
  have := Lib.ownsRow_putRow (q := q) (k := n - 1) h hlen (by omega)
  have e : (zs.take i ++ zs.drop (i + 1) ++ List.replicate 1 ((none, 0, 0) : Sl)).take (n - 1) = zs.eraseIdx i := by
    rw [List.eraseIdx_eq_take_drop_succ, List.take_left' (by simp; omega)]
  rw [e] at this
  have e2 : (zs.map encS).eraseIdx i = (zs.eraseIdx i).map encS := by rw [List.eraseIdx_eq_take_drop_succ, List.eraseIdx_eq_take_drop_succ, List.map_append, List.map_take, List.map_drop]
  rw [e2]
  exact this
end Put
end Go.Proofs.YtnkeahfcpbepjaaDoor

/- slices.Insert of one row, where there is room. -/
namespace Go.Proofs.YtnkeahfcpbepjaaDoor
open Go.ChangeShapes Go.WideShapes Go.ChangeAt Go.RowKit
namespace Put
open Grd (C nilV)
theorem wp_copyR {P : Program} (w : World) {o : Oper} {a : Act} {K : Act → World → Prop} {Q : Exit → Act → World → Prop} (d s : Operand) (t t' : TypeId)
    (ho : o.op = .call { callee := .builtin .copy, args := #[d, s], argTypes := #[t, t'] }) (v u : Value) (hd : a.eval d = v) (hs : a.eval s = u) {v' : Value} {w' : World}
    (hr : (Builtin.copy_ #[t, t'] o.type #[v, u]).run P w = .ok v' w') (h : K (a.put o.dst v') w') : o.wp P a w K Q := by
  unfold Oper.wp execOp
  simp only [ho, resolve, invoke, builtin, Sem.run_bind, Sem.run_pure, Result.andThen_ok, List.map_toArray, List.map_cons, List.map_nil, hd, hs, hr]
  exact h
theorem wpList_copyR {P : Program} (w : World) {ops : Array Oper} {rest : List Oper} {o : Oper} {a : Act} {Q : Exit → Act → World → Prop} (hgd : o.guard = none) (d s : Operand) (t t' : TypeId)
    (ho : o.op = .call { callee := .builtin .copy, args := #[d, s], argTypes := #[t, t'] }) (v u : Value) (hd : a.eval d = v) (hs : a.eval s = u) {v' : Value} {w' : World}
    (hr : (Builtin.copy_ #[t, t'] o.type #[v, u]).run P w = .ok v' w') (h : wpList P ops Q rest (a.put o.dst v') w') : wpList P ops Q (o :: rest) a w :=
  wpList_plain hgd fun _ hK => wp_copyR w d s t t' ho v u hd hs hr (hK _ _ h)
theorem step_copyR {P : Program} {ops : Array Oper} {o : Oper} {a : Act} {w : World} {K : Act → World → Prop} {Q : Exit → Act → World → Prop} {E : Prop}
    (hg : o.guard = none) (d x : Operand) (dT sT : TypeId) (hop : o.op = Op.call { callee := Callee.builtin Builtin.copy, args := #[d, x], argTypes := #[dT, sT] })
    (v u : Value) (hd : a.eval d = v) (hx : a.eval x = u) {v' : Value} {w' : World} (hr : (Builtin.copy_ #[dT, sT] o.type #[v, u]).run P w = .ok v' w') (hK : K (a.put o.dst v') w') :
    if Region.wanted o (yielded ops a.tmps) = true then Oper.wp P o a w K Q else E := by
  have hw : Region.wanted o (yielded ops a.tmps) = true := by simp [Region.wanted, hg]
  rw [if_pos hw]
  unfold Oper.wp
  simp [execOp, hop, resolve, invoke, builtin, hd, hx, hr, Result.andThen]
  exact hK
/-- Words set one behind the other. -/
def setL (cur : Array Value) (o : Nat) : List Value → Array Value
  | [] => cur
  | v :: r => setL (cur.setIfInBounds o v) (o + 1) r
theorem setL_size : ∀ (xs : List Value) (cur : Array Value) (o : Nat), (setL cur o xs).size = cur.size
  | [], _, _ => rfl
  | v :: r, cur, o => by
    show (setL (cur.setIfInBounds o v) (o + 1) r).size = _
    rw [setL_size r]
    simp
theorem setL_at : ∀ (xs : List Value) (cur : Array Value) (o j : Nat), j < cur.size → (setL cur o xs)[j]? = if o ≤ j ∧ j < o + xs.length then xs[j - o]? else cur[j]?
  | [], cur, o, j, h => by
    rw [if_neg (by simp)]
    rfl
  | v :: r, cur, o, j, h => by
    show (setL (cur.setIfInBounds o v) (o + 1) r)[j]? = _
    rw [setL_at r _ _ j (by simpa using h)]
    by_cases h1 : o + 1 ≤ j ∧ j < o + 1 + r.length
    · rw [if_pos h1, if_pos (by simp; omega), show j - o = (j - (o + 1)) + 1 by omega]
      rfl
    · rw [if_neg h1]
      by_cases h2 : j = o
      · subst h2
        rw [if_pos (by simp)]
        simp [h]
      · rw [if_neg (by simp; omega), Array.getElem?_setIfInBounds_ne (Ne.symm h2)]
theorem setL_heap (g : Nat) (e : TypeId) : ∀ (xs : List Value) (w : World) (o : Nat) (cur : Array Value), w.heap[g]? = some (.cells cur e (0, 0)) → (w.setCells g o xs).heap[g]? = some (.cells (setL cur o xs) e (0, 0))
  | [], _, _, _, h => h
  | v :: r, w, o, cur, h => setL_heap g e r _ _ _ (heap_setCell_same w g o cur e v h)
/-- One row more. -/
theorem ins_list (cur : Array Value) (vs : List Value) (n i : Nat) (v : Value) (hl : vs.length = n) (hi : i ≤ n) (hs : n + 1 ≤ cur.size) (ht : cur.toList.take n = vs) : (setL (setL cur (i + 1) (vs.drop i)) i [v]).toList.take (n + 1) = vs.insertIdx i v := by
  apply List.ext_getElem?
  intro j
  have hc : ∀ k, k < n → cur[k]? = vs[k]? := fun k hk => by rw [← ht, List.getElem?_take_of_lt hk, Array.getElem?_toList]
  by_cases hj : j < n + 1
  · rw [List.getElem?_take_of_lt hj, Array.getElem?_toList, setL_at _ _ _ _ (by rw [setL_size]; omega), List.getElem?_insertIdx]
    by_cases h1 : j < i
    · rw [if_neg (by simp; omega), setL_at _ _ _ _ (by omega), if_neg (by simp; omega), if_pos h1, hc j (by omega)]
    · rw [if_neg h1]
      by_cases h2 : j = i
      · subst h2
        rw [if_pos (by simp), if_pos rfl, if_pos (by omega)]
        simp
      · rw [if_neg (by simp; omega), setL_at _ _ _ _ (by omega), if_pos (by simp; omega), if_neg h2, List.getElem?_drop]
        congr 1
        omega
  · rw [List.getElem?_eq_none (by simp; omega), List.getElem?_eq_none (by rw [List.length_insertIdx]; split <;> omega)]
theorem ins_end (cur : Array Value) (vs : List Value) (n : Nat) (v : Value) (hl : vs.length = n) (hs : n + 1 ≤ cur.size) (ht : cur.toList.take n = vs) : (setL cur n [v]).toList.take (n + 1) = vs.insertIdx n v := by
  have := ins_list cur vs n n v hl (Nat.le_refl _) hs ht
  rw [List.drop_of_length_le (by omega)] at this
  exact this
theorem heap_setCells_off (g k : Nat) (h : k ≠ g) : ∀ (xs : List Value) (o : Nat) (w : World), (w.setCells g o xs).heap[k]? = w.heap[k]? := fun xs o w => Grd.heap_setCells_ne _ k h xs o w
set_option maxHeartbeats 4000000 in
set_option maxRecDepth 100000 in
theorem insert_end (N g n cap vb vc : Nat) (vs : List Value) (v : Value) (w : World) (h : w.ownsRow N 22 1 (.slice (some ⟨g, 0, none⟩) n cap) n vs) (hsv : IsSl v) (hroom : n + 1 ≤ cap) (hvb : w.cell? ⟨vb, 0, none⟩ = some v) :
    Calls Tryd.prog 139 #[.slice (some ⟨g, 0, none⟩) n cap, .int .i64 (n : Int), .slice (some ⟨vb, 0, none⟩) 1 vc] w fun e w' => e = .returned (.slice (some ⟨g, 0, none⟩) (n + 1) cap) ∧ w'.ownsRow N 22 1 (.slice (some ⟨g, 0, none⟩) (n + 1) cap) (n + 1) (vs.insertIdx n v) ∧ (∀ k, k ≠ g → w'.heap[k]? = w.heap[k]?) ∧ Below g w w' := by
  obtain ⟨h0, ⟨h1, -⟩ | ⟨g', cap', cur, hv, hb, hg, hn, hm, hs, ht⟩⟩ := h
  · injection h1 with h1
    cases h1
  injection hv with e1 _ e3
  injection e1 with e1
  injection e1 with e1
  subst e1 e3
  rw [Nat.mul_one] at h0 hs ht
  obtain ⟨x, rfl⟩ := hsv
  have hc63 : cap ≤ 9223372036854775807 := by unfold maxLen at hm; omega
  obtain ⟨i0, hi0, hz⟩ := Option.map_eq_some_iff.1 info_rows1
  have hsrc : Src Tryd.prog 1 30 (.slice (some ⟨vb, 0, none⟩) 1 vc) 1 [encS x] w := Src.ofSlice w und_rows ⟨vb, 0, none⟩ 1 vc [encS x] (by simp) (fun j u hj => by
    rw [Addr.add_lit]
    match j, hj with
    | 0, hj => rw [← Option.some.inj hj]; exact hvb) (by simp [encS, Value.oneCell'])
  have hcell : ∀ j, j < 1 → (w.cell? ⟨g, 0 + n + j, none⟩).isSome = true := fun j hj => by
    simp only [World.cell?, hg]
    simp only [Option.isSome_none, Bool.false_eq_true, if_false]
    rw [Array.getElem?_eq_getElem (by omega)]
    rfl
  have hfz : ∀ j, j < 1 → w.frozen? ⟨g, 0 + n + j, none⟩ = false := fun j _ => by simp [World.frozen?, hg]
  have HE : Hid ((w.setCells g n [encS x]).ownsRow N 22 1 (.slice (some ⟨g, 0, none⟩) (n + 1) cap) (n + 1) (vs.insertIdx n (encS x)) ∧ (∀ k, k ≠ g → (w.setCells g n [encS x]).heap[k]? = w.heap[k]?) ∧ Below g w (w.setCells g n [encS x])) := by
    refine ⟨⟨by rw [List.length_insertIdx, if_pos (by omega)]; omega, .inr ⟨g, cap, _, rfl, hb, setL_heap g _ [encS x] w n cur hg, hroom, hm, by rw [setL_size]; omega, ?_⟩⟩, fun k hk => heap_setCells_off g k hk _ _ _, Grd.below_cells (Nat.le_refl _) _ _ _ (Below.refl _ _)⟩
    rw [Nat.mul_one]
    exact ins_end cur vs n (encS x) h0 (by omega) ht
  clear hg ht hs
  go_enter Tryd.func139, Tryd.ntmps139
  go_wp2_with (at_builtin; refine wpList_append_room1 _ rfl _ _ 30 30 rfl 22 _ _ und_rows info_rows g 0 n cap rfl _ rfl 1 [encS x] hsrc hroom (by simpa using hcell) (by simpa using hfz) ?_)
  go_ret
  exact ⟨rfl, HE.out⟩
theorem isSome_setC (b : Nat) (vs : List Value) (o : Nat) (w : World) (h : ∀ j, j < vs.length → (w.cell? ⟨b, o + j, none⟩).isSome = true) (k : Nat) (hk : (w.cell? ⟨b, k, none⟩).isSome = true) : ((w.setCells b o vs).cell? ⟨b, k, none⟩).isSome = true := by
  by_cases hin : o ≤ k ∧ k < o + vs.length
  · have := World.cell?_setCells_in b vs o w h (k - o) (by omega)
    rw [show o + (k - o) = k by omega] at this
    rw [this]
    simp
  · rw [World.cell?_setCells_out b vs o w ⟨b, k, none⟩ (fun _ _ => by show k < o ∨ o + vs.length ≤ k; omega)]
    exact hk
set_option maxHeartbeats 4000000 in
set_option maxRecDepth 100000 in
theorem insert_shift (N g n cap i vb vc : Nat) (vs : List Value) (v : Value) (w : World) (h : w.ownsRow N 22 1 (.slice (some ⟨g, 0, none⟩) n cap) n vs) (hvs : ∀ u, u ∈ vs → IsSl u) (hsv : IsSl v) (hi : i < n) (hroom : n + 1 ≤ cap) (hvb : w.heap[vb]? = some (.cells #[v] 22 (0, 0))) (hne : vb ≠ g) :
    Calls Tryd.prog 139 #[.slice (some ⟨g, 0, none⟩) n cap, .int .i64 (i : Int), .slice (some ⟨vb, 0, none⟩) 1 vc] w fun e w' => e = .returned (.slice (some ⟨g, 0, none⟩) (n + 1) cap) ∧ w'.ownsRow N 22 1 (.slice (some ⟨g, 0, none⟩) (n + 1) cap) (n + 1) (vs.insertIdx i v) ∧ (∀ k, k ≠ g → w'.heap[k]? = w.heap[k]?) ∧ Below g w w' := by
  obtain ⟨h0, ⟨h1, -⟩ | ⟨g', cap', cur, hv, hb, hg, hn, hm, hs, ht⟩⟩ := h
  · injection h1 with h1
    cases h1
  injection hv with e1 _ e3
  injection e1 with e1
  injection e1 with e1
  subst e1 e3
  rw [Nat.mul_one] at h0 hs ht
  have hsv1 : v.oneCell' = true := by obtain ⟨x, rfl⟩ := hsv; rfl
  have hv1 : ∀ u, u ∈ vs → u.oneCell' = true := fun u hu => by obtain ⟨x, rfl⟩ := hvs u hu; rfl
  have hc63 : cap ≤ 9223372036854775807 := by unfold maxLen at hm; omega
  have hcell : ∀ (W : World), W.heap[g]? = w.heap[g]? → ∀ j, j < cap → (W.cell? ⟨g, 0 + j, none⟩).isSome = true := fun W hW j hj => by
    simp only [World.cell?, hW, hg]
    simp only [Option.isSome_none, Bool.false_eq_true, if_false]
    rw [Array.getElem?_eq_getElem (by omega)]
    rfl
  have hfz : ∀ j, w.frozen? ⟨g, j, none⟩ = false := fun j => by simp [World.frozen?, hg]
  have hcs : ∀ j u, vs[j]? = some u → w.cell? ⟨g, 0 + j, none⟩ = some u := fun j u hj => by
    have hlt := (List.getElem?_eq_some_iff.1 hj).1
    simp only [World.cell?, hg]
    simp only [Option.isSome_none, Bool.false_eq_true, if_false]
    rw [← hj, ← ht, List.getElem?_take_of_lt (by omega), Array.getElem?_toList, Nat.zero_add]
  have hvc : w.cell? ⟨vb, 0, none⟩ = some v := by simp [World.cell?, hvb]
  have hsa : w.shape? vb = some (22, 1) := by simp [World.shape?, hvb]
  have hsb : w.shape? g = some (22, cur.size) := by simp [World.shape?, hg]
  have hov : ∀ lb cb, (callFunc 157 #[.slice (some ⟨vb, 0, none⟩) 1 vc, .slice (some ⟨g, i + 1, none⟩) lb cb]).run Tryd.prog w = .ok (.value (.bool false)) w := fun lb cb => by
    rw [run_callFunc_extern Tryd.func157 (by kernel_rfl) (by kernel_rfl) (by kernel_rfl) (e := Extern.SlicesOverlaps.overlaps #[30, 30] #[4]) (by kernel_rfl),
      Lib.run_overlaps_apart w 30 4 22 und_rows 1 Tryd.sizeOf22 ⟨vb, 0, none⟩ ⟨g, i + 1, none⟩ 1 vc lb cb hne _ _ _ _ hsa hsb (by omega) (by simp [World.frozen?, hvb]) (by simp [World.frozen?, hvb])]
    rfl
  have hdl : (vs.drop i).length = n - i := by rw [List.length_drop, h0]
  have hcp1 : ∀ ty dc sc, (Builtin.copy_ #[30, 30] ty #[.slice (some ⟨g, i + 1, none⟩) (n - i) dc, .slice (some ⟨g, i, none⟩) (n + 1 - i) sc]).run Tryd.prog w.drew = .ok (goInt (vs.drop i).length) (w.drew.setCells g (i + 1) (vs.drop i)) := fun ty dc sc =>
    run_copy_cells w.drew _ _ ty 22 g (i + 1) (n - i) dc ⟨g, i, none⟩ (n + 1 - i) sc (vs.drop i) und_rows info_rows1 (by rw [hdl]; simp only [Nat.min_def]; split <;> omega)
      (fun j u hj => by rw [Addr.add_lit, ← Nat.zero_add (i + j)]; exact hcs (i + j) u (by rwa [List.getElem?_drop] at hj))
      (fun j hj => by rw [← Nat.zero_add (i + 1 + j)]; exact hcell w.drew rfl _ (by omega)) (fun j hj => hfz _) (fun u hu => hv1 u (List.mem_of_mem_drop hu))
  obtain ⟨W1, hW1⟩ : ∃ W1, W1 = w.drew.setCells g (i + 1) (vs.drop i) := ⟨_, rfl⟩
  have hg1 : W1.heap[g]? = some (.cells (setL cur (i + 1) (vs.drop i)) 22 (0, 0)) := by
    rw [hW1]
    exact setL_heap g _ (vs.drop i) w.drew (i + 1) cur hg
  have ho1 : ∀ k, k ≠ g → W1.heap[k]? = w.heap[k]? := fun k hk => by rw [hW1]; exact heap_setCells_off g k hk _ _ _
  have hb1 : Below g w W1 := by rw [hW1]; exact Grd.below_cells (Nat.le_refl _) _ _ _ ((Below.refl _ _).drew)
  have hcp2 : ∀ (W : World), W.heap = W1.heap → ∀ ty dc, (Builtin.copy_ #[30, 30] ty #[.slice (some ⟨g, i, none⟩) (n + 1 - i) dc, .slice (some ⟨vb, 0, none⟩) 1 vc]).run Tryd.prog W = .ok (goInt [v].length) (W.setCells g i [v]) := fun W hWh ty dc =>
    run_copy_cells W _ _ ty 22 g i (n + 1 - i) dc ⟨vb, 0, none⟩ 1 vc [v] und_rows info_rows1 (by simp only [List.length_singleton, Nat.min_def]; split <;> omega)
      (fun j u hj => by
        rw [Addr.add_lit]
        match j, hj with
        | 0, hj =>
          rw [← Option.some.inj hj]
          simp only [World.cell?, hWh, ho1 vb hne, hvb]
          rfl)
      (fun j hj => by
        simp only [World.cell?, hWh, hg1]
        simp only [Option.isSome_none, Bool.false_eq_true, if_false]
        rw [Array.getElem?_eq_getElem (by rw [setL_size]; simp at hj; omega)]
        rfl) (fun j hj => by simp [World.frozen?, hWh, hg1]) (by simpa using hsv1)
  have HE : Hid (∀ W : World, W.heap = W1.heap → Below g w W → (W.setCells g i [v]).ownsRow N 22 1 (.slice (some ⟨g, 0, none⟩) (n + 1) cap) (n + 1) (vs.insertIdx i v) ∧ (∀ k, k ≠ g → (W.setCells g i [v]).heap[k]? = w.heap[k]?) ∧ Below g w (W.setCells g i [v])) := fun W hW hbW => by
    refine ⟨⟨by rw [List.length_insertIdx, if_pos (by omega)]; omega, .inr ⟨g, cap, _, rfl, hb, setL_heap g _ [v] W i _ (by rw [hW]; exact hg1), hroom, hm, by rw [setL_size, setL_size]; omega, ?_⟩⟩, fun k hk => (heap_setCells_off g k hk _ _ _).trans (by rw [hW]; exact ho1 k hk), Grd.below_cells (Nat.le_refl _) _ _ _ hbW⟩
    rw [Nat.mul_one]
    exact ins_list cur vs n i v h0 (by omega) (by omega) ht
  have HB1 : Hid (Below g w W1) := hb1
  rw [← hW1] at hcp1
  clear hg ht hs hW1 hcs hcell hfz hvb hvc hg1 ho1 hb1 hsa hsb hv1 hvs hsv hsv1 hdl
  have mixed : Tryd.prog.follows .mixedOrders = true := by kernel_rfl
  have hz2 : ¬ ((i : Int) = (n : Int)) := by omega
  have hw1 : IntKind.i64.wrap ((i : Int) + 1) = (i : Int) + 1 := by rw [IntKind.wrap_i64]; omega
  have hb1 : (0 : Int) ≤ (i : Int) + 1 := by omega
  have htn : ((i : Int) + 1).toNat = i + 1 := by omega
  have hb2 : ¬ (cap = i + 1) := by omega
  have hb3 : (i : Int) ≤ (n : Int) + 1 := by omega
  have hb4 : ¬ (cap = i) := by omega
  have hin : i ≤ n := by omega
  go_enter Tryd.func139, Tryd.ntmps139
  go_wp2_with (simp only [hov])
  go_region_law_o (refine step_copyR rfl _ _ 30 30 rfl _ _ (by simp [Act.eval, Act.put]) (by simp [Act.eval, Act.put]) (hcp1 _ _ _) ?_)
  go_wp2_with (at_builtin; refine wpList_copyR _ rfl _ _ 30 30 rfl _ _ rfl rfl (hcp2 _ rfl _ _) ?_)
  go_ret
  exact ⟨rfl, HE.out _ rfl HB1.out⟩
/-- A row is put in, where there is room. -/
theorem insert_own (N g n cap i vb vc : Nat) (vs : List Value) (v : Value) (w : World) (h : w.ownsRow N 22 1 (.slice (some ⟨g, 0, none⟩) n cap) n vs) (hvs : ∀ u, u ∈ vs → IsSl u) (hsv : IsSl v) (hi : i ≤ n) (hroom : n + 1 ≤ cap) (hvb : w.heap[vb]? = some (.cells #[v] 22 (0, 0))) (hne : vb ≠ g) :
    Calls Tryd.prog 139 #[.slice (some ⟨g, 0, none⟩) n cap, .int .i64 (i : Int), .slice (some ⟨vb, 0, none⟩) 1 vc] w fun e w' => e = .returned (.slice (some ⟨g, 0, none⟩) (n + 1) cap) ∧ w'.ownsRow N 22 1 (.slice (some ⟨g, 0, none⟩) (n + 1) cap) (n + 1) (vs.insertIdx i v) ∧ (∀ k, k ≠ g → w'.heap[k]? = w.heap[k]?) ∧ Below g w w' := by
  rcases Nat.lt_or_eq_of_le hi with hlt | rfl
  · exact insert_shift N g n cap i vb vc vs v w h hvs hsv hlt hroom hvb hne
  · exact insert_end N g i cap vb vc vs v w h hsv hroom (by simp [World.cell?, hvb])
end Put
end Go.Proofs.YtnkeahfcpbepjaaDoor

/- advance; (*sheet.Sheet).Feed. -/
namespace Go.Proofs.YtnkeahfcpbepjaaDoor
open Go.ChangeShapes Go.WideShapes Go.ChangeAt Go.RowKit
namespace Put
open Grd (C)
theorem ShAt.framed {W : World} {M N p i : Nat} {s : Scr} {rows : List (List C)} {v : Value} (h : ShAt 109 W M N p s rows) : Framed W (W.setCell ⟨p, i, none⟩ v) := by
  obtain ⟨cv, tv, gv, rv, gvs, vs, h⟩ := h
  exact Framed.store h.blk not_other_sheet
theorem ShAt.put {W : World} {M N p : Nat} {s s' : Scr} {rows : List (List C)} (h : ShAt 109 W M N p s rows) (i : Nat) (v : Value) (e : ∀ cv tv gv rv, (shA s cv tv gv rv).setIfInBounds i v = shA s' cv tv gv rv) (h1 : s'.tabs = s.tabs) (h2 : s'.gone = s.gone) : ShAt 109 (W.setCell ⟨p, i, none⟩ v) M N p s' rows ∧ Below N W (W.setCell ⟨p, i, none⟩ v) ∧ Framed W (W.setCell ⟨p, i, none⟩ v) := ⟨h.set sheet_is i v e h1 h2, (Below.refl _ _).setCell h.lo _, h.framed⟩
/-- Behind what was written. -/
def advS (s : Scr) (k : Int) : Scr := if s.x + k = s.w then { s with x := s.w - 1, late := hasB s.modes 4 } else { s with x := s.x + k }
set_option maxHeartbeats 2000000 in
theorem advance_any (W : World) (M N p : Nat) (s : Scr) (rows : List (List C)) (k : Int) (hS : ShAt 109 W M N p s rows) (h0 : 0 ≤ s.x) (h1 : s.x ≤ 120) (h2 : 0 ≤ k) (h3 : k ≤ 2) (w1 : 1 ≤ s.w) (w2 : s.w ≤ 120) :
    Calls Tryd.prog 106 #[.pointer (some ⟨p, 0, none⟩), .int .i64 k] W (Ran W M N p (advS s k) rows) := by
  obtain ⟨c0, c1, c3, c4, c5, c9, c10, c11, c19, f⟩ := hS.words
  have f3 := f 3
  obtain ⟨hS1, hB1, hF1⟩ := hS.put 3 (.int .i64 (s.x + k)) (s' := { s with x := s.x + k }) (fun _ _ _ _ => rfl) rfl rfl
  have HE : Hid (advS s k = if s.x + k = s.w then { s with x := s.w - 1, late := hasB s.modes 4 } else { s with x := s.x + k }) := rfl
  generalize advS s k = s' at *
  by_cases heq : s.x + k = s.w
  · have HE2 : Hid (s' = { s with x := s.w - 1, late := hasB s.modes 4 }) := by unfold Hid; rw [HE.out, if_pos heq]
    have hq : (s.x + k == s.w) = true := by rw [beq_iff_eq]; exact heq
    have HQ : Hid (s.x + k = s.w) := heq
    clear heq c1 c4 c5 c9 c10 c11 c19 f HE hS
    have HS1 : Hid (ShAt 109 (W.setCell ⟨p, 3, none⟩ (.int .i64 (s.x + k))) M N p { s with x := s.x + k } rows) := hS1
    have HB1 : Hid _ := hB1
    have HF1 : Hid (Framed W (W.setCell ⟨p, 3, none⟩ (.int .i64 (s.x + k)))) := hF1
    clear hS1 hB1 hF1
    have hwr : IntKind.i64.wrap (s.x + k) = s.x + k := wrap_id _ (by omega) (by omega)
    go_enter Tryd.func106, Tryd.ntmps106
    go_upto_region 1 with fail
    obtain ⟨d0, -, d3, -, -, -, -, -, -, df⟩ := HS1.out.words
    clear c0 c3 f3
    generalize (W.setCell ⟨p, 3, none⟩ (.int .i64 (s.x + k))) = X at *
    go_region
    have HSd : Hid (ShAt 109 X.drew M N p { s with x := s.x + k } rows) := HS1.out.drew
    have HB2 : Hid (Below N W X.drew) := HB1.out.drew
    have HF2 : Hid (Framed W X.drew) := HF1.out.trans (Framed.of_below ((Below.refl _ _).drew))
    obtain ⟨d0, -, d3, -, -, -, -, -, -, df⟩ := HSd.out.words
    have g3 := df 3
    clear HS1 HB1 HF1 df
    generalize X.drew = Y at *
    obtain ⟨hS3, hB3, hF3⟩ := HSd.out.put 3 (.int .i64 (s.w - 1)) (s' := { s with x := s.w - 1 }) (fun _ _ _ _ => rfl) rfl rfl
    have H2 := has_any 4 _ hS3
    obtain ⟨e0, -, e3, -, e5, -, -, -, -, ef⟩ := hS3.words
    obtain ⟨hS4, hB4, hF4⟩ := hS3.put 5 (.bool (hasB s.modes 4)) (s' := { s with x := s.w - 1, late := hasB s.modes 4 }) (fun _ _ _ _ => rfl) rfl rfl
    have HR : Hid (Ran W M N p s' rows (.returned (.tuple #[])) ((Y.setCell ⟨p, 3, none⟩ (.int .i64 (s.w - 1))).setCell ⟨p, 5, none⟩ (.bool (hasB s.modes 4)))) := by
      unfold Hid
      rw [HE2.out]
      exact ⟨rfl, hS4, HB2.out.trans (hB3.trans hB4), HF2.out.trans (hF3.trans hF4)⟩
    have g5 := ef 5
    clear hS3 hB3 hF3 hS4 hB4 hF4 ef e0 e3
    generalize hasB s.modes 4 = hb at *
    go_wp2_with fail
    refine H2.mono ?_
    rintro e V ⟨rfl, hv⟩
    subst hv
    go_wp2_with fail
    go_end0
    exact HR.out
  · have HE2 : Hid (s' = { s with x := s.x + k }) := by unfold Hid; rw [HE.out, if_neg heq]
    have hq : (s.x + k == s.w) = false := by rw [beq_eq_false_iff_ne]; exact heq
    clear heq c1 c4 c5 c9 c10 c11 c19 f HE hS
    have HS1 : Hid (ShAt 109 (W.setCell ⟨p, 3, none⟩ (.int .i64 (s.x + k))) M N p { s with x := s.x + k } rows) := hS1
    have HB1 : Hid _ := hB1
    have HF1 : Hid (Framed W (W.setCell ⟨p, 3, none⟩ (.int .i64 (s.x + k)))) := hF1
    clear hS1 hB1 hF1
    have hwr : IntKind.i64.wrap (s.x + k) = s.x + k := wrap_id _ (by omega) (by omega)
    go_enter Tryd.func106, Tryd.ntmps106
    go_upto_region 1 with fail
    obtain ⟨d0, -, d3, -, -, -, -, -, -, df⟩ := HS1.out.words
    clear c0 c3 f3 df
    generalize (W.setCell ⟨p, 3, none⟩ (.int .i64 (s.x + k))) = X at *
    go_region
    go_wp2_with fail
    go_end0
    rw [HE2.out]
    exact ⟨rfl, HS1.out.drew, HB1.out.drew, HF1.out.trans (Framed.of_below ((Below.refl _ _).drew))⟩
/-- A row further, where nothing rolls. -/
def feedS (s : Scr) : Scr := if s.y < s.h - 1 then { s with late := false, y := s.y + 1 } else { s with late := false }
set_option maxHeartbeats 2000000 in
theorem feed_plain (W : World) (M N p : Nat) (s : Scr) (rows : List (List C)) (hS : ShAt 109 W M N p s rows) (h0 : 0 ≤ s.y) (h1 : s.y ≤ 60) (w1 : 1 ≤ s.h) (w2 : s.h ≤ 60) (hne : s.y ≠ s.bot) :
    Calls Tryd.prog 103 #[.pointer (some ⟨p, 0, none⟩)] W (Ran W M N p (feedS s) rows) := by
  obtain ⟨c0, c1, c3, c4, c5, c9, c10, c11, c19, f⟩ := hS.words
  have f5 := f 5
  obtain ⟨hS1, hB1, hF1⟩ := hS.put 5 (.bool false) (s' := { s with late := false }) (fun _ _ _ _ => rfl) rfl rfl
  have HE : Hid (feedS s = if s.y < s.h - 1 then { s with late := false, y := s.y + 1 } else { s with late := false }) := rfl
  generalize feedS s = s' at *
  have hq : (s.y == s.bot) = false := by rw [beq_eq_false_iff_ne]; exact hne
  have HS1 : Hid (ShAt 109 (W.setCell ⟨p, 5, none⟩ (.bool false)) M N p { s with late := false } rows) := hS1
  have HB1 : Hid _ := hB1
  have HF1 : Hid (Framed W (W.setCell ⟨p, 5, none⟩ (.bool false))) := hF1
  clear hS1 hB1 hF1 hS hne c0 c1 c3 c4 c9 c10 c11 c19 f
  have hwr : IntKind.i64.wrap (s.h - 1) = s.h - 1 := wrap_id _ (by omega) (by omega)
  go_enter Tryd.func103, Tryd.ntmps103
  go_upto_region 1 with fail
  obtain ⟨-, d1, -, d4, -, -, d10, -, -, df⟩ := HS1.out.words
  clear c5 f5 df
  generalize (W.setCell ⟨p, 5, none⟩ (.bool false)) = X at *
  go_region
  have HSd : Hid (ShAt 109 X.drew M N p { s with late := false } rows) := HS1.out.drew
  have HB2 : Hid (Below N W X.drew) := HB1.out.drew
  have HF2 : Hid (Framed W X.drew) := HF1.out.trans (Framed.of_below ((Below.refl _ _).drew))
  clear d1 d4 d10 HS1 HB1 HF1
  generalize X.drew = Y at *
  obtain ⟨-, d1, -, d4, -, -, d10, -, -, df⟩ := HSd.out.words
  clear df
  by_cases hlt : s.y < s.h - 1
  · have HE2 : Hid (s' = { s with late := false, y := s.y + 1 }) := by unfold Hid; rw [HE.out, if_pos hlt]
    go_upto_region 3 with fail
    go_region
    have HSe : Hid (ShAt 109 Y.drew M N p { s with late := false } rows) := HSd.out.drew
    have HB3 : Hid (Below N W Y.drew) := HB2.out.drew
    have HF3 : Hid (Framed W Y.drew) := HF2.out.trans (Framed.of_below ((Below.refl _ _).drew))
    clear d1 d4 d10 HSd HB2 HF2
    generalize Y.drew = Z at *
    obtain ⟨-, d1, -, d4, -, -, d10, -, -, df⟩ := HSe.out.words
    have g4 := df 4
    have hw2 : IntKind.i64.wrap (s.y + 1) = s.y + 1 := wrap_id _ (by omega) (by omega)
    obtain ⟨hS4, hB4, hF4⟩ := HSe.out.put 4 (.int .i64 (s.y + 1)) (s' := { s with late := false, y := s.y + 1 }) (fun _ _ _ _ => rfl) rfl rfl
    have HR : Hid (Ran W M N p s' rows (.returned (.tuple #[])) (Z.setCell ⟨p, 4, none⟩ (.int .i64 (s.y + 1)))) := by
      unfold Hid
      rw [HE2.out]
      exact ⟨rfl, hS4, HB3.out.trans hB4, HF3.out.trans hF4⟩
    clear hS4 hB4 hF4 df
    go_wp2_with fail
    go_end0
    exact HR.out
  · have HE2 : Hid (s' = { s with late := false }) := by unfold Hid; rw [HE.out, if_neg hlt]
    go_upto_region 3 with fail
    go_region
    go_wp2_with fail
    go_end0
    rw [HE2.out]
    exact ⟨rfl, HSd.out.drew, HB2.out.drew, HF2.out.trans (Framed.of_below ((Below.refl _ _).drew))⟩
end Put
end Go.Proofs.YtnkeahfcpbepjaaDoor
