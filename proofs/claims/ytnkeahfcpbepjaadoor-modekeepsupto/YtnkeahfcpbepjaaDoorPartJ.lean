/- A screen out of what the row reads, and how many values it holds. -/
import Derived.Test.YtnkeahfcpbepjaaDoorPartE
import Derived.Test.YtnkeahfcpbepjaaDoorPartF
import Derived.Test.YtnkeahfcpbepjaaDoorPartI
import Derived.Test.YtnkeahfcpbepjaaDoorRows
import Derived.Deep.Slices
import Derived.WalkKit
import Derived.ProofKit
import Derived.OpenShut
import Derived.Deep.LoopGhost
import Derived.Deep.Draws
import Derived.Laws.Rows
import Derived.Laws.Tables
import Derived.Laws.CopyOwn
import Derived.Deep.RegionWith
import Derived.Lib.LaidU8
import Derived.Deep.Strs
import Derived.ChangeSlices
import Derived.SizedLaws
import Derived.Test.YtnkeahfcpbepjaaDoorPartH
namespace Go.Proofs.YtnkeahfcpbepjaaDoor
open Go.ChangeShapes Go.WideShapes Go.ChangeAt Go.RowKit
namespace Put
open Grd (C SliceAt CellsAt CIn i64_in i32_in)
section
variable {H : Type} {enc : TypeId × Value → H} {W : World}
theorem bulk_pos (d : DataW H) : 1 ≤ Rows.uptoBulk d := by
  cases d with
  | lit l => cases l <;> simp [Rows.uptoBulk]
  | _ => simp [Rows.uptoBulk]
theorem bulk_mem {d : DataW H} : ∀ {l : List (DataW H)}, d ∈ l → Rows.uptoBulk d ≤ Rows.uptoBulkAll l
  | x :: l, h => by
    rcases List.mem_cons.1 h with rfl | h
    · simp only [Rows.uptoBulkAll]; omega
    · have := bulk_mem h
      simp only [Rows.uptoBulkAll]; omega
theorem bulk_len : ∀ (l : List (DataW H)), l.length ≤ Rows.uptoBulkAll l
  | [] => by simp
  | x :: l => by
    have := bulk_len l
    have := bulk_pos x
    simp only [Rows.uptoBulkAll, List.length_cons]; omega
theorem trod_struct4 {P : Program} {base : Nat} {spare : Nat → Bool} {held : Bool} {t : TypeId} {f0 f1 f2 f3 : Field} {fuel : Nat} {cs : List Value} {x : DataW H × List MemPlace} (ht : P.underlying t = some (.struct #[f0, f1, f2, f3])) (h : DataW.trod enc P W base spare held fuel t cs = some x) :
    ∃ y0 y1 y2 y3 n, x.1 = .agg [y0.1, y1.1, y2.1, y3.1] ∧ cs.length = P.cellsOf t ∧ DataW.trod enc P W base spare held n f0.type ((cs.drop f0.offset).take (P.cellsOf f0.type)) = some y0 ∧
      DataW.trod enc P W base spare held n f1.type ((cs.drop f1.offset).take (P.cellsOf f1.type)) = some y1 ∧
      DataW.trod enc P W base spare held n f2.type ((cs.drop f2.offset).take (P.cellsOf f2.type)) = some y2 ∧
      DataW.trod enc P W base spare held n f3.type ((cs.drop f3.offset).take (P.cellsOf f3.type)) = some y3 := by
  obtain ⟨xs, n, _, rfl, hl, hlen, hf⟩ := DataW.trod_struct ht h
  match xs, hlen with
  | [y0, y1, y2, y3], _ => exact ⟨y0, y1, y2, y3, n, by simp, hl, by simpa using hf 0 f0 rfl, by simpa using hf 1 f1 rfl, by simpa using hf 2 f2 rfl, by simpa using hf 3 f3 rfl⟩
theorem trod_struct13 {P : Program} {base : Nat} {spare : Nat → Bool} {held : Bool} {t : TypeId} {f0 f1 f2 f3 f4 f5 f6 f7 f8 f9 f10 f11 f12 : Field} {fuel : Nat} {cs : List Value} {x : DataW H × List MemPlace} (ht : P.underlying t = some (.struct #[f0, f1, f2, f3, f4, f5, f6, f7, f8, f9, f10, f11, f12])) (h : DataW.trod enc P W base spare held fuel t cs = some x) :
    ∃ y0 y1 y2 y3 y4 y5 y6 y7 y8 y9 y10 y11 y12 n, x.1 = .agg [y0.1, y1.1, y2.1, y3.1, y4.1, y5.1, y6.1, y7.1, y8.1, y9.1, y10.1, y11.1, y12.1] ∧ cs.length = P.cellsOf t ∧ DataW.trod enc P W base spare held n f0.type ((cs.drop f0.offset).take (P.cellsOf f0.type)) = some y0 ∧
      DataW.trod enc P W base spare held n f1.type ((cs.drop f1.offset).take (P.cellsOf f1.type)) = some y1 ∧
      DataW.trod enc P W base spare held n f2.type ((cs.drop f2.offset).take (P.cellsOf f2.type)) = some y2 ∧
      DataW.trod enc P W base spare held n f3.type ((cs.drop f3.offset).take (P.cellsOf f3.type)) = some y3 ∧
      DataW.trod enc P W base spare held n f4.type ((cs.drop f4.offset).take (P.cellsOf f4.type)) = some y4 ∧
      DataW.trod enc P W base spare held n f5.type ((cs.drop f5.offset).take (P.cellsOf f5.type)) = some y5 ∧
      DataW.trod enc P W base spare held n f6.type ((cs.drop f6.offset).take (P.cellsOf f6.type)) = some y6 ∧
      DataW.trod enc P W base spare held n f7.type ((cs.drop f7.offset).take (P.cellsOf f7.type)) = some y7 ∧
      DataW.trod enc P W base spare held n f8.type ((cs.drop f8.offset).take (P.cellsOf f8.type)) = some y8 ∧
      DataW.trod enc P W base spare held n f9.type ((cs.drop f9.offset).take (P.cellsOf f9.type)) = some y9 ∧
      DataW.trod enc P W base spare held n f10.type ((cs.drop f10.offset).take (P.cellsOf f10.type)) = some y10 ∧
      DataW.trod enc P W base spare held n f11.type ((cs.drop f11.offset).take (P.cellsOf f11.type)) = some y11 ∧
      DataW.trod enc P W base spare held n f12.type ((cs.drop f12.offset).take (P.cellsOf f12.type)) = some y12 := by
  obtain ⟨xs, n, _, rfl, hl, hlen, hf⟩ := DataW.trod_struct ht h
  match xs, hlen with
  | [y0, y1, y2, y3, y4, y5, y6, y7, y8, y9, y10, y11, y12], _ => exact ⟨y0, y1, y2, y3, y4, y5, y6, y7, y8, y9, y10, y11, y12, n, by simp, hl, by simpa using hf 0 f0 rfl, by simpa using hf 1 f1 rfl, by simpa using hf 2 f2 rfl, by simpa using hf 3 f3 rfl, by simpa using hf 4 f4 rfl, by simpa using hf 5 f5 rfl, by simpa using hf 6 f6 rfl, by simpa using hf 7 f7 rfl, by simpa using hf 8 f8 rfl, by simpa using hf 9 f9 rfl, by simpa using hf 10 f10 rfl, by simpa using hf 11 f11 rfl, by simpa using hf 12 f12 rfl⟩
theorem cells_bulk {cs : List C} {d : DataW H} (h : cs = [] ∨ ∃ elems sp, d = .slice elems sp ∧ cs.length = elems.length) : cs.length ≤ Rows.uptoBulk d := by
  rcases h with rfl | ⟨el, sp, rfl, hl⟩
  · simp
  · have := bulk_len el
    rw [hl]
    simp only [Rows.uptoBulk]
    omega
/-- A slice of bools. -/
theorem open_bools {fuel : Nat} {v : Value} {y : DataW H × List MemPlace} (h : DataW.trod enc Tryd.prog W 0 (fun _ => true) true fuel 27 [v] = some y) :
    ∃ l : List Bool, BoolsV W v l ∧ l.length ≤ Rows.uptoBulk y.1 := by
  rcases Deep.open_slice und_bools h with ⟨hcs, _⟩ | ⟨a, len, cap, m, n, D, Pl, hcs, _, hl, hm, hmm, rfl, hx⟩
  · simp at hcs
    subst hcs
    exact ⟨[], .inl ⟨rfl, _, _, rfl⟩, by simp⟩
  · simp at hcs
    subst hcs
    simp only [if_true] at hmm
    rw [show Tryd.prog.cellsOf 4 = 1 by kernel_rfl] at hx
    obtain ⟨f, hf⟩ := Deep.choose_lt (α := Bool) (p := fun i c => W.cell? ((a.add (i * 1)).add 0) = some (.bool c)) (n := len) (fun i hi => by
      obtain ⟨cs', h1, h2⟩ := hx i (by omega)
      obtain ⟨_, _, hc⟩ := World.cells?_some h1
      obtain ⟨c, rfl, _⟩ := DataW.trod_bool Tryd.underlying4 h2
      exact ⟨c, hc 0 (by omega)⟩)
    have hlen : ((List.range len).map f).length = len := by simp
    refine ⟨(List.range len).map f, ?_, ?_⟩
    · by_cases h0 : len = 0
      · subst h0
        exact .inl ⟨by simp, _, _, rfl⟩
      · obtain ⟨b, off, spot⟩ := a
        have hspot : spot = none := by
          have := hf 0 (by omega)
          simpa [Addr.add] using World.cell?_spot this
        subst hspot
        refine .inr ⟨b, off, cap, by rw [hlen], by rw [hlen]; omega, by unfold maxLen at hm; omega, fun j hj => ?_⟩
        rw [hlen] at hj
        have hg : ((List.range len).map f).getD j false = f j := by simp [List.getD, hj]
        rw [hg]
        have hc := hf j hj
        rw [add_plain, add_plain] at hc
        simpa using hc
    · rw [hlen]
      have h := bulk_len ((List.range len).map D)
      rw [List.length_map, List.length_range] at h
      simp only [Rows.uptoBulk]
      omega
/-- A slice of rows. -/
theorem open_rows {fuel : Nat} {v : Value} {y : DataW H × List MemPlace} (h : DataW.trod enc Tryd.prog W 0 (fun _ => true) true fuel 30 [v] = some y) :
    ∃ l : List (List C), RowsV W v l ∧ l.length ≤ Rows.uptoBulk y.1 ∧ ∀ row ∈ l, row.length ≤ Rows.uptoBulk y.1 := by
  rcases Deep.open_slice und_rows h with ⟨hcs, _⟩ | ⟨a, len, cap, m, n, D, Pl, hcs, _, hl, hm, hmm, rfl, hx⟩
  · simp at hcs
    subst hcs
    exact ⟨[], .inl ⟨rfl, _, _, rfl⟩, by simp, by simp⟩
  · simp at hcs
    subst hcs
    simp only [if_true] at hmm
    rw [show Tryd.prog.cellsOf 22 = 1 by kernel_rfl] at hx
    obtain ⟨f, hf⟩ := Deep.choose_lt (α := List C) (p := fun i row => ∃ rv, W.cell? ((a.add (i * 1)).add 0) = some rv ∧ SliceAt W rv row ∧ row.length ≤ Rows.uptoBulk (D i)) (n := len) (fun i hi => by
      obtain ⟨cs', h1, h2⟩ := hx i (by omega)
      obtain ⟨hlen1, _, hc⟩ := World.cells?_some h1
      match cs', hlen1 with
      | [rv], _ =>
        obtain ⟨row, hs, -, hb⟩ := Grd.open_cells h2
        exact ⟨row, rv, hc 0 (by omega), hs, cells_bulk hb⟩)
    have hlen : ((List.range len).map f).length = len := by simp
    refine ⟨(List.range len).map f, ?_, ?_, ?_⟩
    · by_cases h0 : len = 0
      · subst h0
        exact .inl ⟨by simp, _, _, rfl⟩
      · obtain ⟨b, off, spot⟩ := a
        have hspot : spot = none := by
          obtain ⟨rv, hc, -⟩ := hf 0 (by omega)
          simpa [Addr.add] using World.cell?_spot hc
        subst hspot
        refine .inr ⟨b, off, cap, by rw [hlen], by rw [hlen]; omega, by unfold maxLen at hm; omega, fun j hj => ?_⟩
        rw [hlen] at hj
        have hg : ((List.range len).map f).getD j [] = f j := by simp [List.getD, hj]
        rw [hg]
        obtain ⟨rv, hc, hs, -⟩ := hf j hj
        rw [add_plain, add_plain] at hc
        exact ⟨rv, by simpa using hc, hs⟩
    · rw [hlen]
      have h := bulk_len ((List.range len).map D)
      rw [List.length_map, List.length_range] at h
      simp only [Rows.uptoBulk]
      omega
    · intro row hrow
      simp only [List.mem_map, List.mem_range] at hrow
      obtain ⟨i, hi, rfl⟩ := hrow
      obtain ⟨rv, -, -, hb⟩ := hf i hi
      have h1 : Rows.uptoBulk (D i) ≤ Rows.uptoBulkAll ((List.range len).map D) := bulk_mem (List.mem_map.2 ⟨i, List.mem_range.2 hi, rfl⟩)
      simp only [Rows.uptoBulk]
      omega
set_option maxRecDepth 100000 in
theorem open_kept {fuel : Nat} {vs : List Value} {y : DataW H × List MemPlace} (h : DataW.trod enc Tryd.prog W 0 (fun _ => true) true fuel 29 vs = some y) :
    ∃ x y' f b c m : Int, vs = [.int .i64 x, .int .i64 y', .int .i64 f, .int .i64 b, .int .i64 c, .int .i64 m] ∧ (-9223372036854775808 ≤ m ∧ m ≤ 9223372036854775807) := by
  obtain ⟨y0, y1, y2, y3, n, -, hl, e0, e1, e2, e3⟩ := trod_struct4 Tryd.underlying29 h
  rw [show Tryd.prog.cellsOf 29 = 6 by kernel_rfl] at hl
  match vs, hl with
  | [v0, v1, v2, v3, v4, v5], _ =>
    simp only [show Tryd.prog.cellsOf 3 = 1 by kernel_rfl, show Tryd.prog.cellsOf 26 = 3 by kernel_rfl] at e0 e1 e2 e3
    obtain ⟨a0, k0, _, w0⟩ := DataW.trod_int Tryd.underlying3 e0
    obtain ⟨a1, k1, _, w1⟩ := DataW.trod_int Tryd.underlying3 e1
    obtain ⟨f, b, x, k2, -⟩ := Grd.open_style e2
    obtain ⟨a3, k3, _, w3⟩ := DataW.trod_int Tryd.underlying3 e3
    obtain rfl : v0 = _ := by simpa using k0
    obtain rfl : v1 = _ := by simpa using k1
    obtain ⟨rfl, rfl, rfl⟩ : v2 = _ ∧ v3 = _ ∧ v4 = _ := by simpa using k2
    obtain rfl : v5 = _ := by simpa using k3
    exact ⟨a0, a1, f, b, x, a3, rfl, i64_in w3⟩
set_option maxRecDepth 100000 in
theorem open_grid3 {fuel : Nat} {vs : List Value} {y : DataW H × List MemPlace} (h : DataW.trod enc Tryd.prog W 0 (fun _ => true) true fuel 24 vs = some y) :
    ∃ (a b : Int) (u : Value) (cs : List C), vs = [.int .i64 a, .int .i64 b, u] ∧ SliceAt W u cs ∧ cs.length ≤ Rows.uptoBulk y.1 := by
  obtain ⟨y0, y1, y2, n, hy, hl, e0, e1, e2⟩ := Deep.trod_struct3 Tryd.underlying24 h
  rw [show Tryd.prog.cellsOf 24 = 3 by kernel_rfl] at hl
  match vs, hl with
  | [v0, v1, v2], _ =>
    simp only [show Tryd.prog.cellsOf 3 = 1 by kernel_rfl, show Tryd.prog.cellsOf 22 = 1 by kernel_rfl] at e0 e1 e2
    obtain ⟨a0, k0, _, w0⟩ := DataW.trod_int Tryd.underlying3 e0
    obtain ⟨a1, k1, _, w1⟩ := DataW.trod_int Tryd.underlying3 e1
    obtain ⟨cs, hs, -, hb⟩ := Grd.open_cells (show DataW.trod enc Tryd.prog W 0 (fun _ => true) true n 22 [v2] = some y2 from e2)
    obtain rfl : v0 = _ := by simpa using k0
    obtain rfl : v1 = _ := by simpa using k1
    refine ⟨a0, a1, v2, cs, rfl, hs, ?_⟩
    have h1 := cells_bulk hb
    rw [hy]
    simp only [Rows.uptoBulk, Rows.uptoBulkAll]
    omega
set_option maxRecDepth 100000 in
set_option maxHeartbeats 1000000 in
theorem open_screen {r : Reach} {b0 : Nat} {v : Value} {d : DataW H} {p : List MemPlace} (hv : Value.okWide Tryd.prog W r b0 32 v) (h : DataW.Trod enc Tryd.prog W 0 (fun _ => true) true 32 v d p) :
    ∃ (s : Scr) (cv tv gv : Value), v = .agg (scrA s cv tv gv) ∧ ScrV W s cv tv gv ∧ ((-9223372036854775808 ≤ s.modes ∧ s.modes ≤ 9223372036854775807) ∧ (-9223372036854775808 ≤ s.km ∧ s.km ≤ 9223372036854775807) ∧ (-2147483648 ≤ s.last ∧ s.last ≤ 2147483647)) ∧ s.title.size ≤ Rows.uptoBulk d ∧ s.gone.length ≤ Rows.uptoBulk d ∧ s.tabs.length ≤ Rows.uptoBulk d ∧ s.cs.length ≤ Rows.uptoBulk d ∧ ∀ row ∈ s.gone, row.length ≤ Rows.uptoBulk d := by
  obtain ⟨cs, rfl, hsz⟩ := okWide_struct Tryd.underlying32 hv
  obtain ⟨fuel, hf⟩ := h
  obtain ⟨y0, y1, y2, y3, y4, y5, y6, y7, y8, y9, y10, y11, y12, n, hx, hl, h0, h1, h2, h3, h4, h5, h6, h7, h8, h9, h10, h11, h12⟩ := trod_struct13 Tryd.underlying32 hf
  rw [show Tryd.prog.cellsOf 32 = 22 by kernel_rfl] at hl
  obtain ⟨l⟩ := cs
  match l, hl with
  | [c0, c1, c2, c3, c4, c5, c6, c7, c8, c9, c10, c11, c12, c13, c14, c15, c16, c17, c18, c19, c20, c21], _ =>
    simp only [show Tryd.prog.cellsOf 3 = 1 by kernel_rfl, show Tryd.prog.cellsOf 21 = 1 by kernel_rfl, show Tryd.prog.cellsOf 9 = 1 by kernel_rfl, show Tryd.prog.cellsOf 4 = 1 by kernel_rfl, show Tryd.prog.cellsOf 27 = 1 by kernel_rfl, show Tryd.prog.cellsOf 30 = 1 by kernel_rfl, show Tryd.prog.cellsOf 24 = 3 by kernel_rfl, show Tryd.prog.cellsOf 26 = 3 by kernel_rfl, show Tryd.prog.cellsOf 29 = 6 by kernel_rfl, Value.cells] at h0 h1 h2 h3 h4 h5 h6 h7 h8 h9 h10 h11 h12
    obtain ⟨a0, a1, u, gcs, k0, hs0, hb0⟩ := open_grid3 h0
    obtain ⟨a3, k1, _, w1⟩ := DataW.trod_int Tryd.underlying3 h1
    obtain ⟨a4, k2, _, w2⟩ := DataW.trod_int Tryd.underlying3 h2
    obtain ⟨a5, k3, _⟩ := DataW.trod_bool Tryd.underlying4 h3
    obtain ⟨f, b, x, k4, -⟩ := Grd.open_style h4
    obtain ⟨a9, k5, _, w5⟩ := DataW.trod_int Tryd.underlying3 h5
    obtain ⟨a10, k6, _, w6⟩ := DataW.trod_int Tryd.underlying3 h6
    obtain ⟨a11, k7, _, w7⟩ := DataW.trod_int Tryd.underlying3 h7
    obtain ⟨tl, hs8, hb8⟩ := open_bools (show DataW.trod enc Tryd.prog W 0 (fun _ => true) true n 27 [c12] = some y8 from h8)
    obtain ⟨b13, b14, b15, b16, b17, b18, k9, w9⟩ := open_kept h9
    obtain ⟨a19, k10, _, w10⟩ := DataW.trod_int Tryd.underlying21 h10
    obtain ⟨a20, k11, g11, w11⟩ := DataW.trod_string Tryd.underlying9 h11
    obtain ⟨gl, hs12, hb12, hr12⟩ := open_rows (show DataW.trod enc Tryd.prog W 0 (fun _ => true) true n 30 [c21] = some y12 from h12)
    obtain ⟨rfl, rfl, rfl⟩ : c0 = _ ∧ c1 = _ ∧ c2 = _ := by simpa using k0
    obtain rfl : c3 = _ := by simpa using k1
    obtain rfl : c4 = _ := by simpa using k2
    obtain rfl : c5 = _ := by simpa using k3
    obtain ⟨rfl, rfl, rfl⟩ : c6 = _ ∧ c7 = _ ∧ c8 = _ := by simpa using k4
    obtain rfl : c9 = _ := by simpa using k5
    obtain rfl : c10 = _ := by simpa using k6
    obtain rfl : c11 = _ := by simpa using k7
    obtain ⟨rfl, rfl, rfl, rfl, rfl, rfl⟩ : c13 = _ ∧ c14 = _ ∧ c15 = _ ∧ c16 = _ ∧ c17 = _ ∧ c18 = _ := by simpa using k9
    obtain rfl : c19 = _ := by simpa using k10
    obtain rfl : c20 = _ := by simpa using k11
    have hb : Rows.uptoBulk d = Rows.uptoBulk y0.1 + (Rows.uptoBulk y1.1 + (Rows.uptoBulk y2.1 + (Rows.uptoBulk y3.1 + (Rows.uptoBulk y4.1 + (Rows.uptoBulk y5.1 + (Rows.uptoBulk y6.1 + (Rows.uptoBulk y7.1 + (Rows.uptoBulk y8.1 + (Rows.uptoBulk y9.1 + (Rows.uptoBulk y10.1 + (Rows.uptoBulk y11.1 + (Rows.uptoBulk y12.1 + 0)))))))))))) + 1 := by
      rw [show d = _ from hx]
      simp only [Rows.uptoBulk, Rows.uptoBulkAll]
    have b11 : Rows.uptoBulk y11.1 = a20.data.toList.length + 1 := by rw [g11]; simp only [Rows.uptoBulk]
    have s11 : a20.size = a20.data.toList.length := by rw [Array.length_toList]; rfl
    exact ⟨⟨a0, a1, gcs, a3, a4, a5, f, b, x, a9, a10, a11, tl, b13, b14, b15, b16, b17, b18, a19, a20, gl⟩, c2, c12, c21, rfl, ⟨hs0, hs8, hs12⟩, ⟨i64_in w7, w9, i32_in w10⟩, by show a20.size ≤ _; omega, by show gl.length ≤ _; omega, by show tl.length ≤ _; omega, by show gcs.length ≤ _; omega, fun row hrow => by have := hr12 row hrow; omega⟩
theorem fits_of {s : Scr} {k : Nat} (h : (-9223372036854775808 ≤ s.modes ∧ s.modes ≤ 9223372036854775807) ∧ (-9223372036854775808 ≤ s.km ∧ s.km ≤ 9223372036854775807) ∧ (-2147483648 ≤ s.last ∧ s.last ≤ 2147483647)) (h1 : s.title.size ≤ k) (h2 : s.gone.length ≤ k) (h3 : s.tabs.length ≤ k) (hk : k ≤ 1048576) : Fits s := ⟨h.1.1, h.1.2, h.2.1.1, h.2.1.2, by omega, by omega, by omega⟩
end
end Put
end Go.Proofs.YtnkeahfcpbepjaaDoor

/- The walks of the small functions of package style. -/
namespace Go.Proofs.YtnkeahfcpbepjaaDoor
open Go.ChangeShapes Go.WideShapes Go.ChangeAt Go.RowKit
namespace Stl

def looks : List (Int × Int × Int) := [(1, 22, 1), (2, 22, 2), (3, 23, 4), (4, 24, 8), (5, 25, 16), (7, 27, 32), (9, 29, 64)]
def cell3 (x : Int × Int × Int) : List Value := [.int .i64 x.1, .int .i64 x.2.1, .int .i64 x.2.2]
def lookCells : Array Value := (looks.flatMap cell3).toArray
def Tab (w : World) : Prop := ∃ (t : TypeId) (fr : Nat × Nat), w.heap[3]? = some (.cells lookCells t fr)
theorem Tab.below {B : Nat} {w w' : World} (h : Tab w) (hb : Below B w w') (hB : 3 < B) : Tab w' := by
  unfold Tab at h ⊢
  rw [hb.block _ hB]; exact h
theorem Tab.pos {w : World} (h : Tab w) : 3 < w.heap.size := by
  obtain ⟨t, fr, h⟩ := h
  have := (Array.getElem?_eq_some_iff.1 h).1
  omega
theorem looks_at (k : Nat) (hk : k < 7) : ∃ a b c : Int, looks.drop k = (a, b, c) :: looks.drop (k + 1) ∧ a < b ∧
    ∀ wr : World, (Instr.index 169 (.agg lookCells) (.int .i64 (k : Int))).run Tryd.prog wr = .ok (.agg #[.int .i64 a, .int .i64 b, .int .i64 c]) wr := by
  have : k = 0 ∨ k = 1 ∨ k = 2 ∨ k = 3 ∨ k = 4 ∨ k = 5 ∨ k = 6 := by omega
  rcases this with rfl | rfl | rfl | rfl | rfl | rfl | rfl <;>
    exact ⟨_, _, _, rfl, by decide, fun wr => by kernel_rfl⟩

/-- One entry of the table, at the number n. -/
def step (n : Int) (y : Int) (k : Int × Int × Int) : Int :=
  if n = k.2.1 then bits .andNot .i64 (if n = k.1 then bits .or .i64 y k.2.2 else y) k.2.2 else if n = k.1 then bits .or .i64 y k.2.2 else y
def sc (n : Int) : Int × Bool := if 30 ≤ n ∧ n ≤ 37 then (n - 29, true) else if n = 39 then (0, true) else if 90 ≤ n ∧ n ≤ 97 then (n - 81, true) else (0, false)
/-- What one number makes of a style. -/
def one (s : Int × Int × Int) (n : Int) : Int × Int × Int :=
  if n ≤ 0 then (0, 0, 0)
  else (if (sc n).2 then (sc n).1 else s.1, if (sc (n - 10)).2 then (sc (n - 10)).1 else s.2.1, looks.foldl (step n) s.2.2)
def stv (s : Int × Int × Int) : Value := .agg #[.int .i64 s.1, .int .i64 s.2.1, .int .i64 s.2.2]

set_option maxRecDepth 100000 in
theorem short_any (n : Int) (w : World) :
    Calls Tryd.prog 148 #[.int .i64 n] w fun e w' => e = .returned (.tuple #[.int .i64 (sc n).1, .bool (sc n).2]) ∧ w = w' := by
  unfold sc
  by_cases h1 : 30 ≤ n ∧ n ≤ 37
  · rw [if_pos h1]
    obtain ⟨h1a, h1b⟩ := h1
    go_enter Tryd.func148, Tryd.ntmps148
    go_wp2
    go_ret2
    exact ⟨rfl, rfl⟩
  · rw [if_neg h1]
    by_cases h2 : n = 39
    · subst h2
      go_enter Tryd.func148, Tryd.ntmps148
      go_wp2
      go_ret2
      exact ⟨rfl, rfl⟩
    · rw [if_neg h2]
      by_cases h3 : 90 ≤ n ∧ n ≤ 97
      · rw [if_pos h3]
        obtain ⟨h1a, h1b⟩ := h3
        go_enter Tryd.func148, Tryd.ntmps148
        go_wp2
        go_ret2
        exact ⟨rfl, rfl⟩
      · rw [if_neg h3]
        go_enter Tryd.func148, Tryd.ntmps148
        go_wp2
        all_goals (first | omega | skip)
        all_goals (go_ret2; exact ⟨rfl, rfl⟩)

theorem one3 (a b c : Int) : (#[Value.int .i64 a, .int .i64 b, .int .i64 c] : Array Value).all (·.oneCell') = true := by simp [Value.oneCell']
theorem cells_of {w : World} {g : Nat} {t : TypeId} {a b c : Value} (h : w.heap[g]? = some (.cells #[a, b, c] t (0, 0))) :
    w.cell? ⟨g, 0, none⟩ = some a ∧ w.cell? ⟨g, 1, none⟩ = some b ∧ w.cell? ⟨g, 2, none⟩ = some c ∧ (∀ i, w.frozen? ⟨g, i, none⟩ = false) := by
  refine ⟨by simp [World.cell?, h], by simp [World.cell?, h], by simp [World.cell?, h], fun i => by simp [World.frozen?, h]⟩

set_option maxHeartbeats 1000000 in
set_option maxRecDepth 100000 in
theorem one_pos (f b x n : Int) (w : World) (hT : Tab w) (h0 : 0 < n) (hn : n ≤ 9223372036854775807) :
    Calls Tryd.prog 129 #[.agg #[.int .i64 f, .int .i64 b, .int .i64 x], .int .i64 n] w fun e w' => e = .returned (stv (one (f, b, x) n)) ∧ Below w.heap.size w w' := by
  obtain ⟨tt, fr, hT⟩ := hT
  have HT : Hid (w.heap[3]? = some (.cells lookCells tt fr)) := hT
  have HT2 : Hid (∀ o1 o2, ((w.alloc o1).alloc o2).heap[3]? = some (.cells lookCells tt fr)) := fun o1 o2 => by
    have hp := (Array.getElem?_eq_some_iff.1 hT).1
    rw [Below.heap_alloc _ _ _ (by first | (simp; done) | (simp; omega)), Below.heap_alloc _ _ _ hp]; exact hT
  have HP : 3 < w.heap.size := (Array.getElem?_eq_some_iff.1 hT).1
  clear hT
  go_enter Tryd.func129, Tryd.ntmps129
  go_wp2_with (refine wpList_load_row rfl 169 (.global 3) rfl 3 rfl _ lookCells _ _ (HT2.out _ _) Tryd.underlying169 rfl (by kernel_rfl) ?_)
  go_loopg [15] 7 (fun g s wr => ∃ (k : Nat) (y : Int), k ≤ 7 ∧ 7 - k ≤ g ∧ s = .int .i64 k ∧ Below w.heap.size w wr ∧ w.heap.size + 2 ≤ wr.heap.size ∧ wr.heap[w.heap.size]? = some (.cells #[.int .i64 f, .int .i64 b, .int .i64 y] 26 (0, 0)) ∧ wr.heap[w.heap.size + 1]? = some (.cells #[.int .i64 0, .int .i64 0, .int .i64 0] 26 (0, 0)) ∧ (looks.drop k).foldl (step n) y = looks.foldl (step n) x)
  case atStart => exact ⟨0, x, by omega, by omega, rfl, ((Below.refl _ _).alloc (Nat.le_refl _) _).alloc (by simp) _, by simp, (Below.heap_alloc _ _ _ (by simp)).trans (heap_alloc_new _ _), by simpa using heap_alloc_new (w.alloc _) _, rfl⟩
  case round =>
    obtain ⟨k, y, hk, hg, rfl, hb, hsz, hv, hr, hl⟩ := hrel
    by_cases hlt : k < 7
    · obtain ⟨a, o, c, hd, hao, hi⟩ := looks_at k hlt
      have HD : Hid (looks.drop k = (a, o, c) :: looks.drop (k + 1)) := hd
      clear hd
      have hi := hi wr
      have hK : (wr.alloc (.cells #[.int .i64 a, .int .i64 o, .int .i64 c] 168)).heap[w.heap.size]? = some (.cells #[.int .i64 f, .int .i64 b, .int .i64 y] 26 (0, 0)) := (Below.heap_alloc _ _ _ (by omega)).trans hv
      have hKr : (wr.alloc (.cells #[.int .i64 a, .int .i64 o, .int .i64 c] 168)).heap[w.heap.size + 1]? = some (.cells #[.int .i64 0, .int .i64 0, .int .i64 0] 26 (0, 0)) := (Below.heap_alloc _ _ _ (by omega)).trans hr
      have hc2 : (wr.alloc (.cells #[.int .i64 a, .int .i64 o, .int .i64 c] 168)).cell? ⟨w.heap.size, 2, none⟩ = some (.int .i64 y) := by simp [World.cell?, hK]
      have hf2 : (wr.alloc (.cells #[.int .i64 a, .int .i64 o, .int .i64 c] 168)).frozen? ⟨w.heap.size, 2, none⟩ = false := by simp [World.frozen?, hK]
      have hne : w.heap.size ≠ wr.heap.size := by omega
      have HL : Hid ((looks.drop k).foldl (step n) y = looks.foldl (step n) x) := hl
      clear hl
      have hbK := hb.alloc (by omega) (.cells #[.int .i64 a, .int .i64 o, .int .i64 c] 168)
      by_cases hna : n = a
      · have hno : n ≠ o := by omega
        have HS : Hid (step n y (a, o, c) = bits .or .i64 y c) := by unfold Hid step; rw [if_neg hno, if_pos hna]
        go_wp2_with fail
        go_roundg (7 - (k + 1))
        case measure => omega
        case rel => exact ⟨k + 1, bits .or .i64 y c, by omega, by omega, by go_num, hbK.setCell (Nat.le_refl _) _, by simp; omega, heap_setCell_same _ _ _ _ _ _ hK, (heap_setCell_other _ _ _ _ (by simp)).trans hKr, by rw [← HL.out, HD.out, List.foldl_cons, HS.out]⟩
      · by_cases hno : n = o
        · have HS : Hid (step n y (a, o, c) = bits .andNot .i64 y c) := by unfold Hid step; rw [if_pos hno, if_neg hna]
          go_wp2_with fail
          go_roundg (7 - (k + 1))
          case measure => omega
          case rel => exact ⟨k + 1, bits .andNot .i64 y c, by omega, by omega, by go_num, hbK.setCell (Nat.le_refl _) _, by simp; omega, heap_setCell_same _ _ _ _ _ _ hK, (heap_setCell_other _ _ _ _ (by simp)).trans hKr, by rw [← HL.out, HD.out, List.foldl_cons, HS.out]⟩
        · have HS : Hid (step n y (a, o, c) = y) := by unfold Hid step; rw [if_neg hno, if_neg hna]
          go_wp2_with fail
          go_roundg (7 - (k + 1))
          case measure => omega
          case rel => exact ⟨k + 1, y, by omega, by omega, by go_num, hbK, by simp; omega, hK, hKr, by rw [← HL.out, HD.out, List.foldl_cons, HS.out]⟩
    · have hk7 : k = 7 := by omega
      subst hk7
      have HL : Hid (y = looks.foldl (step n) x) := hl
      clear hl
      obtain ⟨c0, c1, c2, cf⟩ := cells_of hv
      have f0 := cf 0
      have f1 := cf 1
      by_cases h1 : (sc n).2 = true
      · by_cases h2 : (sc (n - 10)).2 = true
        · exfalso
          revert h1 h2
          unfold sc
          repeat' split
          all_goals first | (intro a b; cases a; done) | (intro a b; cases b; done) | omega
        · have h2 : (sc (n - 10)).2 = false := by simpa using h2
          have HE : Hid (one (f, b, x) n = ((sc n).1, b, y)) := by unfold Hid one; rw [if_neg (by omega), h1, h2, HL.out]; rfl
          have hv1 := heap_setCell_same wr w.heap.size 0 _ _ (.int .i64 (sc n).1) hv
          have hr1 := (heap_setCell_other wr ⟨w.heap.size, 0, none⟩ (w.heap.size + 1) (.int .i64 (sc n).1) (by simp)).trans hr
          have hb1 := hb.setCell (p := ⟨w.heap.size, 0, none⟩) (Nat.le_refl _) (.int .i64 (sc n).1)
          go_wp2_with (first | (go_at_call 148; refine (short_any _ _).mono ?_; rintro e W1 ⟨rfl, rfl⟩) | (refine wpList_load_row rfl 26 (.tmp 2) rfl w.heap.size rfl _ _ _ _ hv1 Tryd.underlying26 rfl (by kernel_rfl) ?_) | (refine wpList_store_row rfl 26 (.tmp 4) (.tmp 56) rfl (w.heap.size + 1) #[.int .i64 ((sc n).1), .int .i64 b, .int .i64 y] rfl rfl _ _ hr1 (by kernel_rfl) rfl (one3 _ _ _) ?_))
          (try simp only [Exit.inBlock, Exit.then])
          refine bodyPost_ret (v := stv (one (f, b, x) n)) ?_ rfl ⟨rfl, below_setRow hb1 (by omega) _⟩
          rw [HE.out]
          exact results_cell_row rfl _ _ (w.heap.size + 1) _ _ _ _ rfl (setRow_heap _ _ _ _ _ _ hr1) Tryd.underlying26 rfl (by kernel_rfl)
      · have h1 : (sc n).2 = false := by simpa using h1
        by_cases h2 : (sc (n - 10)).2 = true
        · have HE : Hid (one (f, b, x) n = (f, (sc (n - 10)).1, y)) := by unfold Hid one; rw [if_neg (by omega), h1, h2, HL.out]; rfl
          have hv2 := heap_setCell_same wr w.heap.size 1 _ _ (.int .i64 (sc (n - 10)).1) hv
          have hr2 := (heap_setCell_other wr ⟨w.heap.size, 1, none⟩ (w.heap.size + 1) (.int .i64 (sc (n - 10)).1) (by simp)).trans hr
          have hb2 := hb.setCell (p := ⟨w.heap.size, 1, none⟩) (Nat.le_refl _) (.int .i64 (sc (n - 10)).1)
          go_wp2_with (first | (go_at_call 148; refine (short_any _ _).mono ?_; rintro e W1 ⟨rfl, rfl⟩) | (refine wpList_load_row rfl 26 (.tmp 2) rfl w.heap.size rfl _ _ _ _ hv2 Tryd.underlying26 rfl (by kernel_rfl) ?_) | (refine wpList_store_row rfl 26 (.tmp 4) (.tmp 56) rfl (w.heap.size + 1) #[.int .i64 f, .int .i64 ((sc (n - 10)).1), .int .i64 y] rfl rfl _ _ hr2 (by kernel_rfl) rfl (one3 _ _ _) ?_))
          (try simp only [Exit.inBlock, Exit.then])
          refine bodyPost_ret (v := stv (one (f, b, x) n)) ?_ rfl ⟨rfl, below_setRow hb2 (by omega) _⟩
          rw [HE.out]
          exact results_cell_row rfl _ _ (w.heap.size + 1) _ _ _ _ rfl (setRow_heap _ _ _ _ _ _ hr2) Tryd.underlying26 rfl (by kernel_rfl)
        · have h2 : (sc (n - 10)).2 = false := by simpa using h2
          have HE : Hid (one (f, b, x) n = (f, b, y)) := by unfold Hid one; rw [if_neg (by omega), h1, h2, HL.out]; rfl
          go_wp2_with (first | (go_at_call 148; refine (short_any _ _).mono ?_; rintro e W1 ⟨rfl, rfl⟩) | (refine wpList_load_row rfl 26 (.tmp 2) rfl w.heap.size rfl _ _ _ _ hv Tryd.underlying26 rfl (by kernel_rfl) ?_) | (refine wpList_store_row rfl 26 (.tmp 4) (.tmp 56) rfl (w.heap.size + 1) #[.int .i64 f, .int .i64 b, .int .i64 y] rfl rfl _ _ hr (by kernel_rfl) rfl (one3 _ _ _) ?_))
          (try simp only [Exit.inBlock, Exit.then])
          refine bodyPost_ret (v := stv (one (f, b, x) n)) ?_ rfl ⟨rfl, below_setRow hb (by omega) _⟩
          rw [HE.out]
          exact results_cell_row rfl _ _ (w.heap.size + 1) _ _ _ _ rfl (setRow_heap _ _ _ _ _ _ hr) Tryd.underlying26 rfl (by kernel_rfl)

theorem new2 (w : World) (o : Obj) (c : Array Value) (t : TypeId) : ((w.alloc o).alloc (.cells c t)).heap[w.heap.size + 1]? = some (.cells c t (0, 0)) := by
  have h := heap_alloc_new (w.alloc o) (.cells c t)
  simpa using h
set_option maxRecDepth 100000 in
theorem one_any (s : Int × Int × Int) (n : Int) (w : World) (hT : Tab w) (hn : n ≤ 9223372036854775807) :
    Calls Tryd.prog 129 #[stv s, .int .i64 n] w fun e w' => e = .returned (stv (one s n)) ∧ Below w.heap.size w w' := by
  by_cases h0 : 0 < n
  · exact one_pos s.1 s.2.1 s.2.2 n w hT h0 hn
  · obtain ⟨f, b, x⟩ := s
    have HE : Hid (one (f, b, x) n = (0, 0, 0)) := by unfold Hid one; rw [if_pos (by omega)]
    unfold stv
    rw [HE.out]
    clear HE hT
    go_enter Tryd.func129, Tryd.ntmps129
    go_wp2
    (try simp only [Exit.inBlock, Exit.then])
    refine bodyPost_ret (v := stv (0, 0, 0)) ?_ rfl ⟨rfl, ((Below.refl _ _).alloc (Nat.le_refl _) _).alloc (by simp) _⟩
    exact results_cell_row rfl _ _ (w.heap.size + 1) _ _ _ _ rfl (new2 w _ _ _) Tryd.underlying26 rfl (by kernel_rfl)

theorem ret_bool {a b : Bool} (h : a = b) : Ending.returned (.bool a) = .returned (.bool b) := by rw [h]
set_option maxRecDepth 100000 in
theorem colour_any (c : Int) (w : World) :
    Calls Tryd.prog 96 #[.int .i64 c] w fun e w' => e = .returned (.bool (decide (0 ≤ c ∧ c ≤ 256))) ∧ w = w' := by
  go_enter Tryd.func96, Tryd.ntmps96
  go_wp2
  all_goals (go_ret; exact ⟨ret_bool (by rw [Bool.eq_iff_iff]; simp; try omega), rfl⟩)

def isSt (s : Int × Int × Int) : Bool := decide (0 ≤ s.1 ∧ s.1 ≤ 256 ∧ 0 ≤ s.2.1 ∧ s.2.1 ≤ 256 ∧ 0 ≤ s.2.2 ∧ s.2.2 ≤ 127)
set_option maxRecDepth 100000 in
theorem check_any (s : Int × Int × Int) (w : World) :
    Calls Tryd.prog 44 #[stv s] w fun e w' => e = .returned (.bool (isSt s)) ∧ Below w.heap.size w w' := by
  obtain ⟨f, b, x⟩ := s
  unfold stv
  go_enter Tryd.func44, Tryd.ntmps44
  go_wp2_with (go_at_call 96; refine (colour_any _ _).mono ?_; rintro e W1 ⟨rfl, rfl⟩)
  all_goals (go_ret; exact ⟨ret_bool (by rw [Bool.eq_iff_iff]; simp [isSt]; try omega), (Below.refl _ _).alloc (Nat.le_refl _) _⟩)

/-- What the three numbers of a colour make of a style. -/
def lng (s : Int × Int × Int) (a n : Int) : Int × Int × Int :=
  if n < 0 ∨ 256 ≤ n then s else if a = 38 then (n + 1, s.2) else (s.1, n + 1, s.2.2)
set_option maxRecDepth 100000 in
theorem long_any (s : Int × Int × Int) (a n : Int) (w : World) :
    Calls Tryd.prog 128 #[stv s, .int .i64 a, .int .i64 n] w fun e w' => e = .returned (stv (lng s a n)) ∧ Below w.heap.size w w' := by
  obtain ⟨f, b, x⟩ := s
  have hB : ∀ o1 o2 : Obj, Below w.heap.size w ((w.alloc o1).alloc o2) := fun o1 o2 => ((Below.refl _ _).alloc (Nat.le_refl _) _).alloc (by simp) _
  by_cases h1 : n < 0 ∨ 256 ≤ n
  · have HE : Hid (lng (f, b, x) a n = (f, b, x)) := by unfold Hid lng; rw [if_pos h1]
    rw [HE.out]
    clear HE
    unfold stv
    by_cases h2 : n < 0
    · clear h1
      go_enter Tryd.func128, Tryd.ntmps128
      go_wp2
      (try simp only [Exit.inBlock, Exit.then])
      refine bodyPost_ret (v := stv (f, b, x)) ?_ rfl ⟨rfl, hB _ _⟩
      exact results_cell_row rfl _ _ (w.heap.size + 1) _ _ _ _ rfl (new2 w _ _ _) Tryd.underlying26 rfl (by kernel_rfl)
    · have h3 : 256 ≤ n := by omega
      clear h1
      go_enter Tryd.func128, Tryd.ntmps128
      go_wp2
      (try simp only [Exit.inBlock, Exit.then])
      refine bodyPost_ret (v := stv (f, b, x)) ?_ rfl ⟨rfl, hB _ _⟩
      exact results_cell_row rfl _ _ (w.heap.size + 1) _ _ _ _ rfl (new2 w _ _ _) Tryd.underlying26 rfl (by kernel_rfl)
  · have h2 : 0 ≤ n := by omega
    have h3 : n < 256 := by omega
    by_cases h4 : a = 38
    · have HE : Hid (lng (f, b, x) a n = (n + 1, b, x)) := by unfold Hid lng; rw [if_neg h1, if_pos h4]
      rw [HE.out]
      clear HE h1
      unfold stv
      go_enter Tryd.func128, Tryd.ntmps128
      go_wp2
      (try simp only [Exit.inBlock, Exit.then])
      refine bodyPost_ret (v := stv (n + 1, b, x)) ?_ rfl ⟨rfl, hB _ _⟩
      exact results_cell_row rfl _ _ (w.heap.size + 1) _ _ _ _ rfl (new2 w _ _ _) Tryd.underlying26 rfl (by kernel_rfl)
    · have HE : Hid (lng (f, b, x) a n = (f, n + 1, x)) := by unfold Hid lng; rw [if_neg h1, if_neg h4]
      rw [HE.out]
      clear HE h1
      unfold stv
      go_enter Tryd.func128, Tryd.ntmps128
      go_wp2
      (try simp only [Exit.inBlock, Exit.then])
      refine bodyPost_ret (v := stv (f, n + 1, x)) ?_ rfl ⟨rfl, hB _ _⟩
      exact results_cell_row rfl _ _ (w.heap.size + 1) _ _ _ _ rfl (new2 w _ _ _) Tryd.underlying26 rfl (by kernel_rfl)

end Stl
end Go.Proofs.YtnkeahfcpbepjaaDoor

/- The walks of style.isLong and style.Apply. -/
namespace Go.Proofs.YtnkeahfcpbepjaaDoor
open Go.ChangeShapes Go.WideShapes Go.ChangeAt Go.RowKit
namespace Stl

/-- What numbers make of a style, one behind the other. -/
def applyL : Int × Int × Int → List Int → Int × Int × Int
  | s, [] => s
  | s, [a] => one s a
  | s, [a, b] => one (one s a) b
  | s, a :: b :: c :: l => if (a = 38 ∨ a = 48) ∧ b = 5 then applyL (lng s a c) l else applyL (one s a) (b :: c :: l)
def isLg : List Int → Bool
  | a :: b :: _ :: _ => decide ((a = 38 ∨ a = 48) ∧ b = 5)
  | _ => false
theorem applyL_long (s : Int × Int × Int) (l : List Int) (h : isLg l = true) : applyL s l = applyL (lng s (l.getD 0 0) (l.getD 2 0)) (l.drop 3) := by
  match l, h with
  | a :: b :: c :: l, h =>
    simp only [isLg, decide_eq_true_eq] at h
    rw [applyL, if_pos h]
    rfl
theorem applyL_one (s : Int × Int × Int) (a : Int) (l : List Int) (h : isLg (a :: l) = false) : applyL s (a :: l) = applyL (one s a) l := by
  match l, h with
  | [], _ => rfl
  | [b], _ => rfl
  | b :: c :: l, h =>
    simp only [isLg, decide_eq_false_iff_not] at h
    rw [applyL, if_neg h]

theorem cell_lt {w : World} {a : Addr} {v : Value} (h : w.cell? a = some v) : a.block < w.heap.size := by
  simp only [World.cell?] at h
  cases hh : w.heap[a.block]? with
  | none => rw [hh] at h; cases h
  | some o => exact (Array.getElem?_eq_some_iff.1 hh).1
/-- A slice of ints that lies in memory. -/
def Row (w : World) (b o : Nat) (xs : List Int) : Prop := ∀ j, j < xs.length → w.cell? ⟨b, o + j, none⟩ = some (.int .i64 (xs.getD j 0))
theorem Row.below {w w' : World} {b o : Nat} {xs : List Int} (h : Row w b o xs) (hb : Below w.heap.size w w') : Row w' b o xs :=
  fun j hj => (hb.cell (cell_lt (h j hj))).trans (h j hj)
theorem Row.drop {w : World} {b o : Nat} {xs : List Int} (h : Row w b o xs) (k : Nat) : Row w b (o + k) (xs.drop k) := by
  intro j hj
  have := h (k + j) (by simp at hj; omega)
  rw [show o + k + j = o + (k + j) by omega, this]
  simp [List.getD]
theorem Row.lt {w : World} {b o : Nat} {xs : List Int} (h : Row w b o xs) (h0 : xs ≠ []) : b < w.heap.size := by
  have := h 0 (by cases xs; exact absurd rfl h0; simp)
  exact cell_lt this

set_option maxRecDepth 100000 in
theorem isLong_any (b o c : Nat) (xs : List Int) (w : World) (hR : Row w b o xs) (hlen : xs.length ≤ 140737488355328) :
    Calls Tryd.prog 127 #[.slice (some ⟨b, o, none⟩) xs.length c] w fun e w' => e = .returned (.bool (isLg xs)) ∧ w = w' := by
  by_cases h2 : 2 < xs.length
  · match xs, h2 with
    | x :: y :: z :: l, _ =>
      have c0 := hR 0 (by simp)
      have c1 := hR 1 (by simp)
      simp only [List.getD_cons_zero, Nat.add_zero, List.getD_cons_succ, List.length_cons] at c0 c1 hlen ⊢
      simp only [isLg]
      clear hR
      go_enter Tryd.func127, Tryd.ntmps127
      go_wp2
      all_goals (go_ret; exact ⟨ret_bool (by rw [Bool.eq_iff_iff]; simp; try omega), rfl⟩)
  · have HE : Hid (isLg xs = false) := by
      match xs, h2 with
      | [], _ | [_], _ | [_, _], _ => rfl
      | _ :: _ :: _ :: _, h => simp at h
    rw [HE.out]
    clear HE hR
    generalize xs.length = n at *
    go_enter Tryd.func127, Tryd.ntmps127
    go_wp2
    all_goals (go_ret; exact ⟨rfl, rfl⟩)

theorem long_agg (f b x l0 l1 l2 : Int) (a n : Int) (w : World) (h : lng (f, b, x) a n = (l0, l1, l2)) :
    Calls Tryd.prog 128 #[.agg #[.int .i64 f, .int .i64 b, .int .i64 x], .int .i64 a, .int .i64 n] w fun e w' => e = .returned (.agg #[.int .i64 l0, .int .i64 l1, .int .i64 l2]) ∧ Below w.heap.size w w' := by
  have := long_any (f, b, x) a n w
  rwa [h] at this
theorem one_agg (f b x l0 l1 l2 : Int) (n : Int) (w : World) (hT : Tab w) (hn : n ≤ 9223372036854775807) (h : one (f, b, x) n = (l0, l1, l2)) :
    Calls Tryd.prog 129 #[.agg #[.int .i64 f, .int .i64 b, .int .i64 x], .int .i64 n] w fun e w' => e = .returned (.agg #[.int .i64 l0, .int .i64 l1, .int .i64 l2]) ∧ Below w.heap.size w w' := by
  have := one_any (f, b, x) n w hT hn
  rwa [h] at this
theorem set3 {W : World} {g : Nat} {t : TypeId} {a b c : Value} (h : W.heap[g]? = some (.cells #[a, b, c] t (0, 0))) (p q r : Value) :
    (((W.setCell ⟨g, 0, none⟩ p).setCell ⟨g, 1, none⟩ q).setCell ⟨g, 2, none⟩ r).heap[g]? = some (.cells #[p, q, r] t (0, 0)) :=
  heap_setCell_same _ _ _ _ _ _ (heap_setCell_same _ _ _ _ _ _ (heap_setCell_same _ _ _ _ _ _ h))
theorem set3_other {W : World} {g k : Nat} (hk : k ≠ g) (p q r : Value) :
    (((W.setCell ⟨g, 0, none⟩ p).setCell ⟨g, 1, none⟩ q).setCell ⟨g, 2, none⟩ r).heap[k]? = W.heap[k]? := by
  rw [heap_setCell_other _ _ _ _ hk, heap_setCell_other _ _ _ _ hk, heap_setCell_other _ _ _ _ hk]
theorem set3_below {B : Nat} {w W : World} {g : Nat} (h : Below B w W) (hg : B ≤ g) (p q r : Value) :
    Below B w (((W.setCell ⟨g, 0, none⟩ p).setCell ⟨g, 1, none⟩ q).setCell ⟨g, 2, none⟩ r) := ((h.setCell hg _).setCell hg _).setCell hg _
theorem set3_size {W : World} {g : Nat} (p q r : Value) :
    (((W.setCell ⟨g, 0, none⟩ p).setCell ⟨g, 1, none⟩ q).setCell ⟨g, 2, none⟩ r).heap.size = W.heap.size := by simp
theorem drop_cons (xs : List Int) (k : Nat) (hk : k < xs.length) : xs.drop k = xs.getD k 0 :: xs.drop (k + 1) := by
  rw [List.drop_eq_getElem_cons hk]
  simp [List.getD, hk]
set_option maxHeartbeats 4000000 in
set_option maxRecDepth 100000 in
theorem apply_some (s : Int × Int × Int) (b o c : Nat) (xs : List Int) (w : World) (hT : Tab w) (hR : Row w b o xs) (h0 : xs ≠ []) (hlen : xs.length ≤ 140737488355328) (hc : xs.length ≤ c)
    (hw : ∀ x ∈ xs, x ≤ 9223372036854775807) :
    Calls Tryd.prog 90 #[stv s, .slice (some ⟨b, o, none⟩) xs.length c] w fun e w' => e = .returned (stv (applyL s xs)) ∧ Below w.heap.size w w' := by
  obtain ⟨f, bk, x⟩ := s
  have hpos : 0 < xs.length := by cases xs; exact absurd rfl h0; simp
  have HT : Hid (Tab w) := hT
  have HR : Hid (Row w b o xs) := hR
  have HW : Hid (∀ x ∈ xs, x ≤ 9223372036854775807) := hw
  clear hT hR hw h0
  unfold stv
  go_enter Tryd.func90, Tryd.ntmps90
  go_wp2_with fail
  have hz : ((xs.length : Int) == 0) = false := by simp only [beq_eq_false_iff_ne, ne_eq]; omega
  rw [hz]
  go_loopg [1] xs.length (fun g l wr => ∃ (k m cp : Nat) (ad : Addr) (s : Int × Int × Int), k ≤ xs.length ∧ xs.length - k ≤ g ∧ l = .slice (some ad) m cp ∧ k + m = xs.length ∧ m ≤ cp ∧ (0 < m → ad = ⟨b, o + k, none⟩) ∧ Below w.heap.size w wr ∧ w.heap.size + 2 ≤ wr.heap.size ∧ wr.heap[w.heap.size]? = some (.cells #[.int .i64 s.1, .int .i64 s.2.1, .int .i64 s.2.2] 26 (0, 0)) ∧ wr.heap[w.heap.size + 1]? = some (.cells #[.int .i64 0, .int .i64 0, .int .i64 0] 26 (0, 0)) ∧ applyL s (xs.drop k) = applyL (f, bk, x) xs)
  case atStart => exact ⟨0, xs.length, c, ⟨b, o, none⟩, (f, bk, x), by omega, by omega, rfl, by omega, hc, fun _ => rfl, ((Below.refl _ _).alloc (Nat.le_refl _) _).alloc (by simp) _, by simp, (Below.heap_alloc _ _ _ (by simp)).trans (heap_alloc_new _ _), new2 w _ _ _, rfl⟩
  case round =>
    obtain ⟨k, m, cp, ad, s, hk, hg, rfl, hm, hcp, had, hb, hsz, hv, hr, hl⟩ := hrel
    have HL : Hid (applyL s (xs.drop k) = applyL (f, bk, x) xs) := hl
    clear hl
    have HRk : Hid (Row wr b (o + k) (xs.drop k)) := fun j hj => by
      have h := HR.out.drop k j hj
      exact (hb.cell (cell_lt h)).trans h
    have hlen : (xs.drop k).length = xs.length - k := by simp
    by_cases hlt : k < xs.length
    · obtain rfl := had (by omega)
      have hTk : Hid (Tab wr) := HT.out.below hb HT.out.pos
      have KL : Hid (Calls Tryd.prog 127 #[.slice (some ⟨b, o + k, none⟩) m cp] wr fun e w' => e = .returned (.bool (isLg (xs.drop k))) ∧ wr = w') := by
        have := isLong_any b (o + k) cp (xs.drop k) wr HRk.out (by omega)
        rwa [hlen, show xs.length - k = m by omega] at this
      obtain ⟨f', b', x'⟩ := s
      by_cases hlg : isLg (xs.drop k) = true
      · have h3 : k + 2 < xs.length := by
          match hxs : xs.drop k, hlg with
          | _ :: _ :: _ :: l, _ =>
            rw [hxs] at hlen
            simp at hlen
            omega
        rw [hlg] at KL
        have q0 : wr.cell? ⟨b, o + k, none⟩ = some (.int .i64 ((xs.drop k).getD 0 0)) := HRk.out 0 (by omega)
        have q2 : wr.cell? ⟨b, o + k + 2, none⟩ = some (.int .i64 ((xs.drop k).getD 2 0)) := HRk.out 2 (by omega)
        have HE : Hid (applyL (f', b', x') (xs.drop k) = applyL (lng (f', b', x') ((xs.drop k).getD 0 0) ((xs.drop k).getD 2 0)) (xs.drop (k + 3))) := by
          have := applyL_long (f', b', x') (xs.drop k) hlg
          rwa [List.drop_drop] at this
        generalize (xs.drop k).getD 0 0 = y0 at *
        generalize (xs.drop k).getD 2 0 = y2 at *
        rcases hlg3 : lng (f', b', x') y0 y2 with ⟨l0, l1, l2⟩
        have HG : Hid (lng (f', b', x') y0 y2 = (l0, l1, l2)) := hlg3
        clear hlg3
        have ⟨c0, c1, c2, cf⟩ := cells_of hv
        clear hlen
        go_wp2_with (go_at_call 127; refine KL.out.mono ?_; rintro e W1 ⟨rfl, rfl⟩)
        go_region_with (go_at_call 128; refine (long_agg f' b' x' l0 l1 l2 y0 y2 _ HG.out).mono ?_; rintro e W1 ⟨rfl, hb1⟩; have hv1 : W1.heap[w.heap.size]? = _ := (hb1.block _ (show w.heap.size < wr.heap.size by omega)).trans hv; have ⟨e0, e1, e2, ef⟩ := cells_of hv1; have ef0 := ef 0; have ef1 := ef 1; have ef2 := ef 2)
        all_goals (
          go_wp2_with fail
          all_goals (
            go_roundg (xs.length - (k + 3))
            case measure => omega
            case rel =>
              have hb1' : Below wr.heap.size wr W1 := ⟨hb1.os, hb1.tape, hb1.output, hb1.size, hb1.block⟩
              have hs1 := hb1'.size
              refine ⟨k + 3, m - 3, _, _, (l0, l1, l2), by omega, by omega, rfl, by omega, by omega, ?_, set3_below (hb.trans (hb1'.mono hb.size)) (Nat.le_refl _) _ _ _, ?_, set3 hv1 _ _ _, (set3_other (by omega) _ _ _).trans ((hb1'.block _ (by omega)).trans hr), ?_⟩
              · intro hpos
                first | rfl | omega
              · rw [set3_size]; omega
              · rw [← HL.out, HE.out, HG.out]))
      · have hlg : isLg (xs.drop k) = false := by simpa using hlg
        rw [hlg] at KL
        have q0 : wr.cell? ⟨b, o + k, none⟩ = some (.int .i64 (xs.getD k 0)) := by
          have := HRk.out 0 (by omega)
          rw [drop_cons xs k hlt] at this
          simpa using this
        have HE : Hid (applyL (f', b', x') (xs.drop k) = applyL (one (f', b', x') (xs.getD k 0)) (xs.drop (k + 1))) := by
          unfold Hid
          rw [drop_cons xs k hlt] at hlg ⊢
          exact applyL_one _ _ _ hlg
        have hy : xs.getD k 0 ≤ 9223372036854775807 := HW.out _ (by simp [List.getD, hlt])
        clear hlg
        generalize xs.getD k 0 = y0 at *
        rcases hlg3 : one (f', b', x') y0 with ⟨l0, l1, l2⟩
        have HG : Hid (one (f', b', x') y0 = (l0, l1, l2)) := hlg3
        clear hlg3
        have ⟨c0, c1, c2, cf⟩ := cells_of hv
        clear hlen
        go_wp2_with (go_at_call 127; refine KL.out.mono ?_; rintro e W1 ⟨rfl, rfl⟩)
        go_region_with (go_at_call 129; refine (one_agg f' b' x' l0 l1 l2 y0 wr.drew hTk.out hy HG.out).mono ?_; rintro e W1 ⟨rfl, hb1⟩; have hv1 : W1.heap[w.heap.size]? = _ := (hb1.block _ (show w.heap.size < wr.heap.size by omega)).trans hv; have ⟨e0, e1, e2, ef⟩ := cells_of hv1; have ef0 := ef 0; have ef1 := ef 1; have ef2 := ef 2)
        all_goals (
          go_wp2_with fail
          all_goals (
            go_roundg (xs.length - (k + 1))
            case measure => omega
            case rel =>
              have hb1' : Below wr.heap.size wr W1 := ⟨hb1.os, hb1.tape, hb1.output, hb1.size, hb1.block⟩
              have hs1 := hb1'.size
              refine ⟨k + 1, m - 1, _, _, (l0, l1, l2), by omega, by omega, rfl, by omega, by omega, ?_, set3_below (hb.trans (hb1'.mono hb.size)) (Nat.le_refl _) _ _ _, ?_, set3 hv1 _ _ _, (set3_other (by omega) _ _ _).trans ((hb1'.block _ (by omega)).trans hr), ?_⟩
              · intro hpos
                first | rfl | omega
              · rw [set3_size]; omega
              · rw [← HL.out, HE.out, HG.out]))
    · have hk2 : k = xs.length := by omega
      have hm0 : m = 0 := by omega
      subst hm0
      obtain ⟨f', b', x'⟩ := s
      have HE : Hid ((f', b', x') = applyL (f, bk, x) xs) := by
        have := HL.out
        rw [hk2, List.drop_length] at this
        exact this
      go_wp2_with (first | (refine wpList_load_row rfl 26 (.tmp 2) rfl w.heap.size rfl _ _ _ _ hv Tryd.underlying26 rfl (by kernel_rfl) ?_) | (refine wpList_store_row rfl 26 (.tmp 4) (.tmp 31) rfl (w.heap.size + 1) #[.int .i64 f', .int .i64 b', .int .i64 x'] rfl rfl _ _ hr (by kernel_rfl) rfl (one3 _ _ _) ?_))
      (try simp only [Exit.inBlock, Exit.then])
      refine bodyPost_ret (v := stv (f', b', x')) ?_ rfl ⟨by rw [HE.out]; rfl, below_setRow hb (by omega) _⟩
      exact results_cell_row rfl _ _ (w.heap.size + 1) _ _ _ _ rfl (setRow_heap _ _ _ _ _ _ hr) Tryd.underlying26 rfl (by kernel_rfl)

end Stl
end Go.Proofs.YtnkeahfcpbepjaaDoor

/- A list of numbers in memory; style.Apply. -/
namespace Go.Proofs.YtnkeahfcpbepjaaDoor
open Go.ChangeShapes Go.WideShapes Go.ChangeAt Go.RowKit
namespace Stl
def IntsAt (w : World) (v : Value) (xs : List Int) : Prop :=
  (xs = [] ∧ ∃ a c, v = .slice a 0 c) ∨ (xs ≠ [] ∧ ∃ b o c, v = .slice (some ⟨b, o, none⟩) xs.length c ∧ xs.length ≤ c ∧ Row w b o xs)
theorem IntsAt.below {w w' : World} {v : Value} {xs : List Int} (h : IntsAt w v xs) (hb : Below w.heap.size w w') : IntsAt w' v xs := by
  rcases h with h | ⟨h0, b, o, c, hv, hc, hR⟩
  · exact .inl h
  · exact .inr ⟨h0, b, o, c, hv, hc, hR.below hb⟩
def applyT (s : Int × Int × Int) (xs : List Int) : Int × Int × Int := if xs = [] then (0, 0, 0) else applyL s xs
set_option maxRecDepth 100000 in
theorem apply_any (s : Int × Int × Int) (v : Value) (xs : List Int) (w : World) (hT : Tab w) (hI : IntsAt w v xs) (hlen : xs.length ≤ 140737488355328) (hw : ∀ x ∈ xs, x ≤ 9223372036854775807) :
    Calls Tryd.prog 90 #[stv s, v] w fun e w' => e = .returned (stv (applyT s xs)) ∧ Below w.heap.size w w' := by
  rcases hI with ⟨rfl, a, c, rfl⟩ | ⟨h0, b, o, c, rfl, hc, hR⟩
  · clear hw hlen hT
    have HE : Hid (applyT s [] = (0, 0, 0)) := rfl
    rw [HE.out]
    obtain ⟨f, bk, x⟩ := s
    unfold stv
    go_enter Tryd.func90, Tryd.ntmps90
    go_wp2
    (try simp only [Exit.inBlock, Exit.then])
    refine bodyPost_ret (v := stv (0, 0, 0)) ?_ rfl ⟨rfl, ((Below.refl _ _).alloc (Nat.le_refl _) _).alloc (by simp) _⟩
    exact results_cell_row rfl _ _ (w.heap.size + 1) _ _ _ _ rfl (new2 w _ _ _) Tryd.underlying26 rfl (by kernel_rfl)
  · unfold applyT
    rw [if_neg h0]
    exact apply_some s b o c xs w hT hR h0 hlen hc hw
end Stl
end Go.Proofs.YtnkeahfcpbepjaaDoor

/- The tables as the rows list them: their cells; and a slice of ints that came in, opened. -/
namespace Go.Proofs.YtnkeahfcpbepjaaDoor
open Go.ChangeShapes Go.WideShapes Go.ChangeAt Go.RowKit
namespace Stl
theorem slices3 : ∀ (l : List (Int × Int × Int)) (cs : List Value), cs.length = 3 * l.length → (∀ i x, l[i]? = some x → (cs.drop (i * 3)).take 3 = cell3 x) → cs = l.flatMap cell3
  | [], cs, hl, _ => by simpa using hl
  | x :: t, cs, hl, h => by
    have h0 := h 0 x rfl
    have ht := slices3 t (cs.drop 3) (by simp only [List.length_drop, List.length_cons] at hl ⊢; omega) (fun i y hy => by
      have := h (i + 1) y (by simpa using hy)
      rw [List.drop_drop]
      rwa [show 3 + i * 3 = (i + 1) * 3 from by omega])
    simp only [Nat.zero_mul, List.drop_zero] at h0
    rw [List.flatMap_cons, ← ht, ← h0, List.take_append_drop]
theorem laid_eq {H : Type} : (Rows.laid_trellis_style_looks : DataW H) = .agg (looks.map fun x => .agg [.lit (.int .i64 x.1), .lit (.int .i64 x.2.1), .lit (.int .i64 x.2.2)]) := rfl
theorem tab_of_reads {w : World} (h : Lib.VarReads Tryd.prog w "trellis/style.looks" Rows.laid_trellis_style_looks) : Tab w := by
  obtain ⟨g, t, cs, fuel, p, hg, hty, hvar, hd⟩ := h
  obtain rfl := Option.some.inj ((show Tryd.prog.globalNamed "trellis/style.looks" = some 3 by kernel_rfl).symm.trans hg)
  obtain rfl := Option.some.inj ((show (Tryd.prog.globals[3]?).map (fun x => x.type) = some 169 by kernel_rfl).symm.trans hty)
  have hlen : cs.toList.length = 21 := by
    obtain ⟨xs, m, _, _, hl, _, _⟩ := DataW.trod_array Tryd.underlying169 hd
    rw [hl]; kernel_rfl
  rw [laid_eq] at hd
  have hcs : cs.toList = looks.flatMap cell3 := by
    refine slices3 looks cs.toList (by rw [hlen]; rfl) (fun i x hx => ?_)
    have hi : i < 7 := (List.getElem?_eq_some_iff.1 hx).1
    obtain ⟨fuel', d, q, hdi, he⟩ := Lib.array_elem Tryd.underlying169 hd i hi
    rw [List.getElem?_map, hx] at hdi
    obtain rfl := Option.some.inj hdi
    rw [show Tryd.prog.cellsOf 168 = 3 by kernel_rfl] at he
    obtain ⟨y0, y1, y2, n, hy, hl, e0, e1, e2⟩ := Deep.trod_struct3 Tryd.underlying168 he
    rw [show Tryd.prog.cellsOf 168 = 3 by kernel_rfl] at hl
    generalize (cs.toList.drop (i * 3)).take 3 = c3 at *
    simp only [Prod.mk.injEq, DataW.agg.injEq, List.cons.injEq, and_true] at hy
    obtain ⟨⟨g0, g1, g2⟩, _⟩ := hy
    simp only [show Tryd.prog.cellsOf 3 = 1 by kernel_rfl] at e0 e1 e2
    obtain ⟨z0, k0, rfl, _⟩ := DataW.trod_int Tryd.underlying3 e0
    obtain ⟨z1, k1, rfl, _⟩ := DataW.trod_int Tryd.underlying3 e1
    obtain ⟨z2, k2, rfl, _⟩ := DataW.trod_int Tryd.underlying3 e2
    match c3, hl with
    | [a, b, c], _ =>
      simp at k0 k1 k2 g0 g1 g2
      subst k0 k1 k2 g0 g1 g2
      rfl
  unfold World.var? at hvar
  rw [hg] at hvar
  simp only [Option.bind_some] at hvar
  split at hvar
  · rename_i c tt fr hh
    obtain rfl := Option.some.inj hvar
    have hc : c = lookCells := by unfold lookCells; rw [← hcs]
    exact ⟨tt, fr, by rw [hh, hc]⟩
  · cases hvar
set_option maxRecDepth 100000 in
theorem open_intsAt {H : Type} {enc : TypeId × Value → H} {W : World} {base : Nat} {v : Value} {d : DataW H} {p : List MemPlace}
    (hval : Value.okWide Tryd.prog W .any base 66 v) (h : DataW.Trod enc Tryd.prog W 0 (fun _ => true) true 66 v d p) :
    ∃ xs : List Int, IntsAt W v xs ∧ (∀ x ∈ xs, -9223372036854775808 ≤ x ∧ x ≤ 9223372036854775807) ∧ (xs = [] ∨ ∃ elems spare, d = .slice elems spare ∧ xs.length = elems.length ∧ ∀ y ∈ elems, ∃ k n, y = .lit (.int k n)) := by
  obtain ⟨a0, len, cap, rfl⟩ := okWide_slice Tryd.underlying66 hval
  obtain ⟨fuel, hf⟩ := h
  rcases open_ints Tryd.underlying66 Tryd.underlying3 (by kernel_rfl) hf with ⟨hcs, hx⟩ | ⟨a, len', cap', zs, hcs, _, hl, hm, hz, hx, hcell, hwz⟩
  · simp [Value.cells] at hcs
    obtain ⟨rfl, rfl, rfl⟩ := hcs
    exact ⟨[], .inl ⟨rfl, _, _, rfl⟩, by simp, .inl rfl⟩
  · simp [Value.cells] at hcs
    obtain ⟨rfl, rfl, rfl⟩ := hcs
    simp only [Prod.mk.injEq] at hx
    obtain ⟨rfl, rfl⟩ := hx
    simp only [if_true] at hz
    refine ⟨zs.take len, ?_, ?_, .inr ⟨_, _, rfl, by simp [lits], ?_⟩⟩
    · by_cases h0 : len = 0
      · subst h0
        exact .inl ⟨by simp, _, _, rfl⟩
      · obtain ⟨b, off, spot⟩ := a
        have hspot : spot = none := by simpa [Addr.add] using World.cell?_spot (hcell 0 (by omega))
        subst hspot
        have hlen : (zs.take len).length = len := by simp; omega
        refine .inr ⟨fun e => by rw [e] at hlen; simp at hlen; omega, b, off, cap, by rw [hlen], by omega, fun j hj => ?_⟩
        have := hcell j (by omega)
        rw [add_plain] at this
        rw [this]
        rw [hlen] at hj
        simp [List.getD, hj]
    · intro x hx'
      have h5 := hwz x (List.mem_of_mem_take hx')
      have e1 : IntKind.i64.min = -9223372036854775808 := rfl
      have e2 : IntKind.i64.max = 9223372036854775807 := rfl
      simpa [Lit.wf, e1, e2] using h5
    · intro y hy
      simp only [lits, List.mem_map] at hy
      obtain ⟨n, _, rfl⟩ := hy
      exact ⟨_, _, rfl⟩
theorem ints_shape {w : World} {v : Value} {xs : List Int} (h : IntsAt w v xs) : ∃ p n c, v = .slice p n c := by
  rcases h with ⟨-, a, c, rfl⟩ | ⟨-, b, o, c, rfl, -⟩
  · exact ⟨_, _, _, rfl⟩
  · exact ⟨_, _, _, rfl⟩
end Stl
end Go.Proofs.YtnkeahfcpbepjaaDoor

/- mode.change: a screen is checked, and changed. -/
namespace Go.Proofs.YtnkeahfcpbepjaaDoor
set_option linter.unusedVariables false
open Go.ChangeShapes Go.WideShapes Go.ChangeAt Go.RowKit
namespace Put
open Grd (C SliceAt CellsAt gridErr z0 nilV flat rowsL)
theorem kf_ofm {w V : World} {s : Scr} {cv tv gv : Value} {A : Array Value} {t t' : TypeId} (hb : Below w.heap.size w V) (h0 : V.heap[w.heap.size]? = some (.cells (scrA s cv tv gv) t (0, 0))) (h1 : V.heap[w.heap.size + 1]? = some (.cells A t' (0, 0))) {s' : Scr} {cv' tv' gv' : Value} :
    Below w.heap.size w (V.setRow (w.heap.size + 1) (scrA s' cv' tv' gv')) ∧ ScrPtr (V.setRow (w.heap.size + 1) (scrA s' cv' tv' gv')) (.pointer (some ⟨w.heap.size, 0, none⟩)) ∧ blkAt (V.setRow (w.heap.size + 1) (scrA s' cv' tv' gv')) (.pointer (some ⟨w.heap.size, 0, none⟩)) = scrA s cv tv gv ∧ ScrPtr0 (V.setRow (w.heap.size + 1) (scrA s' cv' tv' gv')) (.pointer (some ⟨w.heap.size + 1, 0, none⟩)) := by
  have h2 : (V.setRow (w.heap.size + 1) (scrA s' cv' tv' gv')).heap[w.heap.size]? = _ := (setRow_other _ _ _ _ (by omega)).trans h0
  have h3 := setRow_heap V (w.heap.size + 1) A (scrA s' cv' tv' gv') t' _ h1
  exact ⟨below_setRow hb (by omega) _, (scrPtr_of h2).1, (scrPtr_of h2).2, scrPtr0_of h3 rfl⟩
section
attribute [local go_sem ↓] load_scr store_scr
attribute [local go_sem] isScrS ptrBlk_at aggOf_agg
set_option maxHeartbeats 4000000 in
set_option maxRecDepth 100000 in
theorem mdchange_any (s s' : Scr) (cv tv gv : Value) (df : FuncId) (caps : Array Value) (w0 w : World) (hT : Txt.Tab w) (hV : ScrV w0 s cv tv gv) (hb0 : Below w0.heap.size w0 w) (hF : Fits s)
    (hCH : ∀ W, Below w.heap.size w W → Calls Tryd.prog 57 #[.agg (scrA s cv tv gv), .int .i64 (scrErr s), .func (.func df) #[] caps] W (Made w0 W s' (scrErr s))) :
    Calls Tryd.prog 87 #[.agg (scrA s cv tv gv), .func (.func df) #[] caps] w (Made w0 w s' (scrErr s)) := by
  obtain ⟨ca, cc, rfl⟩ := hV.c.shape
  obtain ⟨ta, tc, rfl⟩ := hV.t.slice
  obtain ⟨ga, gc, rfl⟩ := hV.g.slice
  have hx0 : ((w.alloc (.cells (scrA s (.slice ca s.cs.length cc) (.slice ta s.tabs.length tc) (.slice ga s.gone.length gc)) 32)).alloc (.cells #[.int .i64 0, .int .i64 0, .slice none 0 0, .int .i64 0, .int .i64 0, .bool false, .int .i64 0, .int .i64 0, .int .i64 0, .int .i64 0, .int .i64 0, .int .i64 0, .slice none 0 0, .int .i64 0, .int .i64 0, .int .i64 0, .int .i64 0, .int .i64 0, .int .i64 0, .int .i32 0, .string ⟨#[]⟩, .slice none 0 0] 32)).heap[w.heap.size]? = some (.cells (scrA s (.slice ca s.cs.length cc) (.slice ta s.tabs.length tc) (.slice ga s.gone.length gc)) 32 (0, 0)) := (Below.heap_alloc _ _ _ (by simp)).trans (heap_alloc_new _ _)
  have hx1 : ((w.alloc (.cells (scrA s (.slice ca s.cs.length cc) (.slice ta s.tabs.length tc) (.slice ga s.gone.length gc)) 32)).alloc (.cells #[.int .i64 0, .int .i64 0, .slice none 0 0, .int .i64 0, .int .i64 0, .bool false, .int .i64 0, .int .i64 0, .int .i64 0, .int .i64 0, .int .i64 0, .int .i64 0, .slice none 0 0, .int .i64 0, .int .i64 0, .int .i64 0, .int .i64 0, .int .i64 0, .int .i64 0, .int .i32 0, .string ⟨#[]⟩, .slice none 0 0] 32)).heap[w.heap.size + 1]? = some (.cells #[.int .i64 0, .int .i64 0, .slice none 0 0, .int .i64 0, .int .i64 0, .bool false, .int .i64 0, .int .i64 0, .int .i64 0, .int .i64 0, .int .i64 0, .int .i64 0, .slice none 0 0, .int .i64 0, .int .i64 0, .int .i64 0, .int .i64 0, .int .i64 0, .int .i64 0, .int .i32 0, .string ⟨#[]⟩, .slice none 0 0] 32 (0, 0)) := heap_alloc2_new w _ _
  have hkb : Below w.heap.size w ((w.alloc (.cells (scrA s (.slice ca s.cs.length cc) (.slice ta s.tabs.length tc) (.slice ga s.gone.length gc)) 32)).alloc (.cells #[.int .i64 0, .int .i64 0, .slice none 0 0, .int .i64 0, .int .i64 0, .bool false, .int .i64 0, .int .i64 0, .int .i64 0, .int .i64 0, .int .i64 0, .int .i64 0, .slice none 0 0, .int .i64 0, .int .i64 0, .int .i64 0, .int .i64 0, .int .i64 0, .int .i64 0, .int .i32 0, .string ⟨#[]⟩, .slice none 0 0] 32)) := ((Below.refl _ _).alloc (Nat.le_refl _) _).alloc (by simp) _
  have hsz : ((w.alloc (.cells (scrA s (.slice ca s.cs.length cc) (.slice ta s.tabs.length tc) (.slice ga s.gone.length gc)) 32)).alloc (.cells #[.int .i64 0, .int .i64 0, .slice none 0 0, .int .i64 0, .int .i64 0, .bool false, .int .i64 0, .int .i64 0, .int .i64 0, .int .i64 0, .int .i64 0, .int .i64 0, .slice none 0 0, .int .i64 0, .int .i64 0, .int .i64 0, .int .i64 0, .int .i64 0, .int .i64 0, .int .i32 0, .string ⟨#[]⟩, .slice none 0 0] 32)).heap.size = w.heap.size + 2 := by simp
  have HX0 : Hid _ := hx0
  have HX1 : Hid _ := hx1
  have HKB : Hid _ := hkb
  have HSZ : Hid _ := hsz
  have HCK : Hid (∀ W, Below w.heap.size w W → Calls Tryd.prog 12 #[.agg (scrA s (.slice ca s.cs.length cc) (.slice ta s.tabs.length tc) (.slice ga s.gone.length gc))] W fun e w' => e = .returned (.int .i64 (scrErr s)) ∧ Below W.heap.size W w') := fun W hW => putCheck_any s _ _ _ W (Grd.Tab.next hT hW) (hV.next (hb0.trans (hW.mono hb0.size))) hF
  have HCH : Hid (∀ W, Below w.heap.size w W → Calls Tryd.prog 57 #[.agg (scrA s (.slice ca s.cs.length cc) (.slice ta s.tabs.length tc) (.slice ga s.gone.length gc)), .int .i64 (scrErr s), .func (.func df) #[] caps] W (Made w0 W s' (scrErr s))) := hCH
  have hM := hb0.size
  clear hx0 hx1 hkb hV hF hT hCH hb0 hsz
  generalize scrErr s = er at *
  go_enter Tryd.func87, Tryd.ntmps87
  go_upto_region 1 with fail
  generalize ((w.alloc (.cells (scrA s (.slice ca s.cs.length cc) (.slice ta s.tabs.length tc) (.slice ga s.gone.length gc)) 32)).alloc (.cells #[.int .i64 0, .int .i64 0, .slice none 0 0, .int .i64 0, .int .i64 0, .bool false, .int .i64 0, .int .i64 0, .int .i64 0, .int .i64 0, .int .i64 0, .int .i64 0, .slice none 0 0, .int .i64 0, .int .i64 0, .int .i64 0, .int .i64 0, .int .i64 0, .int .i64 0, .int .i32 0, .string ⟨#[]⟩, .slice none 0 0] 32)) = X at *
  have SK : Hid (∀ w', Below X.heap.size X w' → Below w.heap.size w w' ∧ ScrPtr w' (.pointer (some ⟨w.heap.size, 0, none⟩)) ∧ blkAt w' (.pointer (some ⟨w.heap.size, 0, none⟩)) = (scrA s (.slice ca s.cs.length cc) (.slice ta s.tabs.length tc) (.slice ga s.gone.length gc)) ∧ ScrPtr0 w' (.pointer (some ⟨w.heap.size + 1, 0, none⟩))) := fun w' hb => by
    have h0 := Grd.carry HX0.out hb
    exact ⟨HKB.out.trans (hb.mono HKB.out.size), (scrPtr_of h0).1, (scrPtr_of h0).2, scrPtr0_of (Grd.carry HX1.out hb) rfl⟩
  have b0 : Below X.heap.size X X.drew := (Below.refl _ _).drew
  go_region_held3 (fun w' => Below w.heap.size w w' ∧ ScrPtr w' (.pointer (some ⟨w.heap.size, 0, none⟩)) ∧ blkAt w' (.pointer (some ⟨w.heap.size, 0, none⟩)) = (scrA s (.slice ca s.cs.length cc) (.slice ta s.tabs.length tc) (.slice ga s.gone.length gc)) ∧ ScrPtr0 w' (.pointer (some ⟨w.heap.size + 1, 0, none⟩)))
    (first | exact KF.out | exact SK.out _ b2 | exact SK.out _ b1 | exact SK.out _ b0)
    (first | (go_at_call 12; refine (HCK.out _ (SK.out _ b0).1).mono ?_; rintro e V1 ⟨rfl, c1⟩; have b1 := b0.trans (c1.mono b0.size); clear c1) | (go_at_call 57; refine (HCH.out _ (SK.out _ b1).1).mono ?_; rintro e V2 ⟨cv', tv', gv', rfl, hO, c2⟩; have b2 := b1.trans (c2.mono b1.size); obtain ⟨a1, n1, c1, a2, n2, c2', a3, n3, c3, rfl, rfl, rfl⟩ := hO.shapes; have HO : Hid (ScrO V2 0 _ s' _ _ _) := hO; clear c2 hO; have HR : Hid (V2.heap[w.heap.size + 1]? = _) := Grd.carry HX1.out b2; have KF : Hid (Below w.heap.size w (V2.setRow (w.heap.size + 1) (scrA s' (.slice a1 n1 c1) (.slice a2 n2 c2') (.slice a3 n3 c3))) ∧ ScrPtr (V2.setRow (w.heap.size + 1) (scrA s' (.slice a1 n1 c1) (.slice a2 n2 c2') (.slice a3 n3 c3))) (.pointer (some ⟨w.heap.size, 0, none⟩)) ∧ blkAt (V2.setRow (w.heap.size + 1) (scrA s' (.slice a1 n1 c1) (.slice a2 n2 c2') (.slice a3 n3 c3))) (.pointer (some ⟨w.heap.size, 0, none⟩)) = (scrA s (.slice ca s.cs.length cc) (.slice ta s.tabs.length tc) (.slice ga s.gone.length gc)) ∧ ScrPtr0 (V2.setRow (w.heap.size + 1) (scrA s' (.slice a1 n1 c1) (.slice a2 n2 c2') (.slice a3 n3 c3))) (.pointer (some ⟨w.heap.size + 1, 0, none⟩))) := kf_ofm (SK.out _ b2).1 (Grd.carry HX0.out b2) HR.out))
  go_wp2_with fail
  (try simp only [Exit.inBlock, Exit.then])
  refine bodyPost_ret (v := .tuple #[.agg (scrA s' (.slice a1 n1 c1) (.slice a2 n2 c2') (.slice a3 n3 c3)), .int .i64 er]) ?_ rfl ⟨_, _, _, rfl, ?_, KF.out.1⟩
  · exact Grd.results_row_tmp rfl _ _ (w.heap.size + 1) _ _ _ _ rfl (setRow_heap _ _ _ _ _ _ HR.out) Tryd.underlying32 rfl (by kernel_rfl) _ rfl
  · exact (ScrO.off HO.out HR.out screen_is (by omega) fun k hk => setRow_other _ _ _ _ hk).mono (SK.out _ b1).1.size
end
end Put
end Go.Proofs.YtnkeahfcpbepjaaDoor

/- Package mode: the calls that hand a closure on. (Written by gen_call.py.) -/
namespace Go.Proofs.YtnkeahfcpbepjaaDoor
set_option linter.unusedVariables false
open Go.ChangeShapes Go.WideShapes Go.ChangeAt Go.RowKit
namespace Put
open Grd (C)
theorem cell_onem {W : World} {R : Nat} {v : Value} {t : TypeId} (h : W.heap[R]? = some (.cells #[v] t (0, 0))) : W.cell? ⟨R, 0, none⟩ = some v := by simp [World.cell?, h]
set_option maxHeartbeats 2000000 in
set_option maxRecDepth 100000 in
theorem modeSave_calls (s s' : Scr) (cv tv gv : Value) (er : Int) (w0 w : World) (hV : ScrV w0 s cv tv gv) (hM : w0.heap.size ≤ w.heap.size)
    (hC : ∀ (W : World) (_B : Nat), Below w.heap.size w W → Calls Tryd.prog 87 #[.agg (scrA s cv tv gv), .func (.func 88) #[] #[]] W (Made w0 W s' er)) :
    Calls Tryd.prog 37 #[.agg (scrA s cv tv gv)] w (Made w0 w s' er) := by
  obtain ⟨ca, cc, rfl⟩ := hV.c.shape
  obtain ⟨ta, tc, rfl⟩ := hV.t.slice
  obtain ⟨ga, gc, rfl⟩ := hV.g.slice
  have hkb : Below w.heap.size w ((w.alloc (.cells (scrA s (.slice ca s.cs.length cc) (.slice ta s.tabs.length tc) (.slice ga s.gone.length gc)) 32)).alloc (.cells #[.int .i64 0, .int .i64 0, .slice none 0 0, .int .i64 0, .int .i64 0, .bool false, .int .i64 0, .int .i64 0, .int .i64 0, .int .i64 0, .int .i64 0, .int .i64 0, .slice none 0 0, .int .i64 0, .int .i64 0, .int .i64 0, .int .i64 0, .int .i64 0, .int .i64 0, .int .i32 0, .string ⟨#[]⟩, .slice none 0 0] 32)) := (((Below.refl _ _).alloc (by simp) _).alloc (by simp) _)
  have hx0 : (w.alloc (.cells (scrA s (.slice ca s.cs.length cc) (.slice ta s.tabs.length tc) (.slice ga s.gone.length gc)) 32)).heap[w.heap.size]? = some (.cells (scrA s (.slice ca s.cs.length cc) (.slice ta s.tabs.length tc) (.slice ga s.gone.length gc)) 32 (0, 0)) := by
    have h := heap_alloc_new w (.cells (scrA s (.slice ca s.cs.length cc) (.slice ta s.tabs.length tc) (.slice ga s.gone.length gc)) 32)
    have e : w.heap.size = w.heap.size := by simp
    rw [e] at h
    exact h
  have hx0 := (Below.heap_alloc (w.alloc (.cells (scrA s (.slice ca s.cs.length cc) (.slice ta s.tabs.length tc) (.slice ga s.gone.length gc)) 32)) (.cells #[.int .i64 0, .int .i64 0, .slice none 0 0, .int .i64 0, .int .i64 0, .bool false, .int .i64 0, .int .i64 0, .int .i64 0, .int .i64 0, .int .i64 0, .int .i64 0, .slice none 0 0, .int .i64 0, .int .i64 0, .int .i64 0, .int .i64 0, .int .i64 0, .int .i64 0, .int .i32 0, .string ⟨#[]⟩, .slice none 0 0] 32) _ (heap_lt hx0)).trans hx0
  have hx1 : ((w.alloc (.cells (scrA s (.slice ca s.cs.length cc) (.slice ta s.tabs.length tc) (.slice ga s.gone.length gc)) 32)).alloc (.cells #[.int .i64 0, .int .i64 0, .slice none 0 0, .int .i64 0, .int .i64 0, .bool false, .int .i64 0, .int .i64 0, .int .i64 0, .int .i64 0, .int .i64 0, .int .i64 0, .slice none 0 0, .int .i64 0, .int .i64 0, .int .i64 0, .int .i64 0, .int .i64 0, .int .i64 0, .int .i32 0, .string ⟨#[]⟩, .slice none 0 0] 32)).heap[w.heap.size + 1]? = some (.cells #[.int .i64 0, .int .i64 0, .slice none 0 0, .int .i64 0, .int .i64 0, .bool false, .int .i64 0, .int .i64 0, .int .i64 0, .int .i64 0, .int .i64 0, .int .i64 0, .slice none 0 0, .int .i64 0, .int .i64 0, .int .i64 0, .int .i64 0, .int .i64 0, .int .i64 0, .int .i32 0, .string ⟨#[]⟩, .slice none 0 0] 32 (0, 0)) := by
    have h := heap_alloc_new (w.alloc (.cells (scrA s (.slice ca s.cs.length cc) (.slice ta s.tabs.length tc) (.slice ga s.gone.length gc)) 32)) (.cells #[.int .i64 0, .int .i64 0, .slice none 0 0, .int .i64 0, .int .i64 0, .bool false, .int .i64 0, .int .i64 0, .int .i64 0, .int .i64 0, .int .i64 0, .int .i64 0, .slice none 0 0, .int .i64 0, .int .i64 0, .int .i64 0, .int .i64 0, .int .i64 0, .int .i64 0, .int .i32 0, .string ⟨#[]⟩, .slice none 0 0] 32)
    have e : (w.alloc (.cells (scrA s (.slice ca s.cs.length cc) (.slice ta s.tabs.length tc) (.slice ga s.gone.length gc)) 32)).heap.size = w.heap.size + 1 := by simp
    rw [e] at h
    exact h
  have HX0 : Hid _ := hx0
  have HXR : Hid _ := hx1
  have HKB : Hid _ := hkb
  have HC := hC _ 0 hkb
  have hsz : w.heap.size ≤ ((w.alloc (.cells (scrA s (.slice ca s.cs.length cc) (.slice ta s.tabs.length tc) (.slice ga s.gone.length gc)) 32)).alloc (.cells #[.int .i64 0, .int .i64 0, .slice none 0 0, .int .i64 0, .int .i64 0, .bool false, .int .i64 0, .int .i64 0, .int .i64 0, .int .i64 0, .int .i64 0, .int .i64 0, .slice none 0 0, .int .i64 0, .int .i64 0, .int .i64 0, .int .i64 0, .int .i64 0, .int .i64 0, .int .i32 0, .string ⟨#[]⟩, .slice none 0 0] 32)).heap.size := hkb.size
  clear hkb hV hC hx0 hx1
  go_enter Tryd.func37, Tryd.ntmps37
  go_upto_region 1 with fail
  generalize ((w.alloc (.cells (scrA s (.slice ca s.cs.length cc) (.slice ta s.tabs.length tc) (.slice ga s.gone.length gc)) 32)).alloc (.cells #[.int .i64 0, .int .i64 0, .slice none 0 0, .int .i64 0, .int .i64 0, .bool false, .int .i64 0, .int .i64 0, .int .i64 0, .int .i64 0, .int .i64 0, .int .i64 0, .slice none 0 0, .int .i64 0, .int .i64 0, .int .i64 0, .int .i64 0, .int .i64 0, .int .i64 0, .int .i32 0, .string ⟨#[]⟩, .slice none 0 0] 32)) = X at *
  go_wp2_with (refine wpList_load_row rfl 32 (.tmp 1) rfl w.heap.size rfl _ _ _ _ HX0.out Tryd.underlying32 rfl (by kernel_rfl) ?_)
  refine HC.mono ?_
  rintro e V ⟨cv', tv', gv', rfl, hO, c2⟩
  obtain ⟨a1, n1, c1, a2, n2, c2', a3, n3, c3, rfl, rfl, rfl⟩ := hO.shapes
  have HO : Hid (ScrO V 0 _ s' _ _ _) := hO
  have HR : Hid (V.heap[w.heap.size + 1]? = _) := Grd.carry HXR.out c2
  have HB : Hid (Below w.heap.size w V) := HKB.out.trans (c2.mono HKB.out.size)
  clear hO c2 HC
  go_wp2_with (refine wpList_store_row rfl 32 (.tmp 2) (.tmp 6) rfl (w.heap.size + 1) (scrA s' (.slice a1 n1 c1) (.slice a2 n2 c2') (.slice a3 n3 c3)) rfl rfl _ _ HR.out (by kernel_rfl) rfl (scr_one _ _ _ _ _ _ _ _ _ _) ?_)
  (try simp only [Exit.inBlock, Exit.then])
  refine bodyPost_ret (v := .tuple #[.agg (scrA s' (.slice a1 n1 c1) (.slice a2 n2 c2') (.slice a3 n3 c3)), .int .i64 er]) ?_ rfl ⟨_, _, _, rfl, ?_, below_setRow HB.out (by omega) _⟩
  · exact Grd.results_row_tmp rfl _ _ (w.heap.size + 1) _ _ _ _ rfl (setRow_heap _ _ _ _ _ _ HR.out) Tryd.underlying32 rfl (by kernel_rfl) _ rfl
  · exact (ScrO.off HO.out HR.out screen_is (by omega) fun k hk => setRow_other _ _ _ _ hk).mono hsz
set_option maxHeartbeats 2000000 in
set_option maxRecDepth 100000 in
theorem modeRestore_calls (s s' : Scr) (cv tv gv : Value) (er : Int) (w0 w : World) (hV : ScrV w0 s cv tv gv) (hM : w0.heap.size ≤ w.heap.size)
    (hC : ∀ (W : World) (_B : Nat), Below w.heap.size w W → Calls Tryd.prog 87 #[.agg (scrA s cv tv gv), .func (.func 91) #[] #[]] W (Made w0 W s' er)) :
    Calls Tryd.prog 39 #[.agg (scrA s cv tv gv)] w (Made w0 w s' er) := by
  obtain ⟨ca, cc, rfl⟩ := hV.c.shape
  obtain ⟨ta, tc, rfl⟩ := hV.t.slice
  obtain ⟨ga, gc, rfl⟩ := hV.g.slice
  have hkb : Below w.heap.size w ((w.alloc (.cells (scrA s (.slice ca s.cs.length cc) (.slice ta s.tabs.length tc) (.slice ga s.gone.length gc)) 32)).alloc (.cells #[.int .i64 0, .int .i64 0, .slice none 0 0, .int .i64 0, .int .i64 0, .bool false, .int .i64 0, .int .i64 0, .int .i64 0, .int .i64 0, .int .i64 0, .int .i64 0, .slice none 0 0, .int .i64 0, .int .i64 0, .int .i64 0, .int .i64 0, .int .i64 0, .int .i64 0, .int .i32 0, .string ⟨#[]⟩, .slice none 0 0] 32)) := (((Below.refl _ _).alloc (by simp) _).alloc (by simp) _)
  have hx0 : (w.alloc (.cells (scrA s (.slice ca s.cs.length cc) (.slice ta s.tabs.length tc) (.slice ga s.gone.length gc)) 32)).heap[w.heap.size]? = some (.cells (scrA s (.slice ca s.cs.length cc) (.slice ta s.tabs.length tc) (.slice ga s.gone.length gc)) 32 (0, 0)) := by
    have h := heap_alloc_new w (.cells (scrA s (.slice ca s.cs.length cc) (.slice ta s.tabs.length tc) (.slice ga s.gone.length gc)) 32)
    have e : w.heap.size = w.heap.size := by simp
    rw [e] at h
    exact h
  have hx0 := (Below.heap_alloc (w.alloc (.cells (scrA s (.slice ca s.cs.length cc) (.slice ta s.tabs.length tc) (.slice ga s.gone.length gc)) 32)) (.cells #[.int .i64 0, .int .i64 0, .slice none 0 0, .int .i64 0, .int .i64 0, .bool false, .int .i64 0, .int .i64 0, .int .i64 0, .int .i64 0, .int .i64 0, .int .i64 0, .slice none 0 0, .int .i64 0, .int .i64 0, .int .i64 0, .int .i64 0, .int .i64 0, .int .i64 0, .int .i32 0, .string ⟨#[]⟩, .slice none 0 0] 32) _ (heap_lt hx0)).trans hx0
  have hx1 : ((w.alloc (.cells (scrA s (.slice ca s.cs.length cc) (.slice ta s.tabs.length tc) (.slice ga s.gone.length gc)) 32)).alloc (.cells #[.int .i64 0, .int .i64 0, .slice none 0 0, .int .i64 0, .int .i64 0, .bool false, .int .i64 0, .int .i64 0, .int .i64 0, .int .i64 0, .int .i64 0, .int .i64 0, .slice none 0 0, .int .i64 0, .int .i64 0, .int .i64 0, .int .i64 0, .int .i64 0, .int .i64 0, .int .i32 0, .string ⟨#[]⟩, .slice none 0 0] 32)).heap[w.heap.size + 1]? = some (.cells #[.int .i64 0, .int .i64 0, .slice none 0 0, .int .i64 0, .int .i64 0, .bool false, .int .i64 0, .int .i64 0, .int .i64 0, .int .i64 0, .int .i64 0, .int .i64 0, .slice none 0 0, .int .i64 0, .int .i64 0, .int .i64 0, .int .i64 0, .int .i64 0, .int .i64 0, .int .i32 0, .string ⟨#[]⟩, .slice none 0 0] 32 (0, 0)) := by
    have h := heap_alloc_new (w.alloc (.cells (scrA s (.slice ca s.cs.length cc) (.slice ta s.tabs.length tc) (.slice ga s.gone.length gc)) 32)) (.cells #[.int .i64 0, .int .i64 0, .slice none 0 0, .int .i64 0, .int .i64 0, .bool false, .int .i64 0, .int .i64 0, .int .i64 0, .int .i64 0, .int .i64 0, .int .i64 0, .slice none 0 0, .int .i64 0, .int .i64 0, .int .i64 0, .int .i64 0, .int .i64 0, .int .i64 0, .int .i32 0, .string ⟨#[]⟩, .slice none 0 0] 32)
    have e : (w.alloc (.cells (scrA s (.slice ca s.cs.length cc) (.slice ta s.tabs.length tc) (.slice ga s.gone.length gc)) 32)).heap.size = w.heap.size + 1 := by simp
    rw [e] at h
    exact h
  have HX0 : Hid _ := hx0
  have HXR : Hid _ := hx1
  have HKB : Hid _ := hkb
  have HC := hC _ 0 hkb
  have hsz : w.heap.size ≤ ((w.alloc (.cells (scrA s (.slice ca s.cs.length cc) (.slice ta s.tabs.length tc) (.slice ga s.gone.length gc)) 32)).alloc (.cells #[.int .i64 0, .int .i64 0, .slice none 0 0, .int .i64 0, .int .i64 0, .bool false, .int .i64 0, .int .i64 0, .int .i64 0, .int .i64 0, .int .i64 0, .int .i64 0, .slice none 0 0, .int .i64 0, .int .i64 0, .int .i64 0, .int .i64 0, .int .i64 0, .int .i64 0, .int .i32 0, .string ⟨#[]⟩, .slice none 0 0] 32)).heap.size := hkb.size
  clear hkb hV hC hx0 hx1
  go_enter Tryd.func39, Tryd.ntmps39
  go_upto_region 1 with fail
  generalize ((w.alloc (.cells (scrA s (.slice ca s.cs.length cc) (.slice ta s.tabs.length tc) (.slice ga s.gone.length gc)) 32)).alloc (.cells #[.int .i64 0, .int .i64 0, .slice none 0 0, .int .i64 0, .int .i64 0, .bool false, .int .i64 0, .int .i64 0, .int .i64 0, .int .i64 0, .int .i64 0, .int .i64 0, .slice none 0 0, .int .i64 0, .int .i64 0, .int .i64 0, .int .i64 0, .int .i64 0, .int .i64 0, .int .i32 0, .string ⟨#[]⟩, .slice none 0 0] 32)) = X at *
  go_wp2_with (refine wpList_load_row rfl 32 (.tmp 1) rfl w.heap.size rfl _ _ _ _ HX0.out Tryd.underlying32 rfl (by kernel_rfl) ?_)
  refine HC.mono ?_
  rintro e V ⟨cv', tv', gv', rfl, hO, c2⟩
  obtain ⟨a1, n1, c1, a2, n2, c2', a3, n3, c3, rfl, rfl, rfl⟩ := hO.shapes
  have HO : Hid (ScrO V 0 _ s' _ _ _) := hO
  have HR : Hid (V.heap[w.heap.size + 1]? = _) := Grd.carry HXR.out c2
  have HB : Hid (Below w.heap.size w V) := HKB.out.trans (c2.mono HKB.out.size)
  clear hO c2 HC
  go_wp2_with (refine wpList_store_row rfl 32 (.tmp 2) (.tmp 6) rfl (w.heap.size + 1) (scrA s' (.slice a1 n1 c1) (.slice a2 n2 c2') (.slice a3 n3 c3)) rfl rfl _ _ HR.out (by kernel_rfl) rfl (scr_one _ _ _ _ _ _ _ _ _ _) ?_)
  (try simp only [Exit.inBlock, Exit.then])
  refine bodyPost_ret (v := .tuple #[.agg (scrA s' (.slice a1 n1 c1) (.slice a2 n2 c2') (.slice a3 n3 c3)), .int .i64 er]) ?_ rfl ⟨_, _, _, rfl, ?_, below_setRow HB.out (by omega) _⟩
  · exact Grd.results_row_tmp rfl _ _ (w.heap.size + 1) _ _ _ _ rfl (setRow_heap _ _ _ _ _ _ HR.out) Tryd.underlying32 rfl (by kernel_rfl) _ rfl
  · exact (ScrO.off HO.out HR.out screen_is (by omega) fun k hk => setRow_other _ _ _ _ hk).mono hsz
set_option maxHeartbeats 2000000 in
set_option maxRecDepth 100000 in
theorem modeLook_calls (s s' : Scr) (cv tv gv : Value) (pl : Option Addr) (nl cl : Nat) (er : Int) (w0 w : World) (hV : ScrV w0 s cv tv gv) (hM : w0.heap.size ≤ w.heap.size)
    (hC : ∀ (W : World) (B1 : Nat), Below w.heap.size w W → W.cell? ⟨B1, 0, none⟩ = some (.slice pl nl cl) → Calls Tryd.prog 87 #[.agg (scrA s cv tv gv), .func (.func 89) #[] #[.pointer (some ⟨B1, 0, none⟩)]] W (Made w0 W s' er)) :
    Calls Tryd.prog 38 #[.agg (scrA s cv tv gv), .slice pl nl cl] w (Made w0 w s' er) := by
  obtain ⟨ca, cc, rfl⟩ := hV.c.shape
  obtain ⟨ta, tc, rfl⟩ := hV.t.slice
  obtain ⟨ga, gc, rfl⟩ := hV.g.slice
  have hkb : Below w.heap.size w (((w.alloc (.cells (scrA s (.slice ca s.cs.length cc) (.slice ta s.tabs.length tc) (.slice ga s.gone.length gc)) 32)).alloc (.cells #[.slice pl nl cl] 66)).alloc (.cells #[.int .i64 0, .int .i64 0, .slice none 0 0, .int .i64 0, .int .i64 0, .bool false, .int .i64 0, .int .i64 0, .int .i64 0, .int .i64 0, .int .i64 0, .int .i64 0, .slice none 0 0, .int .i64 0, .int .i64 0, .int .i64 0, .int .i64 0, .int .i64 0, .int .i64 0, .int .i32 0, .string ⟨#[]⟩, .slice none 0 0] 32)) := ((((Below.refl _ _).alloc (by simp) _).alloc (by simp) _).alloc (by simp; omega) _)
  have hx0 : (w.alloc (.cells (scrA s (.slice ca s.cs.length cc) (.slice ta s.tabs.length tc) (.slice ga s.gone.length gc)) 32)).heap[w.heap.size]? = some (.cells (scrA s (.slice ca s.cs.length cc) (.slice ta s.tabs.length tc) (.slice ga s.gone.length gc)) 32 (0, 0)) := by
    have h := heap_alloc_new w (.cells (scrA s (.slice ca s.cs.length cc) (.slice ta s.tabs.length tc) (.slice ga s.gone.length gc)) 32)
    have e : w.heap.size = w.heap.size := by simp
    rw [e] at h
    exact h
  have hx0 := (Below.heap_alloc (w.alloc (.cells (scrA s (.slice ca s.cs.length cc) (.slice ta s.tabs.length tc) (.slice ga s.gone.length gc)) 32)) (.cells #[.slice pl nl cl] 66) _ (heap_lt hx0)).trans hx0
  have hx0 := (Below.heap_alloc ((w.alloc (.cells (scrA s (.slice ca s.cs.length cc) (.slice ta s.tabs.length tc) (.slice ga s.gone.length gc)) 32)).alloc (.cells #[.slice pl nl cl] 66)) (.cells #[.int .i64 0, .int .i64 0, .slice none 0 0, .int .i64 0, .int .i64 0, .bool false, .int .i64 0, .int .i64 0, .int .i64 0, .int .i64 0, .int .i64 0, .int .i64 0, .slice none 0 0, .int .i64 0, .int .i64 0, .int .i64 0, .int .i64 0, .int .i64 0, .int .i64 0, .int .i32 0, .string ⟨#[]⟩, .slice none 0 0] 32) _ (heap_lt hx0)).trans hx0
  have hx1 : ((w.alloc (.cells (scrA s (.slice ca s.cs.length cc) (.slice ta s.tabs.length tc) (.slice ga s.gone.length gc)) 32)).alloc (.cells #[.slice pl nl cl] 66)).heap[w.heap.size + 1]? = some (.cells #[.slice pl nl cl] 66 (0, 0)) := by
    have h := heap_alloc_new (w.alloc (.cells (scrA s (.slice ca s.cs.length cc) (.slice ta s.tabs.length tc) (.slice ga s.gone.length gc)) 32)) (.cells #[.slice pl nl cl] 66)
    have e : (w.alloc (.cells (scrA s (.slice ca s.cs.length cc) (.slice ta s.tabs.length tc) (.slice ga s.gone.length gc)) 32)).heap.size = w.heap.size + 1 := by simp
    rw [e] at h
    exact h
  have hx1 := (Below.heap_alloc ((w.alloc (.cells (scrA s (.slice ca s.cs.length cc) (.slice ta s.tabs.length tc) (.slice ga s.gone.length gc)) 32)).alloc (.cells #[.slice pl nl cl] 66)) (.cells #[.int .i64 0, .int .i64 0, .slice none 0 0, .int .i64 0, .int .i64 0, .bool false, .int .i64 0, .int .i64 0, .int .i64 0, .int .i64 0, .int .i64 0, .int .i64 0, .slice none 0 0, .int .i64 0, .int .i64 0, .int .i64 0, .int .i64 0, .int .i64 0, .int .i64 0, .int .i32 0, .string ⟨#[]⟩, .slice none 0 0] 32) _ (heap_lt hx1)).trans hx1
  have hx2 : (((w.alloc (.cells (scrA s (.slice ca s.cs.length cc) (.slice ta s.tabs.length tc) (.slice ga s.gone.length gc)) 32)).alloc (.cells #[.slice pl nl cl] 66)).alloc (.cells #[.int .i64 0, .int .i64 0, .slice none 0 0, .int .i64 0, .int .i64 0, .bool false, .int .i64 0, .int .i64 0, .int .i64 0, .int .i64 0, .int .i64 0, .int .i64 0, .slice none 0 0, .int .i64 0, .int .i64 0, .int .i64 0, .int .i64 0, .int .i64 0, .int .i64 0, .int .i32 0, .string ⟨#[]⟩, .slice none 0 0] 32)).heap[w.heap.size + 2]? = some (.cells #[.int .i64 0, .int .i64 0, .slice none 0 0, .int .i64 0, .int .i64 0, .bool false, .int .i64 0, .int .i64 0, .int .i64 0, .int .i64 0, .int .i64 0, .int .i64 0, .slice none 0 0, .int .i64 0, .int .i64 0, .int .i64 0, .int .i64 0, .int .i64 0, .int .i64 0, .int .i32 0, .string ⟨#[]⟩, .slice none 0 0] 32 (0, 0)) := by
    have h := heap_alloc_new ((w.alloc (.cells (scrA s (.slice ca s.cs.length cc) (.slice ta s.tabs.length tc) (.slice ga s.gone.length gc)) 32)).alloc (.cells #[.slice pl nl cl] 66)) (.cells #[.int .i64 0, .int .i64 0, .slice none 0 0, .int .i64 0, .int .i64 0, .bool false, .int .i64 0, .int .i64 0, .int .i64 0, .int .i64 0, .int .i64 0, .int .i64 0, .slice none 0 0, .int .i64 0, .int .i64 0, .int .i64 0, .int .i64 0, .int .i64 0, .int .i64 0, .int .i32 0, .string ⟨#[]⟩, .slice none 0 0] 32)
    have e : ((w.alloc (.cells (scrA s (.slice ca s.cs.length cc) (.slice ta s.tabs.length tc) (.slice ga s.gone.length gc)) 32)).alloc (.cells #[.slice pl nl cl] 66)).heap.size = w.heap.size + 2 := by simp
    rw [e] at h
    exact h
  have HX0 : Hid _ := hx0
  have HXR : Hid _ := hx2
  have HKB : Hid _ := hkb
  have HC := hC _ (w.heap.size + 1) hkb (cell_onem hx1)
  have hsz : w.heap.size ≤ (((w.alloc (.cells (scrA s (.slice ca s.cs.length cc) (.slice ta s.tabs.length tc) (.slice ga s.gone.length gc)) 32)).alloc (.cells #[.slice pl nl cl] 66)).alloc (.cells #[.int .i64 0, .int .i64 0, .slice none 0 0, .int .i64 0, .int .i64 0, .bool false, .int .i64 0, .int .i64 0, .int .i64 0, .int .i64 0, .int .i64 0, .int .i64 0, .slice none 0 0, .int .i64 0, .int .i64 0, .int .i64 0, .int .i64 0, .int .i64 0, .int .i64 0, .int .i32 0, .string ⟨#[]⟩, .slice none 0 0] 32)).heap.size := hkb.size
  clear hkb hV hC hx0 hx1 hx2
  go_enter Tryd.func38, Tryd.ntmps38
  go_upto_region 1 with fail
  generalize (((w.alloc (.cells (scrA s (.slice ca s.cs.length cc) (.slice ta s.tabs.length tc) (.slice ga s.gone.length gc)) 32)).alloc (.cells #[.slice pl nl cl] 66)).alloc (.cells #[.int .i64 0, .int .i64 0, .slice none 0 0, .int .i64 0, .int .i64 0, .bool false, .int .i64 0, .int .i64 0, .int .i64 0, .int .i64 0, .int .i64 0, .int .i64 0, .slice none 0 0, .int .i64 0, .int .i64 0, .int .i64 0, .int .i64 0, .int .i64 0, .int .i64 0, .int .i32 0, .string ⟨#[]⟩, .slice none 0 0] 32)) = X at *
  go_wp2_with (refine wpList_load_row rfl 32 (.tmp 2) rfl w.heap.size rfl _ _ _ _ HX0.out Tryd.underlying32 rfl (by kernel_rfl) ?_)
  refine HC.mono ?_
  rintro e V ⟨cv', tv', gv', rfl, hO, c2⟩
  obtain ⟨a1, n1, c1, a2, n2, c2', a3, n3, c3, rfl, rfl, rfl⟩ := hO.shapes
  have HO : Hid (ScrO V 0 _ s' _ _ _) := hO
  have HR : Hid (V.heap[w.heap.size + 2]? = _) := Grd.carry HXR.out c2
  have HB : Hid (Below w.heap.size w V) := HKB.out.trans (c2.mono HKB.out.size)
  clear hO c2 HC
  go_wp2_with (refine wpList_store_row rfl 32 (.tmp 4) (.tmp 9) rfl (w.heap.size + 2) (scrA s' (.slice a1 n1 c1) (.slice a2 n2 c2') (.slice a3 n3 c3)) rfl rfl _ _ HR.out (by kernel_rfl) rfl (scr_one _ _ _ _ _ _ _ _ _ _) ?_)
  (try simp only [Exit.inBlock, Exit.then])
  refine bodyPost_ret (v := .tuple #[.agg (scrA s' (.slice a1 n1 c1) (.slice a2 n2 c2') (.slice a3 n3 c3)), .int .i64 er]) ?_ rfl ⟨_, _, _, rfl, ?_, below_setRow HB.out (by omega) _⟩
  · exact Grd.results_row_tmp rfl _ _ (w.heap.size + 2) _ _ _ _ rfl (setRow_heap _ _ _ _ _ _ HR.out) Tryd.underlying32 rfl (by kernel_rfl) _ rfl
  · exact (ScrO.off HO.out HR.out screen_is (by omega) fun k hk => setRow_other _ _ _ _ hk).mono hsz
end Put
end Go.Proofs.YtnkeahfcpbepjaaDoor

/- A screen that came in, where it lies. -/
namespace Go.Proofs.YtnkeahfcpbepjaaDoor
open Go.ChangeShapes Go.WideShapes Go.ChangeAt Go.RowKit
namespace Put
/-- A screen that came in, where it lies. -/
structure Met (w0 w : World) (s : Scr) (cv tv gv : Value) : Prop where
  t : Txt.Tab w
  v : ScrV w0 s cv tv gv
  b : Below w0.heap.size w0 w
  f : Fits s
theorem Met.next {w0 w W : World} {s : Scr} {cv tv gv : Value} (h : Met w0 w s cv tv gv) (hb : Below w.heap.size w W) : Met w0 W s cv tv gv := ⟨Grd.Tab.next h.t hb, h.v, h.b.trans (hb.mono h.b.size), h.f⟩
end Put
end Go.Proofs.YtnkeahfcpbepjaaDoor
