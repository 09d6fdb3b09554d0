/- The tables of packages strconv and bits as the rows list them. -/
import Derived.Test.YtmgmdijhiplalaaDoorParseWr1
import Derived.Test.YtmgmdijhiplalaaDoorRows
import Derived.Lib.LaidU8
import Derived.Deep.Strs
import Derived.ChangeSlices
import Derived.SizedLaws
import Derived.Test.YtmgmdijhiplalaaDoorParseCopy
import Derived.Lib.SmallJoins
import Derived.Test.YtmgmdijhiplalaaDoorParseWr2
import Derived.Deep.Slices
namespace Go.Proofs.YtmgmdijhiplalaaDoor
open Go.ChangeShapes Go.WideShapes Go.ChangeAt Go.RowKit
namespace Prs
theorem p10_of_reads {w : World} (h : Lib.VarReads Tryd.prog w "internal/strconv.uint64pow10" Rows.laid_internal_strconv_uint64pow10) : P10 w := by
  obtain ⟨g, t, cs, fuel, p, hg, hty, hvar, hd⟩ := h
  obtain rfl := Option.some.inj ((show Tryd.prog.globalNamed "internal/strconv.uint64pow10" = some 3 by kernel_rfl).symm.trans hg)
  obtain rfl := Option.some.inj ((show (Tryd.prog.globals[3]?).map (fun x => x.type) = some 118 by kernel_rfl).symm.trans hty)
  have hd2 : DataW.trod _ Tryd.prog w _ _ _ fuel 118 cs.toList = some (Lib.tabData .u64 Lib.pow10Tab, p) := hd.trans (by congr 2)
  have h := Lib.cells_of_tab Tryd.underlying118 Tryd.underlying112 (by kernel_rfl) (by kernel_rfl) hd2
  unfold P10 Lib.TabIs
  rw [hvar, ← h]
def deB32 : Array Value := ([0, 1, 28, 2, 29, 14, 24, 3, 30, 22, 20, 15, 25, 17, 4, 8, 31, 27, 13, 23, 21, 19, 16, 7, 26, 12, 18, 6, 11, 5, 10, 9] : List Int).toArray.map fun z => Value.int .u8 z
def deB64 : Array Value := ([0, 1, 56, 2, 57, 49, 28, 3, 61, 58, 42, 50, 38, 29, 17, 4, 62, 47, 59, 36, 45, 43, 51, 22, 53, 39, 33, 30, 24, 18, 12, 5, 63, 55, 48, 27, 60, 41, 37, 16, 46, 35, 44, 21, 52, 32, 23, 11, 54, 26, 40, 15, 34, 20, 31, 10, 25, 14, 19, 9, 13, 8, 7, 6] : List Int).toArray.map fun z => Value.int .u8 z
def p10Cells : Array Value := (Lib.pow10Tab.map fun z => Value.int .u64 z).toArray
end Prs
end Go.Proofs.YtmgmdijhiplalaaDoor

/- A state out of what the row reads. -/
namespace Go.Proofs.YtmgmdijhiplalaaDoor
open Go.ChangeShapes Go.WideShapes Go.ChangeAt Go.RowKit
namespace Prs
section
variable {H : Type} {enc : TypeId × Value → H} {W : World}
theorem array7 {α : Type} {cs : Array α} (h : cs.size = 7) : ∃ c0 c1 c2 c3 c4 c5 c6, cs = #[c0, c1, c2, c3, c4, c5, c6] := by
  obtain ⟨l⟩ := cs
  match l, h with
  | [c0, c1, c2, c3, c4, c5, c6], _ => exact ⟨c0, c1, c2, c3, c4, c5, c6, rfl⟩
theorem trod_struct7 {P : Program} {base : Nat} {spare : Nat → Bool} {held : Bool} {t : TypeId} {f0 f1 f2 f3 f4 f5 f6 : Field} {fuel : Nat} {cs : List Value} {x : DataW H × List MemPlace} (ht : P.underlying t = some (.struct #[f0, f1, f2, f3, f4, f5, f6])) (h : DataW.trod enc P W base spare held fuel t cs = some x) :
    ∃ y0 y1 y2 y3 y4 y5 y6 n, x = (.agg [y0.1, y1.1, y2.1, y3.1, y4.1, y5.1, y6.1], y0.2 ++ (y1.2 ++ (y2.2 ++ (y3.2 ++ (y4.2 ++ (y5.2 ++ y6.2)))))) ∧ cs.length = P.cellsOf t ∧ DataW.trod enc P W base spare held n f0.type ((cs.drop f0.offset).take (P.cellsOf f0.type)) = some y0 ∧
      DataW.trod enc P W base spare held n f1.type ((cs.drop f1.offset).take (P.cellsOf f1.type)) = some y1 ∧ DataW.trod enc P W base spare held n f2.type ((cs.drop f2.offset).take (P.cellsOf f2.type)) = some y2 ∧
      DataW.trod enc P W base spare held n f3.type ((cs.drop f3.offset).take (P.cellsOf f3.type)) = some y3 ∧ DataW.trod enc P W base spare held n f4.type ((cs.drop f4.offset).take (P.cellsOf f4.type)) = some y4 ∧
      DataW.trod enc P W base spare held n f5.type ((cs.drop f5.offset).take (P.cellsOf f5.type)) = some y5 ∧ DataW.trod enc P W base spare held n f6.type ((cs.drop f6.offset).take (P.cellsOf f6.type)) = some y6 := by
  obtain ⟨xs, n, _, rfl, hl, hlen, hf⟩ := DataW.trod_struct ht h
  match xs, hlen with
  | [y0, y1, y2, y3, y4, y5, y6], _ => exact ⟨y0, y1, y2, y3, y4, y5, y6, n, by simp, hl, by simpa using hf 0 f0 rfl, by simpa using hf 1 f1 rfl, by simpa using hf 2 f2 rfl, by simpa using hf 3 f3 rfl, by simpa using hf 4 f4 rfl, by simpa using hf 5 f5 rfl, by simpa using hf 6 f6 rfl⟩
theorem open_intsV {base : Nat} {spare : Nat → Bool} {held : Bool} {fuel : Nat} {v : Value} {x : DataW H × List MemPlace} (hsp : ∀ b, spare b = true) (h : DataW.trod enc Tryd.prog W base spare held fuel 22 [v] = some x) :
    ∃ (l : List Int) (p : Option Addr) (c : Nat), v = .slice p l.length c ∧ IntsV W (.slice p l.length c) l ∧ l.length ≤ maxLen ∧ (l = [] ∨ ∃ el sp, x.1 = .slice el sp ∧ l.length = el.length) := by
  rcases open_ints Tryd.underlying22 Tryd.underlying3 (by kernel_rfl) h with ⟨hcs, hx⟩ | ⟨a, len, cap, zs, hcs, _, hl, hm, hz, hx, hcell, hwz⟩
  · simp only [List.cons.injEq, and_true] at hcs
    subst hcs
    exact ⟨[], none, 0, rfl, .inl ⟨rfl, _, _, rfl⟩, Nat.zero_le _, .inl rfl⟩
  · simp only [List.cons.injEq, and_true] at hcs
    subst hcs
    rw [hsp, if_pos rfl] at hz
    have hlen : (zs.take len).length = len := by simp; omega
    refine ⟨zs.take len, some a, cap, by rw [hlen], ?_, by omega, .inr ⟨_, _, by rw [hx], by simp [lits]⟩⟩
    rw [hlen]
    by_cases h0 : len = 0
    · subst h0
      exact .inl ⟨by simp, _, _, rfl⟩
    · obtain ⟨b, off, spot⟩ := a
      have hspot : spot = none := by simpa [Addr.add] using World.cell?_spot (hcell 0 (by omega))
      subst hspot
      refine .inr ⟨b, off, cap, by rw [hlen], fun j u hj => ?_⟩
      simp only [ints, List.getElem?_map, Option.map_eq_some_iff] at hj
      obtain ⟨y, hy, rfl⟩ := hj
      have hjl : j < len := by
        have := (List.getElem?_eq_some_iff.1 hy).1
        omega
      rw [hcell j (by omega)]
      rw [List.getElem?_take, if_pos hjl] at hy
      rw [List.getD_eq_getElem?_getD, hy]
      rfl
theorem u8_in {k : Int} (h : (Lit.int .u8 k).wf = true) : 0 ≤ k ∧ k ≤ 255 := by
  have e1 : IntKind.u8.min = 0 := rfl
  have e2 : IntKind.u8.max = 255 := rfl
  simpa [Lit.wf, e1, e2] using h
set_option maxRecDepth 100000 in
theorem open_state {r : Reach} {b0 : Nat} {v : Value} {d : DataW H} {p : List MemPlace} (hv : Value.okWide Tryd.prog W r b0 24 v) (h : DataW.Trod enc Tryd.prog W 0 (fun _ => true) true 24 v d p) :
    ∃ (s : St) (pa : Option Addr) (pc : Nat), v = .agg #[.int .i64 s.at', .int .u8 s.mark, .string s.mid, .slice pa s.ps.length pc, .string s.txt, .string s.left, .bool s.late] ∧ IntsV W (.slice pa s.ps.length pc) s.ps ∧ (s.mid.size ≤ maxLen ∧ s.txt.size ≤ maxLen ∧ s.left.size ≤ maxLen ∧ s.ps.length ≤ maxLen) ∧ (0 ≤ s.mark ∧ s.mark ≤ 255) ∧ (s.ps = [] ∨ ∃ d0 d1 d2 el sp d4 d5 d6, d = .agg [d0, d1, d2, .slice el sp, d4, d5, d6] ∧ s.ps.length = el.length) := by
  obtain ⟨cs, rfl, hsz⟩ := okWide_struct Tryd.underlying24 hv
  obtain ⟨c0, c1, c2, c3, c4, c5, c6, rfl⟩ := array7 (hsz.trans (by kernel_rfl))
  obtain ⟨fuel, hf⟩ := h
  obtain ⟨y0, y1, y2, y3, y4, y5, y6, n, hx, _, h0, h1, h2, h3, h4, h5, h6⟩ := trod_struct7 Tryd.underlying24 hf
  simp only [Prod.mk.injEq] at hx
  simp only [show Tryd.prog.cellsOf 3 = 1 by kernel_rfl, show Tryd.prog.cellsOf 5 = 1 by kernel_rfl, show Tryd.prog.cellsOf 9 = 1 by kernel_rfl, show Tryd.prog.cellsOf 22 = 1 by kernel_rfl, show Tryd.prog.cellsOf 4 = 1 by kernel_rfl, Value.cells] at h0 h1 h2 h3 h4 h5 h6
  obtain ⟨a0, k0, _, w0⟩ := DataW.trod_int Tryd.underlying3 h0
  obtain ⟨a1, k1, _, w1⟩ := DataW.trod_int Tryd.underlying5 h1
  obtain ⟨a2, k2, _, w2⟩ := DataW.trod_string Tryd.underlying9 h2
  obtain ⟨a4, k4, _, w4⟩ := DataW.trod_string Tryd.underlying9 h4
  obtain ⟨a5, k5, _, w5⟩ := DataW.trod_string Tryd.underlying9 h5
  obtain ⟨a6, k6, _⟩ := DataW.trod_bool Tryd.underlying4 h6
  obtain ⟨l, pa, pc, hv3, hI, hlm, hz⟩ := open_intsV (fun _ => rfl) (show DataW.trod enc Tryd.prog W 0 (fun _ => true) true n 22 [c3] = some y3 from h3)
  obtain rfl : c0 = _ := by simpa using k0
  obtain rfl : c1 = _ := by simpa using k1
  obtain rfl : c2 = _ := by simpa using k2
  obtain rfl : c4 = _ := by simpa using k4
  obtain rfl : c5 = _ := by simpa using k5
  obtain rfl : c6 = _ := by simpa using k6
  subst hv3
  refine ⟨⟨a0, a1, a2, l, a4, a5, a6⟩, pa, pc, rfl, hI, ⟨w2, w4, w5, hlm⟩, u8_in w1, ?_⟩
  rcases hz with h | ⟨el, sp, hy, hl⟩
  · exact .inl h
  · exact .inr ⟨_, _, _, el, sp, _, _, _, by rw [hx.1, hy], hl⟩
end
end Prs
end Go.Proofs.YtmgmdijhiplalaaDoor

/- Events out of what the row reads, and how many values they hold. -/
namespace Go.Proofs.YtmgmdijhiplalaaDoor
open Go.ChangeShapes Go.WideShapes Go.ChangeAt Go.RowKit
namespace Prs
section
variable {H : Type} {enc : TypeId × Value → H} {W : World}
theorem bulk_pos (d : DataW H) : 1 ≤ Rows.uptoBulk d := by
  cases d with
  | lit l => cases l <;> simp [Rows.uptoBulk]
  | _ => simp [Rows.uptoBulk]
theorem bulk_mem {d : DataW H} : ∀ {l : List (DataW H)}, d ∈ l → Rows.uptoBulk d ≤ Rows.uptoBulkAll l
  | x :: l, h => by
    rcases List.mem_cons.1 h with rfl | h
    · simp only [Rows.uptoBulkAll]; omega
    · have := bulk_mem h
      simp only [Rows.uptoBulkAll]; omega
theorem bulk_len : ∀ (l : List (DataW H)), l.length ≤ Rows.uptoBulkAll l
  | [] => by simp
  | x :: l => by
    have := bulk_len l
    have := bulk_pos x
    simp only [Rows.uptoBulkAll, List.length_cons]; omega
theorem open_intsW {base : Nat} {spare : Nat → Bool} {held : Bool} {fuel : Nat} {v : Value} {x : DataW H × List MemPlace} (hsp : ∀ b, spare b = true) (h : DataW.trod enc Tryd.prog W base spare held fuel 22 [v] = some x) :
    ∃ (l : List Int), IntsV W v l ∧ (∀ y ∈ l, -9223372036854775808 ≤ y ∧ y ≤ 9223372036854775807) ∧ l.length ≤ Rows.uptoBulk x.1 := by
  obtain ⟨l, p, c, rfl, hI, -, hz⟩ := open_intsV hsp h
  rcases open_ints Tryd.underlying22 Tryd.underlying3 (by kernel_rfl) h with ⟨hcs, hx⟩ | ⟨a, len, cap, zs, hcs, _, hl, hm, hzs, hx, hcell, hwz⟩
  · simp only [List.cons.injEq, and_true, Value.slice.injEq] at hcs
    have : l = [] := List.eq_nil_of_length_eq_zero hcs.2.1
    subst this
    exact ⟨[], hI, by simp, by simp⟩
  · simp only [List.cons.injEq, and_true, Value.slice.injEq] at hcs
    obtain ⟨rfl, hlen, rfl⟩ := hcs
    refine ⟨l, hI, fun y hy => ?_, ?_⟩
    · obtain ⟨j, hj, rfl⟩ := List.mem_iff_getElem.1 hy
      rcases hI with ⟨rfl, -⟩ | ⟨b, o, c', hv, hc⟩
      · exact absurd hj (Nat.not_lt_zero _)
      · simp only [Value.slice.injEq, Option.some.injEq] at hv
        obtain ⟨rfl, -, rfl⟩ := hv
        have h1 := hc j (.int .i64 l[j]) (by simp [ints, List.getElem?_eq_getElem hj])
        rw [hsp, if_pos rfl] at hzs
        have h2 := hcell j (by omega)
        rw [h2] at h1
        injection h1 with h1
        injection h1 with _ h1
        have h5 := hwz (zs.getD j 0) (by rw [List.getD_eq_getElem?_getD, List.getElem?_eq_getElem (by omega)]; exact List.getElem_mem _)
        have e1 : IntKind.i64.min = -9223372036854775808 := rfl
        have e2 : IntKind.i64.max = 9223372036854775807 := rfl
        rw [← h1]
        simpa [Lit.wf, e1, e2] using h5
    · rcases hz with h | ⟨el, sp, hy, hl2⟩
      · rw [h]; simp
      · rw [hy, hl2]
        have := bulk_len el
        simp only [Rows.uptoBulk]
        omega
set_option maxRecDepth 100000 in
theorem open_event {fuel : Nat} {cs : List Value} {y : DataW H × List MemPlace} (h : DataW.trod enc Tryd.prog W 0 (fun _ => true) true fuel 37 cs = some y) :
    ∃ (e : Ev) (q : Value), cs = evCells e q ∧ IntsV W q e.ps ∧ (0 ≤ e.fin ∧ e.fin ≤ 255) ∧ (0 ≤ e.mark ∧ e.mark ≤ 255) ∧ (∀ z ∈ e.ps, -9223372036854775808 ≤ z ∧ z ≤ 9223372036854775807) ∧ e.ps.length ≤ Rows.uptoBulk y.1 ∧ e.mid.size ≤ Rows.uptoBulk y.1 ∧ e.txt.size ≤ Rows.uptoBulk y.1 := by
  obtain ⟨y0, y1, y2, y3, y4, y5, y6, n, hx, hl, h0, h1, h2, h3, h4, h5, h6⟩ := trod_struct7 Tryd.underlying37 h
  rw [show Tryd.prog.cellsOf 37 = 7 by kernel_rfl] at hl
  match cs, hl with
  | [c0, c1, c2, c3, c4, c5, c6], _ =>
    simp only [show Tryd.prog.cellsOf 3 = 1 by kernel_rfl, show Tryd.prog.cellsOf 21 = 1 by kernel_rfl, show Tryd.prog.cellsOf 5 = 1 by kernel_rfl, show Tryd.prog.cellsOf 9 = 1 by kernel_rfl, show Tryd.prog.cellsOf 22 = 1 by kernel_rfl] at h0 h1 h2 h3 h4 h5 h6
    obtain ⟨a0, k0, _, w0⟩ := DataW.trod_int Tryd.underlying3 h0
    obtain ⟨a1, k1, _, w1⟩ := DataW.trod_int Tryd.underlying21 h1
    obtain ⟨a2, k2, _, w2⟩ := DataW.trod_int Tryd.underlying5 h2
    obtain ⟨a3, k3, _, w3⟩ := DataW.trod_int Tryd.underlying5 h3
    obtain ⟨a4, k4, g4, w4⟩ := DataW.trod_string Tryd.underlying9 h4
    obtain ⟨a6, k6, g6, w6⟩ := DataW.trod_string Tryd.underlying9 h6
    obtain ⟨l, hI, hw, hbl⟩ := open_intsW (fun _ => rfl) (show DataW.trod enc Tryd.prog W 0 (fun _ => true) true n 22 [c5] = some y5 from h5)
    obtain rfl : c0 = _ := by simpa using k0
    obtain rfl : c1 = _ := by simpa using k1
    obtain rfl : c2 = _ := by simpa using k2
    obtain rfl : c3 = _ := by simpa using k3
    obtain rfl : c4 = _ := by simpa using k4
    obtain rfl : c6 = _ := by simpa using k6
    have hb : Rows.uptoBulk y.1 = Rows.uptoBulk y0.1 + (Rows.uptoBulk y1.1 + (Rows.uptoBulk y2.1 + (Rows.uptoBulk y3.1 + (Rows.uptoBulk y4.1 + (Rows.uptoBulk y5.1 + (Rows.uptoBulk y6.1 + 0)))))) + 1 := by
      rw [hx]
      simp only [Rows.uptoBulk, Rows.uptoBulkAll]
    have b4 : Rows.uptoBulk y4.1 = a4.data.toList.length + 1 := by rw [g4]; simp only [Rows.uptoBulk]
    have b6 : Rows.uptoBulk y6.1 = a6.data.toList.length + 1 := by rw [g6]; simp only [Rows.uptoBulk]
    have s4 : a4.size = a4.data.toList.length := by rw [Array.length_toList]; rfl
    have s6 : a6.size = a6.data.toList.length := by rw [Array.length_toList]; rfl
    exact ⟨⟨a0, a1, a2, a3, a4, l, a6⟩, c5, rfl, hI, u8_in w2, u8_in w3, hw, by show l.length ≤ _; omega, by show a4.size ≤ _; omega, by show a6.size ≤ _; omega⟩
instance : Inhabited Ev := ⟨evP 0⟩
theorem und_evs : Tryd.prog.underlying 26 = some (.slice 37) := by kernel_rfl
theorem open_events {fuel : Nat} {v : Value} {y : DataW H × List MemPlace} (h : DataW.trod enc Tryd.prog W 0 (fun _ => true) true fuel 26 [v] = some y) :
    ∃ (es : List Ev) (p : Option Addr) (c : Nat), v = .slice p es.length c ∧ EvsR W v es ∧ es.length ≤ Rows.uptoBulk y.1 ∧ (∀ e ∈ es, (0 ≤ e.fin ∧ e.fin ≤ 255) ∧ (0 ≤ e.mark ∧ e.mark ≤ 255) ∧ (∀ z ∈ e.ps, -9223372036854775808 ≤ z ∧ z ≤ 9223372036854775807) ∧ e.ps.length ≤ Rows.uptoBulk y.1 ∧ e.mid.size ≤ Rows.uptoBulk y.1 ∧ e.txt.size ≤ Rows.uptoBulk y.1) := by
  rcases Deep.open_slice und_evs h with ⟨hcs, _⟩ | ⟨a, len, cap, m, n, D, Pl, hcs, _, hl, hm, hmm, rfl, hx⟩
  · simp at hcs
    subst hcs
    exact ⟨[], none, 0, rfl, .inl ⟨rfl, _, _, rfl⟩, by simp, by simp⟩
  · simp at hcs
    subst hcs
    simp only [if_true] at hmm
    rw [show Tryd.prog.cellsOf 37 = 7 by kernel_rfl] at hx
    obtain ⟨f, hf⟩ := Deep.choose_lt (α := Ev) (p := fun i e => ∃ q, (∀ j, j < 7 → W.cell? ((a.add (i * 7)).add j) = (evCells e q)[j]?) ∧ IntsV W q e.ps ∧ (0 ≤ e.fin ∧ e.fin ≤ 255) ∧ (0 ≤ e.mark ∧ e.mark ≤ 255) ∧ (∀ z ∈ e.ps, -9223372036854775808 ≤ z ∧ z ≤ 9223372036854775807) ∧ e.ps.length ≤ Rows.uptoBulk (D i) ∧ e.mid.size ≤ Rows.uptoBulk (D i) ∧ e.txt.size ≤ Rows.uptoBulk (D i)) (n := len) (fun i hi => by
      obtain ⟨cs', h1, h2⟩ := hx i (by omega)
      obtain ⟨_, _, hc⟩ := World.cells?_some h1
      obtain ⟨e, q, rfl, r1, r2, r3, r4, r5, r6, r7⟩ := open_event h2
      exact ⟨e, q, hc, r1, r2, r3, r4, r5, r6, r7⟩)
    have hlen : ((List.range len).map f).length = len := by simp
    have hbl : len ≤ Rows.uptoBulkAll ((List.range len).map D) := by
      have := bulk_len ((List.range len).map D)
      simpa using this
    refine ⟨(List.range len).map f, some a, cap, by rw [hlen], ?_, ?_, fun e he => ?_⟩
    · by_cases h0 : len = 0
      · subst h0
        exact .inl ⟨by simp, _, _, rfl⟩
      · obtain ⟨b, off, spot⟩ := a
        have hspot : spot = none := by
          obtain ⟨q, hc, -⟩ := hf 0 (by omega)
          have := hc 0 (by omega)
          simpa [Addr.add] using World.cell?_spot this
        subst hspot
        refine .inr ⟨b, off, cap, by rw [hlen], fun j hj => ?_⟩
        have hj' : j < len := by simpa using hj
        have hg : ((List.range len).map f)[j]'hj = f j := by simp
        rw [hg]
        obtain ⟨q, hc, hI, -⟩ := hf j hj'
        have c0 := hc 0 (by omega)
        have c1 := hc 1 (by omega)
        have c2 := hc 2 (by omega)
        have c3 := hc 3 (by omega)
        have c4 := hc 4 (by omega)
        have c5 := hc 5 (by omega)
        have c6 := hc 6 (by omega)
        rw [Addr.add_mid, Addr.add_mid] at c0 c1 c2 c3 c4 c5 c6
        exact ⟨q, hI, c0, c1, c2, c3, c4, c5, c6⟩
    · rw [hlen]
      simp only [Rows.uptoBulk]
      omega
    · simp only [List.mem_map, List.mem_range] at he
      obtain ⟨i, hi, rfl⟩ := he
      obtain ⟨q, -, -, r2, r3, r4, r5, r6, r7⟩ := hf i hi
      have hb := bulk_mem (show D i ∈ (List.range len).map D from List.mem_map.2 ⟨i, List.mem_range.2 hi, rfl⟩)
      refine ⟨r2, r3, r4, ?_, ?_, ?_⟩
      all_goals (simp only [Rows.uptoBulk]; omega)
set_option maxRecDepth 100000 in
theorem open_eventsP {r : Reach} {b0 : Nat} {v : Value} {d : DataW H} {p : List MemPlace} (hv : Value.okWide Tryd.prog W r b0 26 v) (h : DataW.Trod enc Tryd.prog W 0 (fun _ => true) true 26 v d p) :
    ∃ (es : List Ev) (pa : Option Addr) (pc : Nat), v = .slice pa es.length pc ∧ EvsR W (.slice pa es.length pc) es ∧ es.length ≤ Rows.uptoBulk d ∧ (∀ e ∈ es, (0 ≤ e.fin ∧ e.fin ≤ 255) ∧ (0 ≤ e.mark ∧ e.mark ≤ 255) ∧ (∀ z ∈ e.ps, -9223372036854775808 ≤ z ∧ z ≤ 9223372036854775807) ∧ e.ps.length ≤ Rows.uptoBulk d ∧ e.mid.size ≤ Rows.uptoBulk d ∧ e.txt.size ≤ Rows.uptoBulk d) := by
  obtain ⟨a0, len, cap, rfl⟩ := okWide_slice und_evs hv
  obtain ⟨fuel, hf⟩ := h
  obtain ⟨es, q, c, hvv, hE, h1, h2⟩ := open_events (show DataW.trod enc Tryd.prog W 0 (fun _ => true) true fuel 26 [.slice a0 len cap] = some (d, p) from hf)
  exact ⟨es, q, c, hvv, by rw [← hvv]; exact hE, h1, h2⟩
end
end Prs
end Go.Proofs.YtmgmdijhiplalaaDoor
