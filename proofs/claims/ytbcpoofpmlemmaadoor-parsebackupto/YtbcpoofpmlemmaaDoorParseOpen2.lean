/- Events out of what the row reads, and how many values they hold. -/
import Derived.Test.YtbcpoofpmlemmaaDoorParseOpen
import Derived.Test.YtbcpoofpmlemmaaDoorParseWr2
import Derived.Test.YtbcpoofpmlemmaaDoorRows
import Derived.Deep.Slices
namespace Go.Proofs.YtbcpoofpmlemmaaDoor
open Go.ChangeShapes Go.WideShapes Go.ChangeAt Go.RowKit
namespace Prs
section
variable {H : Type} {enc : TypeId × Value → H} {W : World}
theorem bulk_pos (d : DataW H) : 1 ≤ Rows.uptoBulk d := by
  cases d with
  | lit l => cases l <;> simp [Rows.uptoBulk]
  | _ => simp [Rows.uptoBulk]
theorem bulk_mem {d : DataW H} : ∀ {l : List (DataW H)}, d ∈ l → Rows.uptoBulk d ≤ Rows.uptoBulkAll l
  | x :: l, h => by
    rcases List.mem_cons.1 h with rfl | h
    · simp only [Rows.uptoBulkAll]; omega
    · have := bulk_mem h
      simp only [Rows.uptoBulkAll]; omega
theorem bulk_len : ∀ (l : List (DataW H)), l.length ≤ Rows.uptoBulkAll l
  | [] => by simp
  | x :: l => by
    have := bulk_len l
    have := bulk_pos x
    simp only [Rows.uptoBulkAll, List.length_cons]; omega
theorem open_intsW {base : Nat} {spare : Nat → Bool} {held : Bool} {fuel : Nat} {v : Value} {x : DataW H × List MemPlace} (hsp : ∀ b, spare b = true) (h : DataW.trod enc Tryd.prog W base spare held fuel 22 [v] = some x) :
    ∃ (l : List Int), IntsV W v l ∧ (∀ y ∈ l, -9223372036854775808 ≤ y ∧ y ≤ 9223372036854775807) ∧ l.length ≤ Rows.uptoBulk x.1 := by
  obtain ⟨l, p, c, rfl, hI, -, hz⟩ := open_intsV hsp h
  rcases open_ints Tryd.underlying22 Tryd.underlying3 (by kernel_rfl) h with ⟨hcs, hx⟩ | ⟨a, len, cap, zs, hcs, _, hl, hm, hzs, hx, hcell, hwz⟩
  · simp only [List.cons.injEq, and_true, Value.slice.injEq] at hcs
    have : l = [] := List.eq_nil_of_length_eq_zero hcs.2.1
    subst this
    exact ⟨[], hI, by simp, by simp⟩
  · simp only [List.cons.injEq, and_true, Value.slice.injEq] at hcs
    obtain ⟨rfl, hlen, rfl⟩ := hcs
    refine ⟨l, hI, fun y hy => ?_, ?_⟩
    · obtain ⟨j, hj, rfl⟩ := List.mem_iff_getElem.1 hy
      rcases hI with ⟨rfl, -⟩ | ⟨b, o, c', hv, hc⟩
      · exact absurd hj (Nat.not_lt_zero _)
      · simp only [Value.slice.injEq, Option.some.injEq] at hv
        obtain ⟨rfl, -, rfl⟩ := hv
        have h1 := hc j (.int .i64 l[j]) (by simp [ints, List.getElem?_eq_getElem hj])
        rw [hsp, if_pos rfl] at hzs
        have h2 := hcell j (by omega)
        rw [h2] at h1
        injection h1 with h1
        injection h1 with _ h1
        have h5 := hwz (zs.getD j 0) (by rw [List.getD_eq_getElem?_getD, List.getElem?_eq_getElem (by omega)]; exact List.getElem_mem _)
        have e1 : IntKind.i64.min = -9223372036854775808 := rfl
        have e2 : IntKind.i64.max = 9223372036854775807 := rfl
        rw [← h1]
        simpa [Lit.wf, e1, e2] using h5
    · rcases hz with h | ⟨el, sp, hy, hl2⟩
      · rw [h]; simp
      · rw [hy, hl2]
        have := bulk_len el
        simp only [Rows.uptoBulk]
        omega
set_option maxRecDepth 100000 in
theorem open_event {fuel : Nat} {cs : List Value} {y : DataW H × List MemPlace} (h : DataW.trod enc Tryd.prog W 0 (fun _ => true) true fuel 37 cs = some y) :
    ∃ (e : Ev) (q : Value), cs = evCells e q ∧ IntsV W q e.ps ∧ (0 ≤ e.fin ∧ e.fin ≤ 255) ∧ (0 ≤ e.mark ∧ e.mark ≤ 255) ∧ (∀ z ∈ e.ps, -9223372036854775808 ≤ z ∧ z ≤ 9223372036854775807) ∧ e.ps.length ≤ Rows.uptoBulk y.1 ∧ e.mid.size ≤ Rows.uptoBulk y.1 ∧ e.txt.size ≤ Rows.uptoBulk y.1 := by
  obtain ⟨y0, y1, y2, y3, y4, y5, y6, n, hx, hl, h0, h1, h2, h3, h4, h5, h6⟩ := trod_struct7 Tryd.underlying37 h
  rw [show Tryd.prog.cellsOf 37 = 7 by kernel_rfl] at hl
  match cs, hl with
  | [c0, c1, c2, c3, c4, c5, c6], _ =>
    simp only [show Tryd.prog.cellsOf 3 = 1 by kernel_rfl, show Tryd.prog.cellsOf 21 = 1 by kernel_rfl, show Tryd.prog.cellsOf 5 = 1 by kernel_rfl, show Tryd.prog.cellsOf 9 = 1 by kernel_rfl, show Tryd.prog.cellsOf 22 = 1 by kernel_rfl] at h0 h1 h2 h3 h4 h5 h6
    obtain ⟨a0, k0, _, w0⟩ := DataW.trod_int Tryd.underlying3 h0
    obtain ⟨a1, k1, _, w1⟩ := DataW.trod_int Tryd.underlying21 h1
    obtain ⟨a2, k2, _, w2⟩ := DataW.trod_int Tryd.underlying5 h2
    obtain ⟨a3, k3, _, w3⟩ := DataW.trod_int Tryd.underlying5 h3
    obtain ⟨a4, k4, g4, w4⟩ := DataW.trod_string Tryd.underlying9 h4
    obtain ⟨a6, k6, g6, w6⟩ := DataW.trod_string Tryd.underlying9 h6
    obtain ⟨l, hI, hw, hbl⟩ := open_intsW (fun _ => rfl) (show DataW.trod enc Tryd.prog W 0 (fun _ => true) true n 22 [c5] = some y5 from h5)
    obtain rfl : c0 = _ := by simpa using k0
    obtain rfl : c1 = _ := by simpa using k1
    obtain rfl : c2 = _ := by simpa using k2
    obtain rfl : c3 = _ := by simpa using k3
    obtain rfl : c4 = _ := by simpa using k4
    obtain rfl : c6 = _ := by simpa using k6
    have hb : Rows.uptoBulk y.1 = Rows.uptoBulk y0.1 + (Rows.uptoBulk y1.1 + (Rows.uptoBulk y2.1 + (Rows.uptoBulk y3.1 + (Rows.uptoBulk y4.1 + (Rows.uptoBulk y5.1 + (Rows.uptoBulk y6.1 + 0)))))) + 1 := by
      rw [hx]
      simp only [Rows.uptoBulk, Rows.uptoBulkAll]
    have b4 : Rows.uptoBulk y4.1 = a4.data.toList.length + 1 := by rw [g4]; simp only [Rows.uptoBulk]
    have b6 : Rows.uptoBulk y6.1 = a6.data.toList.length + 1 := by rw [g6]; simp only [Rows.uptoBulk]
    have s4 : a4.size = a4.data.toList.length := by rw [Array.length_toList]; rfl
    have s6 : a6.size = a6.data.toList.length := by rw [Array.length_toList]; rfl
    exact ⟨⟨a0, a1, a2, a3, a4, l, a6⟩, c5, rfl, hI, u8_in w2, u8_in w3, hw, by show l.length ≤ _; omega, by show a4.size ≤ _; omega, by show a6.size ≤ _; omega⟩
instance : Inhabited Ev := ⟨evP 0⟩
theorem und_evs : Tryd.prog.underlying 26 = some (.slice 37) := by kernel_rfl
theorem open_events {fuel : Nat} {v : Value} {y : DataW H × List MemPlace} (h : DataW.trod enc Tryd.prog W 0 (fun _ => true) true fuel 26 [v] = some y) :
    ∃ (es : List Ev) (p : Option Addr) (c : Nat), v = .slice p es.length c ∧ EvsR W v es ∧ es.length ≤ Rows.uptoBulk y.1 ∧ (∀ e ∈ es, (0 ≤ e.fin ∧ e.fin ≤ 255) ∧ (0 ≤ e.mark ∧ e.mark ≤ 255) ∧ (∀ z ∈ e.ps, -9223372036854775808 ≤ z ∧ z ≤ 9223372036854775807) ∧ e.ps.length ≤ Rows.uptoBulk y.1 ∧ e.mid.size ≤ Rows.uptoBulk y.1 ∧ e.txt.size ≤ Rows.uptoBulk y.1) := by
  rcases Deep.open_slice und_evs h with ⟨hcs, _⟩ | ⟨a, len, cap, m, n, D, Pl, hcs, _, hl, hm, hmm, rfl, hx⟩
  · simp at hcs
    subst hcs
    exact ⟨[], none, 0, rfl, .inl ⟨rfl, _, _, rfl⟩, by simp, by simp⟩
  · simp at hcs
    subst hcs
    simp only [if_true] at hmm
    rw [show Tryd.prog.cellsOf 37 = 7 by kernel_rfl] at hx
    obtain ⟨f, hf⟩ := Deep.choose_lt (α := Ev) (p := fun i e => ∃ q, (∀ j, j < 7 → W.cell? ((a.add (i * 7)).add j) = (evCells e q)[j]?) ∧ IntsV W q e.ps ∧ (0 ≤ e.fin ∧ e.fin ≤ 255) ∧ (0 ≤ e.mark ∧ e.mark ≤ 255) ∧ (∀ z ∈ e.ps, -9223372036854775808 ≤ z ∧ z ≤ 9223372036854775807) ∧ e.ps.length ≤ Rows.uptoBulk (D i) ∧ e.mid.size ≤ Rows.uptoBulk (D i) ∧ e.txt.size ≤ Rows.uptoBulk (D i)) (n := len) (fun i hi => by
      obtain ⟨cs', h1, h2⟩ := hx i (by omega)
      obtain ⟨_, _, hc⟩ := World.cells?_some h1
      obtain ⟨e, q, rfl, r1, r2, r3, r4, r5, r6, r7⟩ := open_event h2
      exact ⟨e, q, hc, r1, r2, r3, r4, r5, r6, r7⟩)
    have hlen : ((List.range len).map f).length = len := by simp
    have hbl : len ≤ Rows.uptoBulkAll ((List.range len).map D) := by
      have := bulk_len ((List.range len).map D)
      simpa using this
    refine ⟨(List.range len).map f, some a, cap, by rw [hlen], ?_, ?_, fun e he => ?_⟩
    · by_cases h0 : len = 0
      · subst h0
        exact .inl ⟨by simp, _, _, rfl⟩
      · obtain ⟨b, off, spot⟩ := a
        have hspot : spot = none := by
          obtain ⟨q, hc, -⟩ := hf 0 (by omega)
          have := hc 0 (by omega)
          simpa [Addr.add] using World.cell?_spot this
        subst hspot
        refine .inr ⟨b, off, cap, by rw [hlen], fun j hj => ?_⟩
        have hj' : j < len := by simpa using hj
        have hg : ((List.range len).map f)[j]'hj = f j := by simp
        rw [hg]
        obtain ⟨q, hc, hI, -⟩ := hf j hj'
        have c0 := hc 0 (by omega)
        have c1 := hc 1 (by omega)
        have c2 := hc 2 (by omega)
        have c3 := hc 3 (by omega)
        have c4 := hc 4 (by omega)
        have c5 := hc 5 (by omega)
        have c6 := hc 6 (by omega)
        rw [Addr.add_mid, Addr.add_mid] at c0 c1 c2 c3 c4 c5 c6
        exact ⟨q, hI, c0, c1, c2, c3, c4, c5, c6⟩
    · rw [hlen]
      simp only [Rows.uptoBulk]
      omega
    · simp only [List.mem_map, List.mem_range] at he
      obtain ⟨i, hi, rfl⟩ := he
      obtain ⟨q, -, -, r2, r3, r4, r5, r6, r7⟩ := hf i hi
      have hb := bulk_mem (show D i ∈ (List.range len).map D from List.mem_map.2 ⟨i, List.mem_range.2 hi, rfl⟩)
      refine ⟨r2, r3, r4, ?_, ?_, ?_⟩
      all_goals (simp only [Rows.uptoBulk]; omega)
set_option maxRecDepth 100000 in
theorem open_eventsP {r : Reach} {b0 : Nat} {v : Value} {d : DataW H} {p : List MemPlace} (hv : Value.okWide Tryd.prog W r b0 26 v) (h : DataW.Trod enc Tryd.prog W 0 (fun _ => true) true 26 v d p) :
    ∃ (es : List Ev) (pa : Option Addr) (pc : Nat), v = .slice pa es.length pc ∧ EvsR W (.slice pa es.length pc) es ∧ es.length ≤ Rows.uptoBulk d ∧ (∀ e ∈ es, (0 ≤ e.fin ∧ e.fin ≤ 255) ∧ (0 ≤ e.mark ∧ e.mark ≤ 255) ∧ (∀ z ∈ e.ps, -9223372036854775808 ≤ z ∧ z ≤ 9223372036854775807) ∧ e.ps.length ≤ Rows.uptoBulk d ∧ e.mid.size ≤ Rows.uptoBulk d ∧ e.txt.size ≤ Rows.uptoBulk d) := by
  obtain ⟨a0, len, cap, rfl⟩ := okWide_slice und_evs hv
  obtain ⟨fuel, hf⟩ := h
  obtain ⟨es, q, c, hvv, hE, h1, h2⟩ := open_events (show DataW.trod enc Tryd.prog W 0 (fun _ => true) true fuel 26 [.slice a0 len cap] = some (d, p) from hf)
  exact ⟨es, q, c, hvv, by rw [← hvv]; exact hE, h1, h2⟩
end
end Prs
end Go.Proofs.YtbcpoofpmlemmaaDoor
