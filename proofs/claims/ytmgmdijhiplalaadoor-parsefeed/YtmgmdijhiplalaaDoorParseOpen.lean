/- A state out of what the row reads. -/
import Derived.Test.YtmgmdijhiplalaaDoorParseCopy
import Derived.Deep.Strs
import Derived.ChangeSlices
import Derived.Lib.SmallJoins
namespace Go.Proofs.YtmgmdijhiplalaaDoor
open Go.ChangeShapes Go.WideShapes Go.ChangeAt Go.RowKit
namespace Prs
section
variable {H : Type} {enc : TypeId × Value → H} {W : World}
theorem array7 {α : Type} {cs : Array α} (h : cs.size = 7) : ∃ c0 c1 c2 c3 c4 c5 c6, cs = #[c0, c1, c2, c3, c4, c5, c6] := by
  obtain ⟨l⟩ := cs
  match l, h with
  | [c0, c1, c2, c3, c4, c5, c6], _ => exact ⟨c0, c1, c2, c3, c4, c5, c6, rfl⟩
theorem trod_struct7 {P : Program} {base : Nat} {spare : Nat → Bool} {held : Bool} {t : TypeId} {f0 f1 f2 f3 f4 f5 f6 : Field} {fuel : Nat} {cs : List Value} {x : DataW H × List MemPlace} (ht : P.underlying t = some (.struct #[f0, f1, f2, f3, f4, f5, f6])) (h : DataW.trod enc P W base spare held fuel t cs = some x) :
    ∃ y0 y1 y2 y3 y4 y5 y6 n, x = (.agg [y0.1, y1.1, y2.1, y3.1, y4.1, y5.1, y6.1], y0.2 ++ (y1.2 ++ (y2.2 ++ (y3.2 ++ (y4.2 ++ (y5.2 ++ y6.2)))))) ∧ cs.length = P.cellsOf t ∧ DataW.trod enc P W base spare held n f0.type ((cs.drop f0.offset).take (P.cellsOf f0.type)) = some y0 ∧
      DataW.trod enc P W base spare held n f1.type ((cs.drop f1.offset).take (P.cellsOf f1.type)) = some y1 ∧ DataW.trod enc P W base spare held n f2.type ((cs.drop f2.offset).take (P.cellsOf f2.type)) = some y2 ∧
      DataW.trod enc P W base spare held n f3.type ((cs.drop f3.offset).take (P.cellsOf f3.type)) = some y3 ∧ DataW.trod enc P W base spare held n f4.type ((cs.drop f4.offset).take (P.cellsOf f4.type)) = some y4 ∧
      DataW.trod enc P W base spare held n f5.type ((cs.drop f5.offset).take (P.cellsOf f5.type)) = some y5 ∧ DataW.trod enc P W base spare held n f6.type ((cs.drop f6.offset).take (P.cellsOf f6.type)) = some y6 := by
  obtain ⟨xs, n, _, rfl, hl, hlen, hf⟩ := DataW.trod_struct ht h
  match xs, hlen with
  | [y0, y1, y2, y3, y4, y5, y6], _ => exact ⟨y0, y1, y2, y3, y4, y5, y6, n, by simp, hl, by simpa using hf 0 f0 rfl, by simpa using hf 1 f1 rfl, by simpa using hf 2 f2 rfl, by simpa using hf 3 f3 rfl, by simpa using hf 4 f4 rfl, by simpa using hf 5 f5 rfl, by simpa using hf 6 f6 rfl⟩
theorem open_intsV {base : Nat} {spare : Nat → Bool} {held : Bool} {fuel : Nat} {v : Value} {x : DataW H × List MemPlace} (hsp : ∀ b, spare b = true) (h : DataW.trod enc Tryd.prog W base spare held fuel 22 [v] = some x) :
    ∃ (l : List Int) (p : Option Addr) (c : Nat), v = .slice p l.length c ∧ IntsV W (.slice p l.length c) l ∧ l.length ≤ maxLen ∧ (l = [] ∨ ∃ el sp, x.1 = .slice el sp ∧ l.length = el.length) := by
  rcases open_ints Tryd.underlying22 Tryd.underlying3 (by kernel_rfl) h with ⟨hcs, hx⟩ | ⟨a, len, cap, zs, hcs, _, hl, hm, hz, hx, hcell, hwz⟩
  · simp only [List.cons.injEq, and_true] at hcs
    subst hcs
    exact ⟨[], none, 0, rfl, .inl ⟨rfl, _, _, rfl⟩, Nat.zero_le _, .inl rfl⟩
  · simp only [List.cons.injEq, and_true] at hcs
    subst hcs
    rw [hsp, if_pos rfl] at hz
    have hlen : (zs.take len).length = len := by simp; omega
    refine ⟨zs.take len, some a, cap, by rw [hlen], ?_, by omega, .inr ⟨_, _, by rw [hx], by simp [lits]⟩⟩
    rw [hlen]
    by_cases h0 : len = 0
    · subst h0
      exact .inl ⟨by simp, _, _, rfl⟩
    · obtain ⟨b, off, spot⟩ := a
      have hspot : spot = none := by simpa [Addr.add] using World.cell?_spot (hcell 0 (by omega))
      subst hspot
      refine .inr ⟨b, off, cap, by rw [hlen], fun j u hj => ?_⟩
      simp only [ints, List.getElem?_map, Option.map_eq_some_iff] at hj
      obtain ⟨y, hy, rfl⟩ := hj
      have hjl : j < len := by
        have := (List.getElem?_eq_some_iff.1 hy).1
        omega
      rw [hcell j (by omega)]
      rw [List.getElem?_take, if_pos hjl] at hy
      rw [List.getD_eq_getElem?_getD, hy]
      rfl
theorem u8_in {k : Int} (h : (Lit.int .u8 k).wf = true) : 0 ≤ k ∧ k ≤ 255 := by
  have e1 : IntKind.u8.min = 0 := rfl
  have e2 : IntKind.u8.max = 255 := rfl
  simpa [Lit.wf, e1, e2] using h
set_option maxRecDepth 100000 in
theorem open_state {r : Reach} {b0 : Nat} {v : Value} {d : DataW H} {p : List MemPlace} (hv : Value.okWide Tryd.prog W r b0 24 v) (h : DataW.Trod enc Tryd.prog W 0 (fun _ => true) true 24 v d p) :
    ∃ (s : St) (pa : Option Addr) (pc : Nat), v = .agg #[.int .i64 s.at', .int .u8 s.mark, .string s.mid, .slice pa s.ps.length pc, .string s.txt, .string s.left, .bool s.late] ∧ IntsV W (.slice pa s.ps.length pc) s.ps ∧ (s.mid.size ≤ maxLen ∧ s.txt.size ≤ maxLen ∧ s.left.size ≤ maxLen ∧ s.ps.length ≤ maxLen) ∧ (0 ≤ s.mark ∧ s.mark ≤ 255) ∧ (s.ps = [] ∨ ∃ d0 d1 d2 el sp d4 d5 d6, d = .agg [d0, d1, d2, .slice el sp, d4, d5, d6] ∧ s.ps.length = el.length) := by
  obtain ⟨cs, rfl, hsz⟩ := okWide_struct Tryd.underlying24 hv
  obtain ⟨c0, c1, c2, c3, c4, c5, c6, rfl⟩ := array7 (hsz.trans (by kernel_rfl))
  obtain ⟨fuel, hf⟩ := h
  obtain ⟨y0, y1, y2, y3, y4, y5, y6, n, hx, _, h0, h1, h2, h3, h4, h5, h6⟩ := trod_struct7 Tryd.underlying24 hf
  simp only [Prod.mk.injEq] at hx
  simp only [show Tryd.prog.cellsOf 3 = 1 by kernel_rfl, show Tryd.prog.cellsOf 5 = 1 by kernel_rfl, show Tryd.prog.cellsOf 9 = 1 by kernel_rfl, show Tryd.prog.cellsOf 22 = 1 by kernel_rfl, show Tryd.prog.cellsOf 4 = 1 by kernel_rfl, Value.cells] at h0 h1 h2 h3 h4 h5 h6
  obtain ⟨a0, k0, _, w0⟩ := DataW.trod_int Tryd.underlying3 h0
  obtain ⟨a1, k1, _, w1⟩ := DataW.trod_int Tryd.underlying5 h1
  obtain ⟨a2, k2, _, w2⟩ := DataW.trod_string Tryd.underlying9 h2
  obtain ⟨a4, k4, _, w4⟩ := DataW.trod_string Tryd.underlying9 h4
  obtain ⟨a5, k5, _, w5⟩ := DataW.trod_string Tryd.underlying9 h5
  obtain ⟨a6, k6, _⟩ := DataW.trod_bool Tryd.underlying4 h6
  obtain ⟨l, pa, pc, hv3, hI, hlm, hz⟩ := open_intsV (fun _ => rfl) (show DataW.trod enc Tryd.prog W 0 (fun _ => true) true n 22 [c3] = some y3 from h3)
  obtain rfl : c0 = _ := by simpa using k0
  obtain rfl : c1 = _ := by simpa using k1
  obtain rfl : c2 = _ := by simpa using k2
  obtain rfl : c4 = _ := by simpa using k4
  obtain rfl : c5 = _ := by simpa using k5
  obtain rfl : c6 = _ := by simpa using k6
  subst hv3
  refine ⟨⟨a0, a1, a2, l, a4, a5, a6⟩, pa, pc, rfl, hI, ⟨w2, w4, w5, hlm⟩, u8_in w1, ?_⟩
  rcases hz with h | ⟨el, sp, hy, hl⟩
  · exact .inl h
  · exact .inr ⟨_, _, _, el, sp, _, _, _, by rw [hx.1, hy], hl⟩
end
end Prs
end Go.Proofs.YtmgmdijhiplalaaDoor
