/- The table of spans as the row lists it: its cells. -/
import Derived.Test.YtbhoklhcdefabaaDoorTextFit
import Derived.Lib.LaidU8
import Derived.Deep.Strs
namespace Go.Proofs.YtbhoklhcdefabaaDoor
open Go.ChangeShapes Go.WideShapes Go.ChangeAt Go.RowKit
namespace Txt
theorem slices3 : ∀ (l : List (Int × Int × Int)) (cs : List Value), cs.length = 3 * l.length → (∀ i x, l[i]? = some x → (cs.drop (i * 3)).take 3 = cell3 x) → cs = l.flatMap cell3
  | [], cs, hl, _ => by simpa using hl
  | x :: t, cs, hl, h => by
    have h0 := h 0 x rfl
    have ht := slices3 t (cs.drop 3) (by simp only [List.length_drop, List.length_cons] at hl ⊢; omega) (fun i y hy => by
      have := h (i + 1) y (by simpa using hy)
      rw [List.drop_drop]
      rwa [show 3 + i * 3 = (i + 1) * 3 from by omega])
    simp only [Nat.zero_mul, List.drop_zero] at h0
    rw [List.flatMap_cons, ← ht, ← h0, List.take_append_drop]
theorem laid_eq {H : Type} : (Rows.laid_trellis_text_spans : DataW H) = .agg (spans.map fun x => .agg [.lit (.int .i32 x.1), .lit (.int .i32 x.2.1), .lit (.int .i64 x.2.2)]) := rfl
theorem tab_of_reads {w : World} (h : Lib.VarReads Tryd.prog w "trellis/text.spans" Rows.laid_trellis_text_spans) : Tab w := by
  obtain ⟨g, t, cs, fuel, p, hg, hty, hvar, hd⟩ := h
  obtain rfl := Option.some.inj ((show Tryd.prog.globalNamed "trellis/text.spans" = some 0 by kernel_rfl).symm.trans hg)
  obtain rfl := Option.some.inj ((show (Tryd.prog.globals[0]?).map (fun x => x.type) = some 85 by kernel_rfl).symm.trans hty)
  have hlen : cs.toList.length = 63 := by
    obtain ⟨xs, m, _, _, hl, _, _⟩ := DataW.trod_array Tryd.underlying85 hd
    rw [hl]; kernel_rfl
  rw [laid_eq] at hd
  have hcs : cs.toList = spans.flatMap cell3 := by
    refine slices3 spans cs.toList (by rw [hlen]; rfl) (fun i x hx => ?_)
    have hi : i < 21 := (List.getElem?_eq_some_iff.1 hx).1
    obtain ⟨fuel', d, q, hdi, he⟩ := Lib.array_elem Tryd.underlying85 hd i hi
    rw [List.getElem?_map, hx] at hdi
    obtain rfl := Option.some.inj hdi
    rw [show Tryd.prog.cellsOf 84 = 3 by kernel_rfl] at he
    obtain ⟨y0, y1, y2, n, hy, hl, e0, e1, e2⟩ := Deep.trod_struct3 Tryd.underlying84 he
    rw [show Tryd.prog.cellsOf 84 = 3 by kernel_rfl] at hl
    generalize (cs.toList.drop (i * 3)).take 3 = c3 at *
    simp only [Prod.mk.injEq, DataW.agg.injEq, List.cons.injEq, and_true] at hy
    obtain ⟨⟨g0, g1, g2⟩, _⟩ := hy
    simp only [show Tryd.prog.cellsOf 21 = 1 by kernel_rfl, show Tryd.prog.cellsOf 3 = 1 by kernel_rfl] at e0 e1 e2
    obtain ⟨z0, k0, rfl, _⟩ := DataW.trod_int Tryd.underlying21 e0
    obtain ⟨z1, k1, rfl, _⟩ := DataW.trod_int Tryd.underlying21 e1
    obtain ⟨z2, k2, rfl, _⟩ := DataW.trod_int Tryd.underlying3 e2
    match c3, hl with
    | [a, b, c], _ =>
      simp at k0 k1 k2 g0 g1 g2
      subst k0 k1 k2 g0 g1 g2
      rfl
  unfold World.var? at hvar
  rw [hg] at hvar
  simp only [Option.bind_some] at hvar
  split at hvar
  · rename_i c tt fr hh
    obtain rfl := Option.some.inj hvar
    have hc : c = spanCells := by unfold spanCells; rw [← hcs]
    exact ⟨tt, fr, by rw [hh, hc]⟩
  · cases hvar
end Txt
end Go.Proofs.YtbhoklhcdefabaaDoor
