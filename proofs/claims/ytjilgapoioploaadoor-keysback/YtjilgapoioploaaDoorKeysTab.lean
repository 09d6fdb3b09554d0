/- What the rows list: the tables of package keys and the library's errors. -/
import Derived.Test.YtjilgapoioploaaDoorKeysRd9
import Derived.Test.YtjilgapoioploaaDoorTextTab
import Derived.LaidLaws
import Derived.Lib.LaidU8
import Derived.Deep.Strs
namespace Go.Proofs.YtjilgapoioploaaDoor
open Go.ChangeShapes Go.WideShapes Go.ChangeAt Go.RowKit
namespace Kys
/-- The cells of a row of numbers. -/
def cells1 (d : DataW Unit) : Array Value := match d with
  | .agg l => (l.map fun x => match x with
    | .lit (.int k z) => Value.int k z
    | _ => undef).toArray
  | _ => #[]
theorem und_err : Tryd.prog.underlying 78 = some (.interface (match Tryd.prog.underlying 78 with | some (.interface ms) => ms | _ => #[])) := by kernel_rfl
theorem var_cells {w : World} {n : String} {g : Nat} {cs : Array Value} (hg : Tryd.prog.globalNamed n = some g) (hvar : w.var? Tryd.prog n = some cs) : ∃ t fr, w.heap[g]? = some (.cells cs t fr) := by
  unfold World.var? at hvar
  rw [hg] at hvar
  simp only [Option.bind_some] at hvar
  split at hvar
  · rename_i c tt fr hh
    obtain rfl := Option.some.inj hvar
    exact ⟨tt, fr, hh⟩
  · cases hvar
theorem err_of_reads {w : World} {n : String} {g : Nat} {nm : String} {d : DataW Unit} (hn : Tryd.prog.globalNamed n = some g) (hy : (Tryd.prog.globals[g]?).map (fun x => x.type) = some 78) (h : Lib.VarReads Tryd.prog w n (.iface nm d)) : ErrAt w g := by
  obtain ⟨g', t, cs, fuel, p, hg, hty, hvar, hd⟩ := h
  obtain rfl := Option.some.inj (hn.symm.trans hg)
  obtain rfl := Option.some.inj (hy.symm.trans hty)
  obtain ⟨f1, u, v, hcs, _, _⟩ := iface_of_trod und_err hd
  obtain ⟨t, fr, hh⟩ := var_cells hn hvar
  refine ⟨.iface u v, ?_, .inr ⟨u, v, rfl⟩⟩
  unfold World.cell?
  rw [hh]
  have : cs = #[.iface u v] := Array.toList_inj.1 hcs
  rw [this]
  rfl
theorem slices4 : ∀ (l : List (Int × Int)) (cs : List Value), cs.length = 4 * l.length → (∀ i x, l[i]? = some x → (cs.drop (i * 4)).take 4 = cell4 x) → cs = l.flatMap cell4
  | [], cs, hl, _ => by simpa using hl
  | x :: t, cs, hl, h => by
    have h0 := h 0 x rfl
    have ht := slices4 t (cs.drop 4) (by simp only [List.length_drop, List.length_cons] at hl ⊢; omega) (fun i y hy => by
      have := h (i + 1) y (by simpa using hy)
      rw [List.drop_drop]
      rwa [show 4 + i * 4 = (i + 1) * 4 from by omega])
    simp only [Nat.zero_mul, List.drop_zero] at h0
    rw [List.flatMap_cons, ← ht, ← h0, List.take_append_drop]
theorem trod_struct4 {H : Type} {enc : TypeId × Value → H} {W : World} {P : Program} {base : Nat} {spare : Nat → Bool} {held : Bool} {t : TypeId} {f0 f1 f2 f3 : Field} {fuel : Nat} {cs : List Value} {x : DataW H × List MemPlace} (ht : P.underlying t = some (.struct #[f0, f1, f2, f3])) (h : DataW.trod enc P W base spare held fuel t cs = some x) :
    ∃ y0 y1 y2 y3 n, x.1 = .agg [y0.1, y1.1, y2.1, y3.1] ∧ cs.length = P.cellsOf t ∧ DataW.trod enc P W base spare held n f0.type ((cs.drop f0.offset).take (P.cellsOf f0.type)) = some y0 ∧
      DataW.trod enc P W base spare held n f1.type ((cs.drop f1.offset).take (P.cellsOf f1.type)) = some y1 ∧
      DataW.trod enc P W base spare held n f2.type ((cs.drop f2.offset).take (P.cellsOf f2.type)) = some y2 ∧
      DataW.trod enc P W base spare held n f3.type ((cs.drop f3.offset).take (P.cellsOf f3.type)) = some y3 := by
  obtain ⟨xs, n, _, rfl, hl, hlen, hf⟩ := DataW.trod_struct ht h
  match xs, hlen with
  | [y0, y1, y2, y3], _ => exact ⟨y0, y1, y2, y3, n, by simp, hl, by simpa using hf 0 f0 rfl, by simpa using hf 1 f1 rfl, by simpa using hf 2 f2 rfl, by simpa using hf 3 f3 rfl⟩
theorem laid_num {H : Type} : (Rows.laid_trellis_keys_numbered : DataW H) = .agg (numT.map fun x => .agg [.lit (.int .i64 x.1), .lit (.int .i32 0), .lit (.int .i64 x.2), .lit (.int .i64 0)]) := rfl
theorem num_of_reads {w : World} (h : Lib.VarReads Tryd.prog w "trellis/keys.numbered" Rows.laid_trellis_keys_numbered) : NumTab w := by
  obtain ⟨g, t, cs, fuel, p, hg, hty, hvar, hd⟩ := h
  obtain rfl := Option.some.inj ((show Tryd.prog.globalNamed "trellis/keys.numbered" = some 7 by kernel_rfl).symm.trans hg)
  obtain rfl := Option.some.inj ((show (Tryd.prog.globals[7]?).map (fun x => x.type) = some 107 by kernel_rfl).symm.trans hty)
  have hlen : cs.toList.length = 100 := by
    obtain ⟨xs, m, _, _, hl, _, _⟩ := DataW.trod_array Tryd.underlying107 hd
    rw [hl]; kernel_rfl
  rw [laid_num] at hd
  have hcs : cs.toList = numT.flatMap cell4 := by
    refine slices4 numT cs.toList (by rw [hlen]; rfl) (fun i x hx => ?_)
    have hi : i < 25 := (List.getElem?_eq_some_iff.1 hx).1
    obtain ⟨fuel', d, q, hdi, he⟩ := Lib.array_elem Tryd.underlying107 hd i hi
    rw [List.getElem?_map, hx] at hdi
    obtain rfl := Option.some.inj hdi
    rw [show Tryd.prog.cellsOf 23 = 4 by kernel_rfl] at he
    obtain ⟨y0, y1, y2, y3, n, hy, hl, e0, e1, e2, e3⟩ := trod_struct4 Tryd.underlying23 he
    rw [show Tryd.prog.cellsOf 23 = 4 by kernel_rfl] at hl
    generalize (cs.toList.drop (i * 4)).take 4 = c4 at *
    simp only [DataW.agg.injEq, List.cons.injEq, and_true] at hy
    obtain ⟨g0, g1, g2, g3⟩ := hy
    simp only [show Tryd.prog.cellsOf 21 = 1 by kernel_rfl, show Tryd.prog.cellsOf 3 = 1 by kernel_rfl] at e0 e1 e2 e3
    obtain ⟨z0, k0, rfl, _⟩ := DataW.trod_int Tryd.underlying3 e0
    obtain ⟨z1, k1, rfl, _⟩ := DataW.trod_int Tryd.underlying21 e1
    obtain ⟨z2, k2, rfl, _⟩ := DataW.trod_int Tryd.underlying3 e2
    obtain ⟨z3, k3, rfl, _⟩ := DataW.trod_int Tryd.underlying3 e3
    match c4, hl with
    | [a, b, c, d], _ =>
      simp at k0 k1 k2 k3 g0 g1 g2 g3
      subst k0 k1 k2 k3 g0 g1 g2 g3
      rfl
  obtain ⟨tt, fr, hh⟩ := var_cells hg hvar
  have hc : cs = numCells := by unfold numCells; rw [← hcs]
  exact ⟨tt, fr, by rw [hh, hc]⟩
theorem errs_of {w : World} (h1 : Lib.VarReads Tryd.prog w "strconv.ErrSyntax" Rows.laid_strconv_ErrSyntax) (h2 : Lib.VarReads Tryd.prog w "strconv.ErrRange" Rows.laid_strconv_ErrRange) : Errs w :=
  ⟨err_of_reads (by kernel_rfl) (by kernel_rfl) h1, err_of_reads (by kernel_rfl) (by kernel_rfl) h2⟩
theorem env_of {w : World} (h1 : Lib.VarReads Tryd.prog w "strconv.ErrSyntax" Rows.laid_strconv_ErrSyntax) (h2 : Lib.VarReads Tryd.prog w "strconv.ErrRange" Rows.laid_strconv_ErrRange) (h3 : Lib.VarReads Tryd.prog w "trellis/text.spans" Rows.laid_trellis_text_spans) (h4 : Lib.VarReads Tryd.prog w "trellis/keys.numbered" Rows.laid_trellis_keys_numbered) (h5 : Lib.VarReads Tryd.prog w "unicode/utf8.first" Rows.laid_unicode_utf8_first) (h6 : Lib.VarReads Tryd.prog w "unicode/utf8.acceptRanges" Rows.laid_unicode_utf8_acceptRanges) : Env w := by
  rw [← Txt.first_eq] at h5
  rw [← Txt.accept_eq] at h6
  exact ⟨Txt.tab_of_reads h3, utf8Tabs_of_reads Tryd.lays260 Txt.u8x h5 h6, errs_of h1 h2, num_of_reads h4⟩
end Kys
end Go.Proofs.YtjilgapoioploaaDoor
