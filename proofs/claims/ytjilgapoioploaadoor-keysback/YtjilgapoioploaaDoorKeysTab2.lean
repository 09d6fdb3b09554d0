/- What the rows list besides: the names and signs of package keys; a key that is handed in. -/
import Derived.Test.YtjilgapoioploaaDoorKeysTab
import Derived.Test.YtjilgapoioploaaDoorKeysNm1
import Derived.Lib.SmallJoins
namespace Go.Proofs.YtjilgapoioploaaDoor
open Go.ChangeShapes Go.WideShapes Go.ChangeAt Go.RowKit
namespace Kys
open Txt (bs)
theorem slices1 : ∀ (l : List (List UInt8)) (cs : List Value), cs.length = l.length → (∀ i x, l[i]? = some x → (cs.drop (i * 1)).take 1 = [Value.string (bs x)]) → cs = l.map fun x => Value.string (bs x)
  | [], cs, hl, _ => by simpa using hl
  | x :: t, cs, hl, h => by
    have h0 := h 0 x rfl
    have ht := slices1 t (cs.drop 1) (by simp only [List.length_drop, List.length_cons] at hl ⊢; omega) (fun i y hy => by
      have := h (i + 1) y (by simpa using hy)
      rw [List.drop_drop]
      rwa [show 1 + i * 1 = (i + 1) * 1 from by omega])
    simp only [Nat.zero_mul, List.drop_zero] at h0
    rw [List.map_cons, ← ht, ← List.singleton_append, ← h0, List.take_append_drop]
theorem laid_nm {H : Type} : (Rows.laid_trellis_keys_names : DataW H) = .agg (namesL.map fun x => .lit (.string x)) := rfl
theorem name_of_reads {w : World} (h : Lib.VarReads Tryd.prog w "trellis/keys.names" Rows.laid_trellis_keys_names) : NameTab w := by
  obtain ⟨g, t, cs, fuel, p, hg, hty, hvar, hd⟩ := h
  obtain rfl := Option.some.inj ((show Tryd.prog.globalNamed "trellis/keys.names" = some 1 by kernel_rfl).symm.trans hg)
  obtain rfl := Option.some.inj ((show (Tryd.prog.globals[1]?).map (fun x => x.type) = some 76 by kernel_rfl).symm.trans hty)
  have hlen : cs.toList.length = 15 := by
    obtain ⟨xs, m, _, _, hl, _, _⟩ := DataW.trod_array Tryd.underlying76 hd
    rw [hl]; kernel_rfl
  rw [laid_nm] at hd
  have hcs : cs.toList = namesL.map fun x => Value.string (bs x) := by
    refine slices1 namesL cs.toList (by rw [hlen]; rfl) (fun i x hx => ?_)
    have hi : i < 15 := (List.getElem?_eq_some_iff.1 hx).1
    obtain ⟨fuel', d, q, hdi, he⟩ := Lib.array_elem Tryd.underlying76 hd i hi
    rw [List.getElem?_map, hx] at hdi
    obtain rfl := Option.some.inj hdi
    rw [show Tryd.prog.cellsOf 9 = 1 by kernel_rfl] at he
    obtain ⟨s, k, hs, _⟩ := DataW.trod_string Tryd.underlying9 he
    rw [k]
    simp at hs
    rw [hs.1]
    rfl
  obtain ⟨tt, fr, hh⟩ := var_cells hg hvar
  have hc : cs = nameCells := by unfold nameCells; rw [← hcs]
  exact ⟨tt, fr, by rw [hh, hc]⟩
theorem trod_struct2 {H : Type} {enc : TypeId × Value → H} {W : World} {P : Program} {base : Nat} {spare : Nat → Bool} {held : Bool} {t : TypeId} {f0 f1 : Field} {fuel : Nat} {cs : List Value} {x : DataW H × List MemPlace} (ht : P.underlying t = some (.struct #[f0, f1])) (h : DataW.trod enc P W base spare held fuel t cs = some x) :
    ∃ y0 y1 n, x.1 = .agg [y0.1, y1.1] ∧ cs.length = P.cellsOf t ∧ DataW.trod enc P W base spare held n f0.type ((cs.drop f0.offset).take (P.cellsOf f0.type)) = some y0 ∧
      DataW.trod enc P W base spare held n f1.type ((cs.drop f1.offset).take (P.cellsOf f1.type)) = some y1 := by
  obtain ⟨xs, n, _, rfl, hl, hlen, hf⟩ := DataW.trod_struct ht h
  match xs, hlen with
  | [y0, y1], _ => exact ⟨y0, y1, n, by simp, hl, by simpa using hf 0 f0 rfl, by simpa using hf 1 f1 rfl⟩
theorem hold_of_reads {w : World} (h : Lib.VarReads Tryd.prog w "trellis/keys.holds" Rows.laid_trellis_keys_holds) : HoldTab w := by
  obtain ⟨g, t, cs, fuel, p, hg, hty, hvar, hd⟩ := h
  obtain rfl := Option.some.inj ((show Tryd.prog.globalNamed "trellis/keys.holds" = some 0 by kernel_rfl).symm.trans hg)
  obtain rfl := Option.some.inj ((show (Tryd.prog.globals[0]?).map (fun x => x.type) = some 58 by kernel_rfl).symm.trans hty)
  have hlen : cs.toList.length = 6 := by
    obtain ⟨xs, m, _, _, hl, _, _⟩ := DataW.trod_array Tryd.underlying58 hd
    rw [hl]; kernel_rfl
  rw [show (Rows.laid_trellis_keys_holds : DataW Unit) = .agg [.agg [.lit (.int .i64 4), .lit (.string [67, 45])], .agg [.lit (.int .i64 2), .lit (.string [77, 45])], .agg [.lit (.int .i64 1), .lit (.string [83, 45])]] from rfl] at hd
  have key : ∀ i (b : Int) (l : List UInt8), i < 3 → ([.agg [.lit (.int .i64 4), .lit (.string [67, 45])], .agg [.lit (.int .i64 2), .lit (.string [77, 45])], .agg [.lit (.int .i64 1), .lit (.string [83, 45])]] : List (DataW Unit))[i]? = some (.agg [.lit (.int .i64 b), .lit (.string l)]) → (cs.toList.drop (i * 2)).take 2 = [.int .i64 b, .string (bs l)] := by
    intro i b l hi hx
    obtain ⟨fuel', d, q, hdi, he⟩ := Lib.array_elem Tryd.underlying58 hd i hi
    rw [hx] at hdi
    obtain rfl := Option.some.inj hdi
    rw [show Tryd.prog.cellsOf 57 = 2 by kernel_rfl] at he
    obtain ⟨y0, y1, n, hy, hl, e0, e1⟩ := trod_struct2 Tryd.underlying57 he
    rw [show Tryd.prog.cellsOf 57 = 2 by kernel_rfl] at hl
    generalize (cs.toList.drop (i * 2)).take 2 = c2 at *
    simp only [DataW.agg.injEq, List.cons.injEq, and_true] at hy
    obtain ⟨g0, g1⟩ := hy
    simp only [show Tryd.prog.cellsOf 3 = 1 by kernel_rfl, show Tryd.prog.cellsOf 9 = 1 by kernel_rfl] at e0 e1
    obtain ⟨z0, k0, rfl, _⟩ := DataW.trod_int Tryd.underlying3 e0
    obtain ⟨z1, k1, rfl, _⟩ := DataW.trod_string Tryd.underlying9 e1
    match c2, hl with
    | [a, c], _ =>
      simp at k0 k1 g0 g1
      subst k0 k1 g0 g1
      rfl
  have h0 := key 0 4 [67, 45] (by decide) rfl
  have h1 := key 1 2 [77, 45] (by decide) rfl
  have h2 := key 2 1 [83, 45] (by decide) rfl
  obtain ⟨tt, fr, hh⟩ := var_cells hg hvar
  have hc : cs = holdCells := by
    apply Array.toList_inj.1
    generalize cs.toList = L at *
    match L, hlen with
    | [a, b, c, d, e, f], _ =>
      simp at h0 h1 h2
      obtain ⟨rfl, rfl⟩ := h0
      obtain ⟨rfl, rfl⟩ := h1
      obtain ⟨rfl, rfl⟩ := h2
      rfl
  exact ⟨tt, fr, by rw [hh, hc]⟩
set_option maxRecDepth 100000 in
theorem open_key {H : Type} {enc : TypeId × Value → H} {W : World} {r : Reach} {b0 : Nat} {v : Value} {d : DataW H} {p : List MemPlace} (hv : Value.okWide Tryd.prog W r b0 23 v) (h : DataW.Trod enc Tryd.prog W 0 (fun _ => true) true 23 v d p) :
    ∃ (a b c e : Int), v = .agg #[.int .i64 a, .int .i32 b, .int .i64 c, .int .i64 e] := by
  obtain ⟨e0, e1, e2, e3, y0, y1, y2, y3, n, rfl, hd, _, t0, t1, t2, t3⟩ := Joins.open_agg4 Tryd.underlying23 (by kernel_rfl) (by kernel_rfl) hv h
  obtain ⟨a, k0, _, w0⟩ := DataW.trod_int Tryd.underlying3 t0
  obtain ⟨b, k1, _, w1⟩ := DataW.trod_int Tryd.underlying21 t1
  obtain ⟨c, k2, _, w2⟩ := DataW.trod_int Tryd.underlying3 t2
  obtain ⟨e, k3, _, w3⟩ := DataW.trod_int Tryd.underlying3 t3
  obtain rfl : e0 = _ := by simpa using k0
  obtain rfl : e1 = _ := by simpa using k1
  obtain rfl : e2 = _ := by simpa using k2
  obtain rfl : e3 = _ := by simpa using k3
  exact ⟨a, b, c, e, rfl⟩
end Kys
end Go.Proofs.YtjilgapoioploaaDoor
