/- Package split: the list of what was not checked yet. -/
import Derived.Test.YtckkbmgdaplaaaaDoorSplChk1
import Derived.Deep.MidRow
namespace Go.Proofs.YtckkbmgdaplaaaaDoor
open Go.ChangeShapes Go.WideShapes Go.ChangeAt Go.RowKit Go.Maps
namespace Spl
open Fo
def lvc (x : Int × Value) : List Value := [.int .i64 x.1, x.2]
def LvRow (w : World) (base : Nat) (v : Value) (L : List (Int × Value)) : Prop := w.ownsRow base 76 2 v L.length (L.flatMap lvc)
theorem lvc_len : ∀ L : List (Int × Value), (L.flatMap lvc).length = L.length * 2
  | [] => rfl
  | x :: L => by rw [List.flatMap_cons, List.length_append, lvc_len L]; simp [lvc]; omega
theorem LvRow.but {w w' : World} {base M : Nat} {v : Value} {L : List (Int × Value)} (h : LvRow w base v L) (hb : But M w w') (hM : M < base) : LvRow w' base v L := by
  refine ⟨h.1, ?_⟩
  rcases h.2 with h2 | ⟨g, cap, cur, hv, hg, hh, r⟩
  · exact .inl h2
  · exact .inr ⟨g, cap, cur, hv, hg, hb.heap hh (by omega), r⟩
theorem LvRow.from {w : World} {base : Nat} {v : Value} {L : List (Int × Value)} (h : LvRow w base v L) : ∀ k, v.ownBlock = some k → base ≤ k := by
  intro k hk
  obtain ⟨_, h | ⟨q, cap, cur, rfl, hq, _⟩⟩ := h
  · rw [h.1] at hk; simp [Value.ownBlock] at hk
  · simp only [Value.ownBlock, Option.some.injEq] at hk; omega
/-- The last of them, in memory. -/
theorem LvRow.open {w : World} {base : Nat} {v : Value} {L : List (Int × Value)} {way : Int} {kv : Value} (h : LvRow w base v (L ++ [(way, kv)])) :
    ∃ g cap, v = .slice (some ⟨g, 0, none⟩) (L.length + 1) cap ∧ base ≤ g ∧ L.length + 1 ≤ cap ∧ g < w.heap.size ∧ w.cell? ⟨g, L.length * 2, none⟩ = some (.int .i64 way) ∧ w.cell? ⟨g, L.length * 2 + 1, none⟩ = some kv ∧ w.frozen? ⟨g, L.length * 2 + 1, none⟩ = false ∧
      LvRow w base (.slice (some ⟨g, 0, none⟩) L.length cap) L ∧ ∀ kv', LvRow (w.setCell ⟨g, L.length * 2 + 1, none⟩ kv') base v (L ++ [(way, kv')]) := by
  obtain ⟨hl, h2 | ⟨g, cap, cur, hv, hg, hh, hnc, hc, hs, ht⟩⟩ := h
  · have := h2.2
    simp at this
  · rw [List.length_append, List.length_singleton] at hv hnc ht
    rw [List.flatMap_append] at ht
    have e2 : [(way, kv)].flatMap lvc = [.int .i64 way, kv] := rfl
    rw [e2] at ht
    have hlen := lvc_len L
    have q0 : cur[L.length * 2]? = some (.int .i64 way) := by
      have : (cur.toList.take ((L.length + 1) * 2))[L.length * 2]? = some (.int .i64 way) := by
        rw [ht, List.getElem?_append_right (by omega), hlen, Nat.sub_self]
        rfl
      rw [List.getElem?_take_of_lt (by omega)] at this
      simpa using this
    have q1 : cur[L.length * 2 + 1]? = some kv := by
      have : (cur.toList.take ((L.length + 1) * 2))[L.length * 2 + 1]? = some kv := by
        rw [ht, List.getElem?_append_right (by omega), hlen, show L.length * 2 + 1 - L.length * 2 = 1 by omega]
        rfl
      rw [List.getElem?_take_of_lt (by omega)] at this
      simpa using this
    refine ⟨g, cap, hv, hg, hnc, (Array.getElem?_eq_some_iff.1 hh).1, ?_, ?_, ?_, ⟨hlen, .inr ⟨g, cap, cur, rfl, hg, hh, by omega, hc, hs, ?_⟩⟩, fun kv' => ⟨by rw [lvc_len], .inr ⟨g, cap, cur.setIfInBounds (L.length * 2 + 1) kv', by rw [hv, List.length_append, List.length_singleton], hg, heap_setCell_same w g _ cur _ kv' hh, by rw [List.length_append, List.length_singleton]; exact hnc, hc, by simpa using hs, ?_⟩⟩⟩
    · unfold World.cell?; rw [hh]; exact q0
    · unfold World.cell?; rw [hh]; exact q1
    · simp [World.frozen?, hh]
    · have e := congrArg (List.take (L.length * 2)) ht
      rw [List.take_take, Nat.min_eq_left (by omega), List.take_left' hlen] at e
      exact e
    · rw [List.length_append, List.length_singleton, List.flatMap_append]
      have e3 : [(way, kv')].flatMap lvc = [.int .i64 way, kv'] := rfl
      rw [e3, Array.toList_setIfInBounds, List.take_set, ht, List.set_append_right _ _ (by omega), hlen, show L.length * 2 + 1 - L.length * 2 = 1 by omega]
      rfl
theorem lv_info : (Tryd.prog.info? 76).map (fun i => (i.zero, i.size, i.bytes)) = some (some (.agg #[.int .i64 0, .slice none 0 0]), 2, 32) := by kernel_rfl
theorem lv_und : Tryd.prog.underlying 77 = some (.slice 76) := by kernel_rfl
theorem MetAt.setCell {w : World} {M g i : Nat} {u : Value} {l : List Int} (h : MetAt w M l) (hg : M ≠ g) : MetAt (w.setCell ⟨g, i, none⟩ u) M l := by
  obtain ⟨D, n, hn, ho, q⟩ := h
  exact ⟨D, n, hn, ho.setCell (a := ⟨g, i, none⟩) hg u, q⟩
theorem CK.setCell {w w' : World} {g i : Nat} {u : Value} (h : CK w w') (hg : w.heap.size ≤ g) : CK w (w'.setCell ⟨g, i, none⟩ u) := by
  intro b o v hv
  have := lt_of_cell hv
  rw [World.cell?_setCell_other _ _ _ _ (by intro e; injection e with e; omega)]
  exact h b o v hv
theorem CK.alloc {w w' : World} (h : CK w w') (o : Obj) : CK w (w'.alloc o) := h.trans (CK.below ((Below.refl _ _).alloc (Nat.le_refl _) _))
theorem LvRow.alloc {w : World} {base : Nat} {v : Value} {L : List (Int × Value)} (h : LvRow w base v L) (o : Obj) : LvRow (w.alloc o) base v L := World.ownsRow.alloc h o
theorem LvRow.below {w w' : World} {base : Nat} {v : Value} {L : List (Int × Value)} (h : LvRow w base v L) (hb : Below w.heap.size w w') : LvRow w' base v L := by
  refine ⟨h.1, ?_⟩
  rcases h.2 with h2 | ⟨g, cap, cur, hv, hg, hh, r⟩
  · exact .inl h2
  · exact .inr ⟨g, cap, cur, hv, hg, by rw [hb.block g (Array.getElem?_eq_some_iff.1 hh).1]; exact hh, r⟩
theorem four_at {W : World} {b : Nat} {p q r z : Value} {t : TypeId} (h : W.heap[b]? = some (.cells #[p, q, r, z] t (0, 0))) : (W.cell? ⟨b, 0, none⟩ = some p ∧ W.cell? ⟨b, 1, none⟩ = some q ∧ W.cell? ⟨b, 2, none⟩ = some r ∧ W.cell? ⟨b, 3, none⟩ = some z) ∧ True := by
  unfold World.cell?
  rw [h]
  exact ⟨⟨rfl, rfl, rfl, rfl⟩, trivial⟩
theorem But.drew {M : Nat} {w w' : World} (h : But M w.drew w') : But M w w' := ⟨h.os, h.tape, h.output, h.size, h.block⟩
theorem cells_of_row {W : World} {g : Nat} {L : List Value} {t : TypeId} (h : W.heap[g]? = some (.cells L.toArray t (0, 0))) : ∀ j u, L[j]? = some u → W.cell? ((⟨g, 0, none⟩ : Addr).add j) = some u := fun j u hj => by
  rw [Addr.add_mid, Nat.zero_add]
  unfold World.cell?
  rw [h]
  simpa using hj
theorem CK.grown {w a b : World} {row : Option Nat} (h : CK w a) (hg : a.grownBy b row) (hf : ∀ k, row = some k → w.heap.size ≤ k) : CK w b := by
  intro x o v hv
  have hlt := lt_of_cell hv
  have h2 := h x o v hv
  have e := hg.block x (lt_of_cell h2) (by intro e; have := hf x e.symm; omega)
  unfold World.cell? at h2 ⊢
  simp only [e]
  exact h2
theorem MetAt.grown {a b : World} {M : Nat} {l : List Int} {row : Option Nat} (h : MetAt a M l) (hg : a.grownBy b row) (hf : ∀ k, row = some k → M < k) : MetAt b M l := by
  obtain ⟨D, n, hn, ho, q⟩ := h
  exact ⟨D, n, hn, ho.kept hg (by intro e; have := hf M e.symm; omega), q⟩
end Spl
end Go.Proofs.YtckkbmgdaplaaaaDoor
