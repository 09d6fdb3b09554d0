/- Package split: a row of trees that grows, and its trees apart from it. -/
import Derived.Test.YtckkbmgdaplaaaaDoorSplPartB
namespace Go.Proofs.YtckkbmgdaplaaaaDoor
open Go.ChangeShapes Go.WideShapes Go.ChangeAt Go.RowKit Go.Maps Go.Sort
namespace Spl
open Fo
/-- The world without the blocks below N and without the block of the row v and the block X. -/
def but1 (w : World) (N X : Nat) (v : Value) : World := { low w N with heap := (low w N).heap.mapIdx fun i o => if v.ownBlock = some i ∨ i = X then .cells #[] 0 (0, 0) else o }
theorem but1_cell {w : World} {N X b o : Nat} {v x : Value} (h : (but1 w N X v).cell? ⟨b, o, none⟩ = some x) : N ≤ b ∧ v.ownBlock ≠ some b ∧ b ≠ X ∧ w.cell? ⟨b, o, none⟩ = some x := by
  have hg : ((low w N).heap.mapIdx fun i o => if v.ownBlock = some i ∨ i = X then Obj.cells #[] 0 (0, 0) else o)[b]? = ((low w N).heap[b]?).map (fun o => if v.ownBlock = some b ∨ b = X then Obj.cells #[] 0 (0, 0) else o) := by rw [Array.getElem?_mapIdx]
  unfold World.cell? but1 at h
  rw [hg] at h
  by_cases hN : v.ownBlock = some b ∨ b = X
  · exfalso
    cases hw : (low w N).heap[b]? with
    | none => rw [hw] at h; simp at h
    | some y => rw [hw] at h; simp [hN] at h
  · have h2 : (low w N).cell? ⟨b, o, none⟩ = some x := by
      unfold World.cell?
      simpa [hN] using h
    exact ⟨(low_cell h2).1, fun e => hN (.inl e), fun e => hN (.inr e), (low_cell h2).2⟩
theorem but1_of {w : World} {N X b o : Nat} {v x : Value} (hb : N ≤ b) (hv : v.ownBlock ≠ some b) (hX : b ≠ X) (h : w.cell? ⟨b, o, none⟩ = some x) : (but1 w N X v).cell? ⟨b, o, none⟩ = some x := by
  have hg : ((low w N).heap.mapIdx fun i o => if v.ownBlock = some i ∨ i = X then Obj.cells #[] 0 (0, 0) else o)[b]? = ((low w N).heap[b]?).map (fun o => if v.ownBlock = some b ∨ b = X then Obj.cells #[] 0 (0, 0) else o) := by rw [Array.getElem?_mapIdx]
  have h2 := low_of hb h
  unfold World.cell? but1
  rw [hg]
  unfold World.cell? at h2
  simpa [hv, hX] using h2
theorem but1_low (w : World) (N X : Nat) (v : Value) : CK (but1 w N X v) (low w N) := fun _ _ _ h => low_of (but1_cell h).1 (but1_cell h).2.2.2
theorem but1_but {w w' : World} {R N X : Nat} {v : Value} (h : But R w w') (hR : R < N) : CK (but1 w N X v) (but1 w' N X v) := by
  intro b o x hx
  obtain ⟨hN, hv, hX, hc⟩ := but1_cell hx
  refine but1_of hN hv hX ?_
  have hb := lt_of_cell hc
  unfold World.cell?
  rw [h.block b hb (by omega)]
  exact hc
theorem but1_set {w : World} {N X g i : Nat} {v : Value} (u : Value) (hg : g < N ∨ g = X) : CK (but1 w N X v) (but1 (w.setCell ⟨g, i, none⟩ u) N X v) := by
  intro b o x hx
  obtain ⟨hN, hv, hX, hc⟩ := but1_cell hx
  refine but1_of hN hv hX ?_
  rw [World.cell?_setCell_other _ _ _ _ (by intro e; injection e with e; omega)]
  exact hc
theorem but1_grown {w w' : World} {N X : Nat} {v v' : Value} (h : w.grownBy w' v.ownBlock) (hb : v'.ownBlock = v.ownBlock ∨ v'.ownBlock = some w.heap.size) : CK (but1 w N X v) (but1 w' N X v') := by
  intro b o x hx
  obtain ⟨hN, hv, hX, hc⟩ := but1_cell hx
  have hlt := lt_of_cell hc
  refine but1_of hN ?_ hX ?_
  · rcases hb with e | e
    · rw [e]; exact hv
    · rw [e]; intro e2; injection e2 with e2; omega
  · unfold World.cell?
    rw [h.block b hlt (fun e => hv e.symm)]
    exact hc
theorem low_but1 {w : World} {N X M : Nat} {v : Value} (hM : N ≤ M) (hX : X < M) (hv : ∀ g, v.ownBlock = some g → g < M) : CK (low w M) (but1 w N X v) := by
  intro b o x hx
  obtain ⟨hb, hc⟩ := low_cell hx
  refine but1_of (by omega) (fun e => ?_) (by omega) hc
  have := hv b e
  omega
def KRow (w : World) (N : Nat) (v : Value) (L : List (Int × Int × Int × Value)) : Prop := w.ownsRow N 24 4 v L.length (L.flatMap trc)
/-- The trees f, read one after the other, kept in the row v. -/
def RowAt (w : World) (N X : Nat) (v : Value) (L : List (Int × Int × Int × Value)) (f : Fo) : Prop := KRow w N v L ∧ Reads (but1 w N X v) L f ∧ v.ownBlock ≠ some X
theorem RowAt.but {w w' : World} {R N X : Nat} {v : Value} {L : List (Int × Int × Int × Value)} {f : Fo} (h : RowAt w N X v L f) (hb : But R w w') (hR : R < N) : RowAt w' N X v L f := by
  refine ⟨⟨h.1.1, ?_⟩, h.2.1.ck (but1_but hb hR) _ _, h.2.2⟩
  rcases h.1.2 with h2 | ⟨g, cap, cur, hv, hg, hh, r⟩
  · exact .inl h2
  · exact .inr ⟨g, cap, cur, hv, hg, by rw [hb.block g (Array.getElem?_eq_some_iff.1 hh).1 (by omega)]; exact hh, r⟩
theorem RowAt.set {w : World} {N X g i : Nat} {v : Value} {L : List (Int × Int × Int × Value)} {f : Fo} (h : RowAt w N X v L f) (u : Value) (hg : g < N ∨ g = X) : RowAt (w.setCell ⟨g, i, none⟩ u) N X v L f := by
  refine ⟨⟨h.1.1, ?_⟩, h.2.1.ck (but1_set u hg) _ _, h.2.2⟩
  rcases h.1.2 with h2 | ⟨q, cap, cur, hv, hq, hh, r⟩
  · exact .inl h2
  · exact .inr ⟨q, cap, cur, hv, hq, by
      have hX : q ≠ X := fun e => h.2.2 (by rw [hv, e]; rfl)
      rw [RowKit.Below.heap_setCell _ _ _ _ (show q ≠ g by omega)]
      exact hh, r⟩
theorem trc_snoc (L : List (Int × Int × Int × Value)) (x : Int × Int × Int × Value) : (L ++ [x]).flatMap trc = L.flatMap trc ++ trc x := by
  rw [List.flatMap_append]
  simp
/-- One more. -/
theorem RowAt.snoc {w w' : World} {N X : Nat} {v v' : Value} {L : List (Int × Int × Int × Value)} {f : Fo} {wy pn sz : Int} {kv : Value} {ks : Fo} (h : RowAt w N X v L f) (hk : KAt (but1 w N X v) kv ks)
    (ho : w'.ownsRow N 24 4 v' (L.length + 1) (L.flatMap trc ++ [.int .i64 wy, .int .i64 pn, .int .i64 sz, kv])) (hg : w.grownBy w' v.ownBlock) (hb : v'.ownBlock = v.ownBlock ∨ v'.ownBlock = some w.heap.size) (hX : X < w.heap.size) :
    RowAt w' N X v' (L ++ [(wy, pn, sz, kv)]) (f.app (cons wy pn sz ks nil)) := by
  refine ⟨?_, (Reads.snoc wy pn sz kv ks hk L f h.2.1).ck (but1_grown hg hb) _ _, fun e => by
    rcases hb with e2 | e2
    · exact h.2.2 (e2 ▸ e)
    · rw [e2] at e; injection e with e; omega⟩
  unfold KRow
  rw [List.length_append, List.length_singleton, trc_snoc]
  exact ho
/-- The row is a slice of trees. -/
theorem RowAt.kat {w : World} {N X : Nat} {v : Value} {L : List (Int × Int × Int × Value)} {f : Fo} (h : RowAt w N X v L f) : KAt (low w N) v f := by
  have hlen := Reads.len L f h.2.1
  rcases h.1.2 with ⟨hv, hn⟩ | ⟨g, cap, cur, hv, hg, hh, hc, _, hs, ht⟩
  · have : f = nil := len_nil (by omega)
    subst this
    exact ⟨none, 0, hv, Nat.le_refl _, .inl rfl⟩
  · refine ⟨some ⟨g, 0, none⟩, cap, by rw [hv, hlen], by omega, .inr ⟨g, 0, rfl, fo_of_reads L f 0 (h.2.1.ck (but1_low w N X v) _ _) ?_⟩⟩
    intro j u hj
    refine low_of hg ?_
    rw [Nat.zero_add]
    rw [← ht] at hj
    have hlt : j < L.length * 4 := by
      rcases Nat.lt_or_ge j (L.length * 4) with h | h
      · exact h
      · rw [List.getElem?_eq_none (by rw [List.length_take]; omega)] at hj
        cases hj
    rw [List.getElem?_take_of_lt hlt] at hj
    unfold World.cell?
    rw [hh]
    simpa using hj
end Spl
end Go.Proofs.YtckkbmgdaplaaaaDoor
