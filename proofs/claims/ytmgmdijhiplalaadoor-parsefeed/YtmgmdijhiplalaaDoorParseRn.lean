/- The reference's reader: its numbers changed, or one more. -/
import Derived.Test.YtmgmdijhiplalaaDoorParseRc
namespace Go.Proofs.YtmgmdijhiplalaaDoor
open Go.ChangeShapes Go.WideShapes Go.ChangeAt Go.RowKit
namespace Prs
theorem Rf.nums {w0 : World} {R T G O : Nat} {s : St} {es : List Ev} {W W2 W3 : World} {N : Nat} {pv tv v3 : Value} {eqs : List (Ev × Value)} (h : Rf w0 R T G O s es W N pv tv eqs) (hb : Below W.heap.size W W2) (l : List Int)
    (hown3 : W3.ownsRow N 3 1 v3 l.length (ints l)) (hgrow : W2.grownBy W3 pv.ownBlock) : Rf w0 R T G O { s with ps := l } es (W3.setCell ⟨R, 3, none⟩ v3) N v3 tv eqs := by
  have h2 := h.below hb
  have hW3 : ∀ (k : Nat) (A : Array Value) (u : TypeId), W2.heap[k]? = some (.cells A u (0, 0)) → 3 ≠ u → W3.heap[k]? = some (.cells A u (0, 0)) := fun k A u hk hne => by
    rw [hgrow.block k (blk_lt hk) (fun e1 => row_ne h2.p hk hne e1.symm)]
    exact hk
  have hR3 := hW3 _ _ _ h2.r (by decide)
  have hset : ∀ (k : Nat) (A : Array Value) (u : TypeId), W3.heap[k]? = some (.cells A u (0, 0)) → u ≠ 24 → (W3.setCell ⟨R, 3, none⟩ v3).heap[k]? = some (.cells A u (0, 0)) := fun k A u hk hu => by
    rw [heap_setCell_other _ _ _ _ (blk_type hk hR3 hu)]
    exact hk
  have hrow : ∀ {base : Nat} {e : TypeId} {size : Nat} {v : Value} {n : Nat} {xs : List Value}, W3.ownsRow base e size v n xs → e ≠ 24 → (W3.setCell ⟨R, 3, none⟩ v3).ownsRow base e size v n xs := fun ho hne => row_same ho fun g hg => by
    obtain ⟨A, hA⟩ := row_block ho hg
    rw [hset g A _ hA hne, hA]
  refine h2.turn ((h2.low.grown hgrow h2.low.size (fun k hk => Nat.le_trans h.n0 (h2.p.lt k hk).1)).setCell h.rb _) (heap_setCell_same W3 R 3 _ _ v3 hR3) (fun k A u hk hu hi => hset k A u (hW3 k A u hk (Ne.symm hi)) hu) (fun {v l'} hq => ?_) (hrow hown3 (by decide)) h.n0 ?_ (by rw [heap_setCell_other _ _ _ _ (by simp)]; exact hW3 _ _ _ h2.z (by decide))
  · refine ⟨hrow (row_same hq.1 fun g hg => ?_) (by decide), hq.2⟩
    obtain ⟨A, hA⟩ := row_block hq.1 hg
    rw [hgrow.block g (blk_lt hA) (fun e1 => by
      have a := hq.2 g hg
      have b := (h2.p.lt g e1.symm).1
      omega)]
  · have := h2.n1
    have h5 := hgrow.size
    simp
    omega
theorem Rf.numset {w0 : World} {R T G O : Nat} {s : St} {es : List Ev} {W : World} {N g cap : Nat} {tv : Value} {eqs : List (Ev × Value)} (h : Rf w0 R T G O s es W N (.slice (some ⟨g, 0, none⟩) s.ps.length cap) tv eqs) (j : Nat) (x : Int) :
    Rf w0 R T G O { s with ps := s.ps.set j x } es (W.setCell ⟨g, j, none⟩ (.int .i64 x)) N (.slice (some ⟨g, 0, none⟩) s.ps.length cap) tv eqs := by
  obtain ⟨A, hA⟩ := row_block h.p rfl
  have hgN : N ≤ g := (h.p.lt g rfl).1
  have keep : ∀ {k : Nat}, k ≠ g → (W.setCell ⟨g, j, none⟩ (.int .i64 x)).heap[k]? = W.heap[k]? := fun hk => heap_setCell_other _ _ _ _ hk
  have hk : ∀ (k : Nat) (B : Array Value) (u : TypeId), W.heap[k]? = some (.cells B u (0, 0)) → u ≠ 3 → (W.setCell ⟨g, j, none⟩ (.int .i64 x)).heap[k]? = some (.cells B u (0, 0)) := fun k B u hB hu => by
    rw [keep (blk_type hB hA hu)]
    exact hB
  refine h.turn (h.low.setCell (Nat.le_trans h.n0 hgN) _) (hk _ _ _ h.r (by decide)) (fun k B u hB _ hi => hk k B u hB hi) (fun {v l} hq => ⟨row_same hq.1 fun k hkk => keep (by have := hq.2 k hkk; omega), hq.2⟩) ?_ h.n0 (by simpa using h.n1) (hk _ _ _ h.z (by decide))
  have this := (h.p.stored j (.int .i64 x)).1
  have e : ints (s.ps.set j x) = (ints s.ps).set j (.int .i64 x) := by simp [ints, List.map_set]
  show (W.setCell ⟨g, j, none⟩ (.int .i64 x)).ownsRow N 3 1 _ (s.ps.set j x).length (ints (s.ps.set j x))
  rw [List.length_set, e]
  exact this
/-- A first number, in a block of its own. -/
theorem Rf.begun {w0 : World} {R T G O : Nat} {s : St} {es : List Ev} {W : World} {N : Nat} {pv tv : Value} {eqs : List (Ev × Value)} (h : Rf w0 R T G O s es W N pv tv eqs) :
    Rf w0 R T G O { s with ps := [-1] } es ((W.alloc (.cells #[.int .i64 (-1)] 3)).setCell ⟨R, 3, none⟩ (.slice (some ⟨W.heap.size, 0, none⟩) 1 1)) W.heap.size (.slice (some ⟨W.heap.size, 0, none⟩) 1 1) tv eqs := by
  have hb : Below W.heap.size W (W.alloc (.cells #[.int .i64 (-1)] 3)) := (Below.refl _ _).alloc (Nat.le_refl _) _
  have h2 := h.below hb
  have hn := heap_alloc_new W (.cells #[.int .i64 (-1)] 3)
  have hset : ∀ (k : Nat) (A : Array Value) (u : TypeId), (W.alloc (.cells #[.int .i64 (-1)] 3)).heap[k]? = some (.cells A u (0, 0)) → u ≠ 24 → ((W.alloc (.cells #[.int .i64 (-1)] 3)).setCell ⟨R, 3, none⟩ (.slice (some ⟨W.heap.size, 0, none⟩) 1 1)).heap[k]? = some (.cells A u (0, 0)) := fun k A u hk hu => by
    rw [heap_setCell_other _ _ _ _ (blk_type hk h2.r hu)]
    exact hk
  refine h2.turn (h2.low.setCell h.rb _) (heap_setCell_same _ R 3 _ _ _ h2.r) (fun k A u hk hu _ => hset k A u hk hu) (fun {v l} hq => hq.same (fun k A hA => hset k A _ hA (by decide)) h.n1) ?_ h.low.size (by simp) (by rw [heap_setCell_other _ _ _ _ (by simp)]; exact h2.z)
  exact ⟨rfl, .inr ⟨W.heap.size, 1, #[.int .i64 (-1)], rfl, Nat.le_refl _, hset _ _ _ hn (by decide), Nat.le_refl _, by unfold maxLen; omega, rfl, rfl⟩⟩
end Prs
end Go.Proofs.YtmgmdijhiplalaaDoor
