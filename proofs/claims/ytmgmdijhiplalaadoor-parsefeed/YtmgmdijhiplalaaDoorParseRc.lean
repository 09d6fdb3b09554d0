/- A command is told: its numbers go with it. -/
import Derived.Test.YtmgmdijhiplalaaDoorParseRo1
namespace Go.Proofs.YtmgmdijhiplalaaDoor
open Go.ChangeShapes Go.WideShapes Go.ChangeAt Go.RowKit
namespace Prs
set_option maxHeartbeats 2000000 in
set_option maxRecDepth 100000 in
theorem ground_raw {R : Nat} {a b c d e f g : Value} {W : World} (hr : W.heap[R]? = some (.cells #[a, b, c, d, e, f, g] 24 (0, 0))) :
    Calls Tryd.prog 27 #[.pointer (some ⟨R, 0, none⟩)] W fun r W' => r = .returned (.tuple #[]) ∧ W' = W.setRow R (stCells (bare 0) (.slice none 0 0)) := by
  go_enter Tryd.func27, Tryd.ntmps27
  go_wp2_with (refine wpList_store_row rfl 24 (.tmp 0) _ rfl R #[.int .i64 0, .int .u8 0, .string ⟨#[]⟩, .slice none 0 0, .string ⟨#[]⟩, .string ⟨#[]⟩, .bool false] rfl rfl _ _ hr (by kernel_rfl) rfl (by simp [Value.oneCell']) ?_)
  go_end0
  exact ⟨rfl, rfl⟩
/-- One event more, with the reader's own numbers, and the reader in its ground. -/
theorem Rf.ended {w0 : World} {R T G O : Nat} {s : St} {es : List Ev} {W W3 : World} {N : Nat} {pv tv v3 : Value} {eqs : List (Ev × Value)} (h : Rf w0 R T G O s es W N pv tv eqs) (ev : Ev) (hev : ev.ps = s.ps)
    (hown3 : W3.ownsRow w0.heap.size 37 7 v3 (es.length + 1) (evFlat eqs ++ evCells ev pv)) (hgrow : W.grownBy W3 tv.ownBlock) : Rf w0 R T G O (bare 0) (es ++ [ev]) ((W3.setCell ⟨T, 0, none⟩ v3).setRow R (stCells (bare 0) (.slice none 0 0))) W3.heap.size (.slice none 0 0) v3 (eqs ++ [(ev, pv)]) ∧ (W3.setCell ⟨T, 0, none⟩ v3).heap[R]? = some (.cells (stCells s pv) 24 (0, 0)) := by
  have hT3 : W3.heap[T]? = some (.cells #[tv] 26 (0, 0)) := told_cell h hgrow
  have hW3 : ∀ (k : Nat) (A : Array Value) (u : TypeId), W.heap[k]? = some (.cells A u (0, 0)) → 37 ≠ u → u ≠ 26 → (W3.setCell ⟨T, 0, none⟩ v3).heap[k]? = some (.cells A u (0, 0)) := fun k A u hk hne hu => by
    rw [heap_setCell_other _ _ _ _ (blk_type hk h.t hu), hgrow.block k (blk_lt hk) (fun e1 => row_ne h.e hk hne e1.symm)]
    exact hk
  have hR3 := hW3 _ _ _ h.r (by decide) (by decide)
  have hTt : (W3.setCell ⟨T, 0, none⟩ v3).heap[T]? = some (.cells #[v3] 26 (0, 0)) := by
    have := heap_setCell_same W3 T 0 _ _ v3 hT3
    simpa using this
  have hrow : ∀ (k : Nat) (A : Array Value) (u : TypeId), (W3.setCell ⟨T, 0, none⟩ v3).heap[k]? = some (.cells A u (0, 0)) → u ≠ 24 → ((W3.setCell ⟨T, 0, none⟩ v3).setRow R (stCells (bare 0) (.slice none 0 0))).heap[k]? = some (.cells A u (0, 0)) := fun k A u hk hu => by
    rw [setRow_other _ _ _ _ (blk_type hk hR3 hu)]
    exact hk
  have hsz : W3.heap.size = ((W3.setCell ⟨T, 0, none⟩ v3).setRow R (stCells (bare 0) (.slice none 0 0))).heap.size := by simp
  have hps : ∀ {b : Nat} {v : Value} {l : List Int}, W.ownsRow b 3 1 v l.length (ints l) → w0.heap.size ≤ b → PsAt ((W3.setCell ⟨T, 0, none⟩ v3).setRow R (stCells (bare 0) (.slice none 0 0))) w0.heap.size W3.heap.size v l := fun {b v l} ho hb => by
    refine ⟨row_mono (row_same ho fun g hg => ?_) hb, fun k hk => ?_⟩
    · obtain ⟨A, hA⟩ := row_block ho hg
      rw [hrow g A _ (hW3 g A _ hA (by decide) (by decide)) (by decide), hA]
    · obtain ⟨A, hA⟩ := row_block ho hk
      exact Nat.lt_of_lt_of_le (blk_lt hA) hgrow.size
  have hlow : Below w0.heap.size w0 ((W3.setCell ⟨T, 0, none⟩ v3).setRow R (stCells (bare 0) (.slice none 0 0))) := below_setRow ((h.low.grown hgrow h.low.size (fun k hk => (h.e.lt k hk).1)).setCell h.tb _) h.rb _
  refine ⟨⟨hlow, h.rb, h.tb, setRow_heap _ R _ _ _ _ hR3, hrow _ _ _ hTt (by decide), hrow _ _ _ (hW3 _ _ _ h.g (by decide) (by decide)) (by decide), hrow _ _ _ (hW3 _ _ _ h.o (by decide) (by decide)) (by decide), by rw [setRow_other _ _ _ _ (by omega)]; exact hW3 _ _ _ h.z (by decide) (by decide), World.ownsRow_nil _ _ _ _, ?_, by rw [List.map_append, h.es]; rfl, ?_, Nat.le_trans h.low.size hgrow.size, Nat.le_of_eq hsz⟩, hR3⟩
  · rw [evFlat_snoc, List.length_append, List.length_singleton]
    refine row_same hown3 fun g hg => ?_
    obtain ⟨A, hA⟩ := row_block hown3 hg
    have h1 : (W3.setCell ⟨T, 0, none⟩ v3).heap[g]? = some (.cells A 37 (0, 0)) := by
      rw [heap_setCell_other _ _ _ _ (blk_type hA hT3 (by decide))]
      exact hA
    rw [hrow g A _ h1 (by decide), hA]
  · intro x hx
    rw [List.mem_append, List.mem_singleton] at hx
    rcases hx with hx | rfl
    · exact hps (h.q x hx).1 (Nat.le_refl _)
    · have := h.p
      rw [← hev] at this
      exact hps this h.n0
end Prs
end Go.Proofs.YtmgmdijhiplalaaDoor
