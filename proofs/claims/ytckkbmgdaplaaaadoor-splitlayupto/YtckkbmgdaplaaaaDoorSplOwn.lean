/- The law's own copy of a split: ownSplit. -/
import Derived.Test.YtckkbmgdaplaaaaDoorSplParts
import Derived.Test.YtckkbmgdaplaaaaDoorSplRead
namespace Go.Proofs.YtckkbmgdaplaaaaDoor
open Go.ChangeShapes Go.WideShapes Go.ChangeAt Go.RowKit Go.Maps Go.Sort
namespace Spl
open Fo
/-- A round of the copy's loop: one more tree stands in the row, which is told in block n. -/
theorem row_own {w W3 W4 W5 : World} {wy0 pn0 sz0 wy pn sz : Int} {v kv v5 : Value} {L : List (Int × Int × Int × Value)} {f ks : Fo}
    (hw3 : w.heap.size + 1 < W3.heap.size) (row3 : RowAt W3 (w.heap.size + 1 + 1) w.heap.size v L f)
    (eX3 : W3.heap[w.heap.size]? = some (.cells #[.int .i64 wy0, .int .i64 pn0, .int .i64 sz0, v] 24 (0, 0)))
    (e43 : W3.heap[w.heap.size + 1]? = some (.cells #[.int .i64 0, .int .i64 0, .int .i64 0, .slice none 0 0] 24 (0, 0)))
    (k3 : Below w.heap.size w W3) (b4 : Below W3.heap.size W3 W4) (hk : KAt (low W4 W3.heap.size) kv ks)
    (ho : W5.ownsRow (w.heap.size + 1 + 1) 24 4 v5 (L.length + 1) (L.flatMap trc ++ [.int .i64 wy, .int .i64 pn, .int .i64 sz, kv]))
    (hg : (W4.alloc (.cells #[.int .i64 wy, .int .i64 pn, .int .i64 sz, kv] 24)).grownBy W5 v.ownBlock)
    (hb : v5.ownBlock = v.ownBlock ∨ v5.ownBlock = some (W4.alloc (.cells #[.int .i64 wy, .int .i64 pn, .int .i64 sz, kv] 24)).heap.size) :
    RowAt (W5.setCell ⟨w.heap.size, 3, none⟩ v5) (w.heap.size + 1 + 1) w.heap.size v5 (L ++ [(wy, pn, sz, kv)]) (f.app (cons wy pn sz ks nil)) ∧
    (W5.setCell ⟨w.heap.size, 3, none⟩ v5).heap[w.heap.size]? = some (.cells #[.int .i64 wy0, .int .i64 pn0, .int .i64 sz0, v5] 24 (0, 0)) ∧
    (W5.setCell ⟨w.heap.size, 3, none⟩ v5).heap[w.heap.size + 1]? = some (.cells #[.int .i64 0, .int .i64 0, .int .i64 0, .slice none 0 0] 24 (0, 0)) ∧
    Below w.heap.size w (W5.setCell ⟨w.heap.size, 3, none⟩ v5) ∧ w.heap.size + 1 < (W5.setCell ⟨w.heap.size, 3, none⟩ v5).heap.size := by
  have hvN : ∀ g, v.ownBlock = some g → w.heap.size + 1 + 1 ≤ g ∧ g < W3.heap.size := fun g hg => by
    rcases row3.1.2 with ⟨hv, _⟩ | ⟨q, cap, cur, hv, hq, hh, _⟩
    · rw [hv] at hg; cases hg
    · rw [hv] at hg
      injection hg with hg
      subst hg
      exact ⟨hq, (Array.getElem?_eq_some_iff.1 hh).1⟩
  have h34 := b4.size
  have kA : Below W4.heap.size W4 (W4.alloc (.cells #[.int .i64 wy, .int .i64 pn, .int .i64 sz, kv] 24)) := (Below.refl _ _).alloc (Nat.le_refl _) _
  have bA := b4.trans (kA.mono b4.size)
  have rowA := row3.but (But.of_below (M := w.heap.size) bA) (by omega)
  have hkA : KAt (but1 (W4.alloc (.cells #[.int .i64 wy, .int .i64 pn, .int .i64 sz, kv] 24)) (w.heap.size + 1 + 1) w.heap.size v) kv ks :=
    (hk.ck (low_but1 (by omega) (by omega) (fun g h => (hvN g h).2))).ck (but1_but (But.of_below (M := w.heap.size) kA) (by omega))
  have sA := kA.size
  have at5 : ∀ i, i < W3.heap.size → v.ownBlock ≠ some i → W5.heap[i]? = W3.heap[i]? := fun i hi hv => by
    rw [hg.block i (by omega) (fun e => hv e.symm)]
    exact bA.block i hi
  have row5 := RowAt.snoc rowA hkA ho hg hb (by omega)
  have e5X := (at5 w.heap.size (by omega) row3.2.2).trans eX3
  have k5 : Below w.heap.size w W5 := (k3.trans (bA.mono k3.size)).grown hg (by omega) (fun k hk => by have := (hvN k hk).1; omega)
  have hsz : (W5.setCell ⟨w.heap.size, 3, none⟩ v5).heap.size = W5.heap.size := by simp [World.setCell]
  refine ⟨row5.set v5 (.inr rfl), heap_setCell_same _ _ 3 _ _ _ e5X, ?_, k5.setCell (p := ⟨w.heap.size, 3, none⟩) (Nat.le_refl _) v5, ?_⟩
  · rw [RowKit.Below.heap_setCell _ _ _ _ (show w.heap.size + 1 ≠ w.heap.size by omega)]
    exact (at5 _ hw3 (fun e => by have := (hvN _ e).1; omega)).trans e43
  · rw [hsz]
    have := hg.size
    omega
end Spl
end Go.Proofs.YtckkbmgdaplaaaaDoor
