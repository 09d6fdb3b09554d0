/- copyOf, holds. -/
import Derived.Test.YtinhmklpnkikgabDoorGridClone
namespace Go.Proofs.YtinhmklpnkikgabDoor
open Go.ChangeShapes Go.WideShapes Go.ChangeAt Go.RowKit
namespace Grd
set_option maxHeartbeats 1000000 in
theorem copyOf_any (a h : Int) (b o c : Nat) (cs : List C) (w : World) (hC : CellsAt w b o cs) (hbig : cs.length * 32 ≤ 140737488355328) :
    Calls Tryd.prog 22 #[.agg #[.int .i64 a, .int .i64 h, .slice (some ⟨b, o, none⟩) cs.length c]] w fun e w' => ∃ v', e = .returned (.agg #[.int .i64 a, .int .i64 h, v']) ∧ OwnG w' w.heap.size v' cs ∧ Below w.heap.size w w' := by
  have HC : Hid (CellsAt w b o cs) := hC
  clear hC
  have kk : Below w.heap.size w ((w.alloc (.cells #[.int .i64 a, .int .i64 h, .slice (some ⟨b, o, none⟩) cs.length c] 24)).alloc (.cells #[.int .i64 0, .int .i64 0, .slice none 0 0] 24)) := ((Below.refl _ _).alloc (Nat.le_refl _) _).alloc (by simp) _
  have x0 : ((w.alloc (.cells #[.int .i64 a, .int .i64 h, .slice (some ⟨b, o, none⟩) cs.length c] 24)).alloc (.cells #[.int .i64 0, .int .i64 0, .slice none 0 0] 24)).heap[w.heap.size]? = some (.cells #[.int .i64 a, .int .i64 h, .slice (some ⟨b, o, none⟩) cs.length c] 24 (0, 0)) := (Below.heap_alloc _ _ _ (by simp)).trans (heap_alloc_new _ _)
  have x1 : ((w.alloc (.cells #[.int .i64 a, .int .i64 h, .slice (some ⟨b, o, none⟩) cs.length c] 24)).alloc (.cells #[.int .i64 0, .int .i64 0, .slice none 0 0] 24)).heap[w.heap.size + 1]? = some (.cells #[.int .i64 0, .int .i64 0, .slice none 0 0] 24 (0, 0)) := heap_alloc2_new w _ _
  have hs0 : ((w.alloc (.cells #[.int .i64 a, .int .i64 h, .slice (some ⟨b, o, none⟩) cs.length c] 24)).alloc (.cells #[.int .i64 0, .int .i64 0, .slice none 0 0] 24)).heap.size = w.heap.size + 2 := by simp
  go_enter Tryd.func22, Tryd.ntmps22
  go_wp2_with fail
  refine (clone_cells b o c cs _ (HC.out.below kk) hbig).mono ?_
  rintro e W2 ⟨v, rfl, ⟨g, cap, rest, t, rfl, hgb, hlc, hcm, hgh⟩, b2⟩
  have y0 := carry x0 b2
  have y1 := carry x1 b2
  have ⟨d0, d1, d2, df⟩ := cells3 y0
  have f2 := df 2
  have z0' := heap_setCell_same W2 w.heap.size 2 _ _ (.slice (some ⟨g, 0, none⟩) cs.length cap) y0
  have z1' := (heap_setCell_other W2 ⟨w.heap.size, 2, none⟩ (w.heap.size + 1) (.slice (some ⟨g, 0, none⟩) cs.length cap) (Nat.succ_ne_self _)).trans y1
  go_wp2_with (first
    | (refine wpList_load_row rfl 24 _ rfl w.heap.size rfl _ _ _ _ z0' Tryd.underlying24 rfl (by kernel_rfl) ?_)
    | (refine wpList_store_row rfl 24 (.tmp 2) _ rfl (w.heap.size + 1) #[.int .i64 a, .int .i64 h, .slice (some ⟨g, 0, none⟩) cs.length cap] rfl rfl _ _ z1' (by kernel_rfl) rfl (one3v _ _ _ _ _) ?_))
  (try simp only [Exit.inBlock, Exit.then])
  have hg2 : w.heap.size + 2 ≤ g := by rw [← hs0]; exact hgb
  refine bodyPost_ret (v := .agg #[.int .i64 a, .int .i64 h, .slice (some ⟨g, 0, none⟩) cs.length cap]) ?_ rfl ⟨_, rfl, ⟨g, cap, rest, t, rfl, by omega, hlc, hcm, ?_⟩, below_setRow ((kk.trans (b2.mono kk.size)).setCell (Nat.le_refl _) _) (by omega) _⟩
  · exact results_cell_row rfl _ _ (w.heap.size + 1) _ _ _ _ rfl (setRow_heap _ _ _ _ _ _ z1') Tryd.underlying24 rfl (by kernel_rfl)
  · rw [setRow_other _ _ _ _ (by omega), heap_setCell_other _ _ _ _ (by dsimp only; omega)]
    exact hgh
end Grd
end Go.Proofs.YtinhmklpnkikgabDoor
