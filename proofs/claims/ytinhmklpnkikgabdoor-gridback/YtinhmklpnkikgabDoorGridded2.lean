/- The walk of 'gridded'. -/
import Derived.Test.YtinhmklpnkikgabDoorGridded
namespace Go.Proofs.YtinhmklpnkikgabDoor
open Go.ChangeShapes Go.WideShapes Go.ChangeAt Go.RowKit
namespace Grd
set_option maxHeartbeats 4000000 in
theorem gridded_any (w : World) (hT : Txt.Tab w) : Calls Tryd.prog 5 #[] w fun e w' => e = .returned (.bool true) ∧ Below w.heap.size w w' := by
  have HT : Hid (∀ W, Below w.heap.size w W → Txt.Tab W) := fun W k => Tab.next hT k
  clear hT
  go_enter Tryd.func5, Tryd.ntmps5
  go_wp2_with (first
    | (go_at_call 14; refine (gNew _).mono ?_; rintro e W1 ⟨g1, c1, r1, t1, rfl, hc1, hm1, h1, b1⟩)
    | (refine wpList_store_row rfl 24 (.tmp 1) _ rfl W1.heap.size #[.int .i64 3, .int .i64 1, .slice (some ⟨g1, 0, none⟩) 3 c1] rfl rfl _ _ (heap_alloc_new W1 _) (by kernel_rfl) rfl (one3v _ _ _ _ _) ?_
       obtain ⟨m1, a1⟩ := var_new W1 24 #[.int .i64 0, .int .i64 0, .slice none 0 0] #[.int .i64 3, .int .i64 1, .slice (some ⟨g1, 0, none⟩) 3 c1]
       generalize ((W1.alloc (.cells #[.int .i64 0, .int .i64 0, .slice none 0 0] 24)).setRow W1.heap.size #[.int .i64 3, .int .i64 1, .slice (some ⟨g1, 0, none⟩) 3 c1]) = X1 at *
       have k1 := b1.trans (a1.mono b1.size)
       have h1' := carry h1 a1)
    | (refine wpList_load_row rfl 24 _ rfl W1.heap.size rfl _ _ _ _ m1 Tryd.underlying24 rfl (by kernel_rfl) ?_)
    | (go_at_call 9; refine (gWrite g1 c1 r1 t1 _ (HT.out _ k1) hc1 hm1 h1').mono ?_; rintro e W2 ⟨g2, c2, r2, t2, rfl, hc2, hm2, h2, b2⟩)
    | (refine wpList_store_row rfl 24 (.tmp 3) _ rfl W2.heap.size #[.int .i64 3, .int .i64 1, .slice (some ⟨g2, 0, none⟩) 3 c2] rfl rfl _ _ (heap_alloc_new W2 _) (by kernel_rfl) rfl (one3v _ _ _ _ _) ?_
       obtain ⟨m2, a2⟩ := var_new W2 24 #[.int .i64 0, .int .i64 0, .slice none 0 0] #[.int .i64 3, .int .i64 1, .slice (some ⟨g2, 0, none⟩) 3 c2]
       generalize ((W2.alloc (.cells #[.int .i64 0, .int .i64 0, .slice none 0 0] 24)).setRow W2.heap.size #[.int .i64 3, .int .i64 1, .slice (some ⟨g2, 0, none⟩) 3 c2]) = X2 at *
       have k2 := (k1.trans (b2.mono k1.size)).trans (a2.mono (k1.trans (b2.mono k1.size)).size)
       have h2' := carry h2 a2)
    | (refine wpList_load_row rfl 24 _ rfl W2.heap.size rfl _ _ _ _ m2 Tryd.underlying24 rfl (by kernel_rfl) ?_)
    | (go_at_call 8; refine (gFill g2 c2 r2 t2 _ (HT.out _ k2) hc2 hm2 h2').mono ?_; rintro e W3 ⟨g3, c3, r3, t3, rfl, hc3, hm3, h3, b3⟩)
    | (refine wpList_store_row rfl 24 (.tmp 5) _ rfl W3.heap.size #[.int .i64 3, .int .i64 1, .slice (some ⟨g3, 0, none⟩) 3 c3] rfl rfl _ _ (heap_alloc_new W3 _) (by kernel_rfl) rfl (one3v _ _ _ _ _) ?_
       obtain ⟨m3, a3⟩ := var_new W3 24 #[.int .i64 0, .int .i64 0, .slice none 0 0] #[.int .i64 3, .int .i64 1, .slice (some ⟨g3, 0, none⟩) 3 c3]
       generalize ((W3.alloc (.cells #[.int .i64 0, .int .i64 0, .slice none 0 0] 24)).setRow W3.heap.size #[.int .i64 3, .int .i64 1, .slice (some ⟨g3, 0, none⟩) 3 c3]) = X3 at *
       have k3 := (k2.trans (b3.mono k2.size)).trans (a3.mono (k2.trans (b3.mono k2.size)).size)
       have h3' := carry h3 a3)
    | (refine wpList_load_row rfl 24 _ rfl W3.heap.size rfl _ _ _ _ m3 Tryd.underlying24 rfl (by kernel_rfl) ?_)
    | (go_at_call 15; refine (gLines g3 c3 r3 t3 _ (HT.out _ k3) hc3 hm3 h3').mono ?_; rintro e W4 ⟨g4, rfl, h4, b4⟩; have k4 := k3.trans (b4.mono k3.size))
    | (go_at_call 16; refine (gEqual g4 W4.heap.size _ (cell_keep ((Below.refl _ _).alloc (Nat.le_refl _) _) h4) (by simp)).mono ?_; rintro e W5 ⟨rfl, b5⟩))
  go_ret
  have ka := k4.alloc k4.size (.cells #[.string ⟨#[32, 122, 120]⟩] 9)
  exact ⟨rfl, ka.trans (b5.mono ka.size)⟩
end Grd
end Go.Proofs.YtinhmklpnkikgabDoor
