/- The walk of grid.Fill: the wrong cell, and the right one. -/
import Derived.Test.YtinhmklpnkikgabDoorGridFill
namespace Go.Proofs.YtinhmklpnkikgabDoor
open Go.ChangeShapes Go.WideShapes Go.ChangeAt Go.RowKit
namespace Grd
open Txt (wd)
open Sty (isSt)
theorem check_ok (a h : Int) (v : Value) (cs : List C) (w : World) (hT : Txt.Tab w) (hS : SliceAt w v cs) (hok : gridErr a h cs = 0) :
    Calls Tryd.prog 7 #[.agg #[.int .i64 a, .int .i64 h, v]] w fun e w' => e = .returned (.int .i64 0) ∧ Below w.heap.size w w' := by
  have := check_any a h v cs w hT hS
  rwa [hok] at this
set_option maxHeartbeats 1000000 in
theorem fill_bad2 (a h : Int) (v : Value) (cs : List C) (rx ry rw rh r f bk x : Int) (w : World) (hT : Txt.Tab w) (hS : SliceAt w v cs) (hok : gridErr a h cs = 0) (hr : wd r ≠ 1) :
    Calls Tryd.prog 8 #[.agg #[.int .i64 a, .int .i64 h, v], .agg #[.int .i64 rx, .int .i64 ry, .int .i64 rw, .int .i64 rh], .agg #[.int .i32 r, .int .i64 f, .int .i64 bk, .int .i64 x]] w fun e w' => e = .returned (.tuple #[.agg #[.int .i64 0, .int .i64 0, .slice none 0 0], .int .i64 4]) ∧ Below w.heap.size w w' := by
  obtain ⟨_, _, x2, x3, kk, hsz⟩ := alloc4 w (.cells #[.int .i64 a, .int .i64 h, v] 24) (.cells #[.int .i64 rx, .int .i64 ry, .int .i64 rw, .int .i64 rh] 26) (.cells #[.int .i32 r, .int .i64 f, .int .i64 bk, .int .i64 x] 30) (.cells #[.int .i64 0, .int .i64 0, .slice none 0 0] 24)
  have HK := check_ok a h v cs _ (Tab.next hT kk) (hS.below kk) hok
  have HT : Hid (∀ W, Below w.heap.size w W → Txt.Tab W) := fun W k => Tab.next hT k
  clear hT hS hok
  generalize hW0 : ((((w.alloc (.cells #[.int .i64 a, .int .i64 h, v] 24)).alloc (.cells #[.int .i64 rx, .int .i64 ry, .int .i64 rw, .int .i64 rh] 26)).alloc (.cells #[.int .i32 r, .int .i64 f, .int .i64 bk, .int .i64 x] 30)).alloc (.cells #[.int .i64 0, .int .i64 0, .slice none 0 0] 24)) = W0 at x2 x3 kk hsz HK
  have HW0 : Hid (_ = W0) := hW0
  have HK' : Hid (Calls Tryd.prog 7 #[.agg #[.int .i64 a, .int .i64 h, v]] W0 fun e w' => e = .returned (.int .i64 0) ∧ Below W0.heap.size W0 w') := HK
  obtain ⟨wr, hwr⟩ : ∃ q, wd r = q := ⟨_, rfl⟩
  have HR : Hid (wd r = wr) := hwr
  rw [hwr] at hr
  have ne : (wr != 1) = true := by simpa using hr
  clear HK hW0 hwr hr
  go_enter Tryd.func8, Tryd.ntmps8
  go_wp2_with (first
    | (go_at_call 7; rw [HW0.out]; refine HK'.out.mono ?_; rintro e W1 ⟨rfl, b1⟩; have k1 := kk.trans (b1.mono kk.size); have y3 := carry x3 b1; have ⟨c0, c1, c2, c3⟩ := cells4 (carry x2 b1))
    | (go_at_call 20; refine (width_to r _ (HT.out _ k1) _ HR.out).mono ?_; rintro e W2 ⟨rfl, b2⟩; have k2 := k1.trans (b2.mono k1.size); have z3 := carry y3 b2)
    | (refine wpList_store_row rfl 24 (.tmp 6) _ rfl (w.heap.size + 3) #[.int .i64 0, .int .i64 0, .slice none 0 0] rfl rfl _ _ z3 (by kernel_rfl) rfl (one3v _ _ _ _ _) ?_))
  (try simp only [Exit.inBlock, Exit.then])
  refine bodyPost_ret (v := .tuple #[.agg #[.int .i64 0, .int .i64 0, .slice none 0 0], .int .i64 4]) ?_ rfl ⟨rfl, below_setRow k2 (by omega) _⟩
  exact results_row_tmp rfl _ _ (w.heap.size + 3) _ _ _ _ rfl (setRow_heap _ _ _ _ _ _ z3) Tryd.underlying24 rfl (by kernel_rfl) _ rfl
set_option maxHeartbeats 1000000 in
theorem fill_bad3 (a h : Int) (v : Value) (cs : List C) (rx ry rw rh r f bk x : Int) (w : World) (hT : Txt.Tab w) (hS : SliceAt w v cs) (hok : gridErr a h cs = 0) (hr : wd r = 1) (hs : isSt (f, bk, x) = false) :
    Calls Tryd.prog 8 #[.agg #[.int .i64 a, .int .i64 h, v], .agg #[.int .i64 rx, .int .i64 ry, .int .i64 rw, .int .i64 rh], .agg #[.int .i32 r, .int .i64 f, .int .i64 bk, .int .i64 x]] w fun e w' => e = .returned (.tuple #[.agg #[.int .i64 0, .int .i64 0, .slice none 0 0], .int .i64 4]) ∧ Below w.heap.size w w' := by
  obtain ⟨_, _, x2, x3, kk, hsz⟩ := alloc4 w (.cells #[.int .i64 a, .int .i64 h, v] 24) (.cells #[.int .i64 rx, .int .i64 ry, .int .i64 rw, .int .i64 rh] 26) (.cells #[.int .i32 r, .int .i64 f, .int .i64 bk, .int .i64 x] 30) (.cells #[.int .i64 0, .int .i64 0, .slice none 0 0] 24)
  have HK := check_ok a h v cs _ (Tab.next hT kk) (hS.below kk) hok
  have HT : Hid (∀ W, Below w.heap.size w W → Txt.Tab W) := fun W k => Tab.next hT k
  clear hT hS hok
  generalize hW0 : ((((w.alloc (.cells #[.int .i64 a, .int .i64 h, v] 24)).alloc (.cells #[.int .i64 rx, .int .i64 ry, .int .i64 rw, .int .i64 rh] 26)).alloc (.cells #[.int .i32 r, .int .i64 f, .int .i64 bk, .int .i64 x] 30)).alloc (.cells #[.int .i64 0, .int .i64 0, .slice none 0 0] 24)) = W0 at x2 x3 kk hsz HK
  have HW0 : Hid (_ = W0) := hW0
  have HK' : Hid (Calls Tryd.prog 7 #[.agg #[.int .i64 a, .int .i64 h, v]] W0 fun e w' => e = .returned (.int .i64 0) ∧ Below W0.heap.size W0 w') := HK
  have HR : Hid (wd r = 1) := hr
  have HS : Hid (isSt (f, bk, x) = false) := hs
  clear HK hW0 hr hs
  go_enter Tryd.func8, Tryd.ntmps8
  go_wp2_with (first
    | (go_at_call 7; rw [HW0.out]; refine HK'.out.mono ?_; rintro e W1 ⟨rfl, b1⟩; have k1 := kk.trans (b1.mono kk.size); have y3 := carry x3 b1; have y2 := carry x2 b1; have ⟨c0, c1, c2, c3⟩ := cells4 y2)
    | (go_at_call 20; refine (width_to r _ (HT.out _ k1) _ HR.out).mono ?_; rintro e W2 ⟨rfl, b2⟩; have k2 := k1.trans (b2.mono k1.size); have z3 := carry y3 b2; have ⟨d0, d1, d2, d3⟩ := cells4 (carry y2 b2))
    | (go_at_call 21; refine (check_to f bk x _ HS.out _).mono ?_; rintro e W3 ⟨rfl, b3⟩; have k3 := k2.trans (b3.mono k2.size); have u3 := carry z3 b3)
    | (refine wpList_store_row rfl 24 (.tmp 6) _ rfl (w.heap.size + 3) #[.int .i64 0, .int .i64 0, .slice none 0 0] rfl rfl _ _ u3 (by kernel_rfl) rfl (one3v _ _ _ _ _) ?_))
  (try simp only [Exit.inBlock, Exit.then])
  refine bodyPost_ret (v := .tuple #[.agg #[.int .i64 0, .int .i64 0, .slice none 0 0], .int .i64 4]) ?_ rfl ⟨rfl, below_setRow k3 (by omega) _⟩
  exact results_row_tmp rfl _ _ (w.heap.size + 3) _ _ _ _ rfl (setRow_heap _ _ _ _ _ _ u3) Tryd.underlying24 rfl (by kernel_rfl) _ rfl
end Grd
end Go.Proofs.YtinhmklpnkikgabDoor
