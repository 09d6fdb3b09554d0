/- The walk of grid.Write: what is refused. -/
import Derived.Test.YtinhmklpnkikgabDoorGridHolds
import Derived.Test.YtinhmklpnkikgabDoorTextRunes
namespace Go.Proofs.YtinhmklpnkikgabDoor
open Go.ChangeShapes Go.WideShapes Go.ChangeAt Go.RowKit
namespace Grd
open Txt (wd)
open Sty (isSt)
theorem Apart.iterNew {N : Nat} {S : List Nat} {a b : World} (h : Apart N S a b) (g : Nat) (s : ByteArray) (p : Nat) (hg : a.heap.size ≤ g) (hN : N ≤ g) : Apart N S a (b.iterAt g s p) :=
  ⟨Lib.below_iterAt h.1 hN s p, fun i hi hl => (Lib.iterAt_other _ _ _ _ _ (by omega)).trans (h.2 i hi hl)⟩
theorem holds_to (n hh : Nat) (v : Value) (x y a b : Int) (q : Bool) (hq : holdsI n hh x y a b = q) (w : World) (hn : n ≤ 120) (hh' : hh ≤ 60) (hx0 : -9223372036854775808 ≤ x) (hx1 : x ≤ 9223372036854775807) (hy0 : -9223372036854775808 ≤ y) (hy1 : y ≤ 9223372036854775807) :
    Calls Tryd.prog 26 #[.agg #[.int .i64 (n : Int), .int .i64 (hh : Int), v], .agg #[.int .i64 x, .int .i64 y, .int .i64 a, .int .i64 b]] w fun e w' => e = .returned (.bool q) ∧ Below w.heap.size w w' := by
  have := holds_any n hh v x y a b w hn hh' hx0 hx1 hy0 hy1
  rwa [hq] at this
set_option maxHeartbeats 1000000 in
theorem write_bad1 (a h : Int) (v : Value) (cs : List C) (px py f bk x : Int) (s : ByteArray) (w : World) (hT : Txt.Tab w) (hS : SliceAt w v cs) (hok : gridErr a h cs ≠ 0) :
    Calls Tryd.prog 9 #[.agg #[.int .i64 a, .int .i64 h, v], .int .i64 px, .int .i64 py, .string s, .agg #[.int .i64 f, .int .i64 bk, .int .i64 x]] w fun e w' => e = .returned (.tuple #[.agg #[.int .i64 0, .int .i64 0, .slice none 0 0], .int .i64 (gridErr a h cs)]) ∧ Below w.heap.size w w' := by
  obtain ⟨_, _, x2, kk, hsz⟩ := alloc3 w (.cells #[.int .i64 a, .int .i64 h, v] 24) (.cells #[.int .i64 f, .int .i64 bk, .int .i64 x] 28) (.cells #[.int .i64 0, .int .i64 0, .slice none 0 0] 24)
  have HK := check_any a h v cs _ (Tab.next hT kk) (hS.below kk)
  generalize hW0 : (((w.alloc (.cells #[.int .i64 a, .int .i64 h, v] 24)).alloc (.cells #[.int .i64 f, .int .i64 bk, .int .i64 x] 28)).alloc (.cells #[.int .i64 0, .int .i64 0, .slice none 0 0] 24)) = W0 at x2 kk hsz HK
  have HW0 : Hid (_ = W0) := hW0
  generalize gridErr a h cs = er at *
  have HK' : Hid (Calls Tryd.prog 7 #[.agg #[.int .i64 a, .int .i64 h, v]] W0 fun e w' => e = .returned (.int .i64 er) ∧ Below W0.heap.size W0 w') := HK
  have ne : (er != 0) = true := by simpa using hok
  clear HK hW0 hok
  go_enter Tryd.func9, Tryd.ntmps9
  go_wp2_with (first
    | (go_at_call 7; rw [HW0.out]; refine HK'.out.mono ?_; rintro e W1 ⟨rfl, b1⟩; have y2 := carry x2 b1)
    | (refine wpList_store_row rfl 24 (.tmp 10) _ rfl (w.heap.size + 2) #[.int .i64 0, .int .i64 0, .slice none 0 0] rfl rfl _ _ y2 (by kernel_rfl) rfl (one3v _ _ _ _ _) ?_))
  (try simp only [Exit.inBlock, Exit.then])
  refine bodyPost_ret (v := .tuple #[.agg #[.int .i64 0, .int .i64 0, .slice none 0 0], .int .i64 er]) ?_ rfl ⟨rfl, below_setRow (kk.trans (b1.mono kk.size)) (by omega) _⟩
  exact results_row_tmp rfl _ _ (w.heap.size + 2) _ _ _ _ rfl (setRow_heap _ _ _ _ _ _ y2) Tryd.underlying24 rfl (by kernel_rfl) _ rfl
set_option maxHeartbeats 1000000 in
theorem write_bad2 (n hh : Nat) (v : Value) (cs : List C) (px py f bk x : Int) (s : ByteArray) (w : World) (hT : Txt.Tab w) (hS : SliceAt w v cs) (hok : gridErr n hh cs = 0) (hx0 : -9223372036854775808 ≤ px) (hx1 : px ≤ 9223372036854775807) (hy0 : -9223372036854775808 ≤ py) (hy1 : py ≤ 9223372036854775807) (hold : holdsI n hh px py 1 1 = false) :
    Calls Tryd.prog 9 #[.agg #[.int .i64 (n : Int), .int .i64 (hh : Int), v], .int .i64 px, .int .i64 py, .string s, .agg #[.int .i64 f, .int .i64 bk, .int .i64 x]] w fun e w' => e = .returned (.tuple #[.agg #[.int .i64 0, .int .i64 0, .slice none 0 0], .int .i64 4]) ∧ Below w.heap.size w w' := by
  obtain ⟨x0, x1, x2, kk, hsz⟩ := alloc3 w (.cells #[.int .i64 (n : Int), .int .i64 (hh : Int), v] 24) (.cells #[.int .i64 f, .int .i64 bk, .int .i64 x] 28) (.cells #[.int .i64 0, .int .i64 0, .slice none 0 0] 24)
  have HK := check_ok n hh v cs _ (Tab.next hT kk) (hS.below kk) hok
  have ⟨_, _, _, p3, _, p5⟩ := prod_in n hh ((gridErr_zero n hh cs).1 hok).1
  clear hT hS hok
  generalize hW0 : (((w.alloc (.cells #[.int .i64 (n : Int), .int .i64 (hh : Int), v] 24)).alloc (.cells #[.int .i64 f, .int .i64 bk, .int .i64 x] 28)).alloc (.cells #[.int .i64 0, .int .i64 0, .slice none 0 0] 24)) = W0 at x0 x1 x2 kk hsz HK
  have HW0 : Hid (_ = W0) := hW0
  have HK' : Hid (Calls Tryd.prog 7 #[.agg #[.int .i64 (n : Int), .int .i64 (hh : Int), v]] W0 fun e w' => e = .returned (.int .i64 0) ∧ Below W0.heap.size W0 w') := HK
  clear HK hW0
  have HH : Hid (holdsI n hh px py 1 1 = false) := hold
  clear hold
  go_enter Tryd.func9, Tryd.ntmps9
  go_wp2_with (first
    | (go_at_call 7; rw [HW0.out]; refine HK'.out.mono ?_; rintro e W1 ⟨rfl, b1⟩; have k1 := kk.trans (b1.mono kk.size); have y2 := carry x2 b1; have y1 := carry x1 b1; have y0 := carry x0 b1; have ⟨e0, e1, e2, _⟩ := cells3 y0)
    | (go_at_call 26; refine (holds_to n hh v px py 1 1 _ HH.out _ (by omega) (by omega) hx0 hx1 hy0 hy1).mono ?_; rintro e W2 ⟨rfl, b2⟩; have k2 := k1.trans (b2.mono k1.size); have z2 := carry y2 b2; have ⟨d0, d1, d2, _⟩ := cells3 (carry y1 b2))
    | (refine wpList_store_row rfl 24 (.tmp 10) _ rfl (w.heap.size + 2) #[.int .i64 0, .int .i64 0, .slice none 0 0] rfl rfl _ _ z2 (by kernel_rfl) rfl (one3v _ _ _ _ _) ?_))
  (try simp only [Exit.inBlock, Exit.then])
  refine bodyPost_ret (v := .tuple #[.agg #[.int .i64 0, .int .i64 0, .slice none 0 0], .int .i64 4]) ?_ rfl ⟨rfl, below_setRow k2 (by omega) _⟩
  exact results_row_tmp rfl _ _ (w.heap.size + 2) _ _ _ _ rfl (setRow_heap _ _ _ _ _ _ z2) Tryd.underlying24 rfl (by kernel_rfl) _ rfl
set_option maxHeartbeats 1000000 in
theorem write_bad3 (n hh : Nat) (v : Value) (cs : List C) (px py f bk x : Int) (s : ByteArray) (w : World) (hT : Txt.Tab w) (hS : SliceAt w v cs) (hok : gridErr n hh cs = 0) (hx0 : -9223372036854775808 ≤ px) (hx1 : px ≤ 9223372036854775807) (hy0 : -9223372036854775808 ≤ py) (hy1 : py ≤ 9223372036854775807) (hold : holdsI n hh px py 1 1 = true) (hs : isSt (f, bk, x) = false) :
    Calls Tryd.prog 9 #[.agg #[.int .i64 (n : Int), .int .i64 (hh : Int), v], .int .i64 px, .int .i64 py, .string s, .agg #[.int .i64 f, .int .i64 bk, .int .i64 x]] w fun e w' => e = .returned (.tuple #[.agg #[.int .i64 0, .int .i64 0, .slice none 0 0], .int .i64 4]) ∧ Below w.heap.size w w' := by
  obtain ⟨x0, x1, x2, kk, hsz⟩ := alloc3 w (.cells #[.int .i64 (n : Int), .int .i64 (hh : Int), v] 24) (.cells #[.int .i64 f, .int .i64 bk, .int .i64 x] 28) (.cells #[.int .i64 0, .int .i64 0, .slice none 0 0] 24)
  have HK := check_ok n hh v cs _ (Tab.next hT kk) (hS.below kk) hok
  have ⟨_, _, _, p3, _, p5⟩ := prod_in n hh ((gridErr_zero n hh cs).1 hok).1
  clear hT hS hok
  generalize hW0 : (((w.alloc (.cells #[.int .i64 (n : Int), .int .i64 (hh : Int), v] 24)).alloc (.cells #[.int .i64 f, .int .i64 bk, .int .i64 x] 28)).alloc (.cells #[.int .i64 0, .int .i64 0, .slice none 0 0] 24)) = W0 at x0 x1 x2 kk hsz HK
  have HW0 : Hid (_ = W0) := hW0
  have HK' : Hid (Calls Tryd.prog 7 #[.agg #[.int .i64 (n : Int), .int .i64 (hh : Int), v]] W0 fun e w' => e = .returned (.int .i64 0) ∧ Below W0.heap.size W0 w') := HK
  clear HK hW0
  have HH : Hid (holdsI n hh px py 1 1 = true) := hold
  have HS : Hid (isSt (f, bk, x) = false) := hs
  clear hold hs
  go_enter Tryd.func9, Tryd.ntmps9
  go_wp2_with (first
    | (go_at_call 7; rw [HW0.out]; refine HK'.out.mono ?_; rintro e W1 ⟨rfl, b1⟩; have k1 := kk.trans (b1.mono kk.size); have y2 := carry x2 b1; have y1 := carry x1 b1; have y0 := carry x0 b1; have ⟨e0, e1, e2, _⟩ := cells3 y0)
    | (go_at_call 26; refine (holds_to n hh v px py 1 1 _ HH.out _ (by omega) (by omega) hx0 hx1 hy0 hy1).mono ?_; rintro e W2 ⟨rfl, b2⟩; have k2 := k1.trans (b2.mono k1.size); have z2 := carry y2 b2; have ⟨d0, d1, d2, _⟩ := cells3 (carry y1 b2))
    | (go_at_call 21; refine (check_to f bk x _ HS.out _).mono ?_; rintro e W3 ⟨rfl, b3⟩; have k3 := k2.trans (b3.mono k2.size); have u2 := carry z2 b3)
    | (refine wpList_store_row rfl 24 (.tmp 10) _ rfl (w.heap.size + 2) #[.int .i64 0, .int .i64 0, .slice none 0 0] rfl rfl _ _ u2 (by kernel_rfl) rfl (one3v _ _ _ _ _) ?_))
  (try simp only [Exit.inBlock, Exit.then])
  refine bodyPost_ret (v := .tuple #[.agg #[.int .i64 0, .int .i64 0, .slice none 0 0], .int .i64 4]) ?_ rfl ⟨rfl, below_setRow k3 (by omega) _⟩
  exact results_row_tmp rfl _ _ (w.heap.size + 2) _ _ _ _ rfl (setRow_heap _ _ _ _ _ _ u2) Tryd.underlying24 rfl (by kernel_rfl) _ rfl
end Grd
end Go.Proofs.YtinhmklpnkikgabDoor
