/- The walk of checkCell. -/
import Derived.Test.YtinhmklpnkikgabDoorGridLoose
import Derived.Lib.QuietBelow
import Derived.BigQuiet
namespace Go.Proofs.YtinhmklpnkikgabDoor
open Go.ChangeShapes Go.WideShapes Go.ChangeAt Go.RowKit
namespace Grd
open Txt (wd)
open Sty (isSt)
theorem check_to (f b x : Int) (v : Bool) (h : isSt (f, b, x) = v) (w : World) : Calls Tryd.prog 21 #[.agg #[.int .i64 f, .int .i64 b, .int .i64 x]] w fun e w' => e = .returned (.bool v) ∧ Below w.heap.size w w' := by
  have := Sty.check_any f b x w
  rwa [h] at this
theorem loose_to (b o c : Nat) (cs : List C) (x : Nat) (v : Bool) (h : loose cs x = v) (w : World) (hT : Txt.Tab w) (hC : CellsAt w b o cs) (hx : x < cs.length) (hn : cs.length ≤ 1000000) :
    Calls Tryd.prog 34 #[.slice (some ⟨b, o, none⟩) cs.length c, .int .i64 (x : Int)] w fun e w' => e = .returned (.bool v) ∧ Below w.heap.size w w' := by
  have := isLoose_any b o c cs x w hT hC hx hn
  rwa [h] at this
theorem cells4 {w : World} {g : Nat} {t : TypeId} {a b c d : Value} (h : w.heap[g]? = some (.cells #[a, b, c, d] t (0, 0))) :
    w.cell? ⟨g, 0, none⟩ = some a ∧ w.cell? ⟨g, 1, none⟩ = some b ∧ w.cell? ⟨g, 2, none⟩ = some c ∧ w.cell? ⟨g, 3, none⟩ = some d := by
  refine ⟨by simp [World.cell?, h], by simp [World.cell?, h], by simp [World.cell?, h], by simp [World.cell?, h]⟩
theorem cells4_new (w : World) (t : TypeId) (a b c d : Value) : (w.alloc (.cells #[a, b, c, d] t)).cell? ⟨w.heap.size, 0, none⟩ = some a ∧ (w.alloc (.cells #[a, b, c, d] t)).cell? ⟨w.heap.size, 1, none⟩ = some b ∧ (w.alloc (.cells #[a, b, c, d] t)).cell? ⟨w.heap.size, 2, none⟩ = some c ∧ (w.alloc (.cells #[a, b, c, d] t)).cell? ⟨w.heap.size, 3, none⟩ = some d := cells4 (heap_alloc_new _ _)
theorem Tab.next {w w' : World} (h : Txt.Tab w) (hb : Below w.heap.size w w') : Txt.Tab w' := h.below hb h.pos
set_option maxHeartbeats 1000000 in
theorem cell_range1 (b o c : Nat) (cs : List C) (x : Nat) (r f bk xx : Int) (w : World) (hT : Txt.Tab w) (hC : CellsAt w b o cs) (hx : x < cs.length) (hn : cs.length ≤ 1000000)
    (h0 : w.cell? ⟨b, o + x * 4, none⟩ = some (.int .i32 r)) (h1 : w.cell? ⟨b, o + x * 4 + 1, none⟩ = some (.int .i64 f)) (h2 : w.cell? ⟨b, o + x * 4 + 2, none⟩ = some (.int .i64 bk)) (h3 : w.cell? ⟨b, o + x * 4 + 3, none⟩ = some (.int .i64 xx)) (hr : r ≠ 0) (hw : wd r = 0) :
    Calls Tryd.prog 19 #[.slice (some ⟨b, o, none⟩) cs.length c, .int .i64 (x : Int)] w fun e w' => e = .returned (.int .i64 4) ∧ Below w.heap.size w w' := by
  have HT : Hid (Txt.Tab w) := hT
  have HC : Hid (CellsAt w b o cs) := hC
  have HX : Hid (x < cs.length) := hx
  have HN : Hid (cs.length ≤ 1000000) := hn
  clear hT hC
  have ⟨c0, c1, c2, c3⟩ := cells4_new w 30 (.int .i32 r) (.int .i64 f) (.int .i64 bk) (.int .i64 xx)
  have k0 : Below w.heap.size w (w.alloc (.cells #[.int .i32 r, .int .i64 f, .int .i64 bk, .int .i64 xx] 30)) := (Below.refl _ _).alloc (Nat.le_refl _) _
  have nr : (r != 0) = true := by simpa using hr
  have nr' : (r == 0) = false := by simpa using hr
  have HW : Hid (wd r = 0) := hw
  clear hw
  go_enter Tryd.func19, Tryd.ntmps19
  go_wp2_with (go_at_call 20; refine (width_to r _ (Tab.next HT.out k0) 0 HW.out).mono ?_; rintro e W1 ⟨rfl, b1⟩; have k1 := k0.trans (b1.mono k0.size); have d1 := cell_keep b1 c1; have d2 := cell_keep b1 c2; have d3 := cell_keep b1 c3; have d0 := cell_keep b1 c0)
  go_ret
  exact ⟨rfl, k1⟩
set_option maxHeartbeats 1000000 in
theorem cell_range2 (b o c : Nat) (cs : List C) (x : Nat) (r f bk xx : Int) (w : World) (hT : Txt.Tab w) (hC : CellsAt w b o cs) (hx : x < cs.length) (hn : cs.length ≤ 1000000)
    (h0 : w.cell? ⟨b, o + x * 4, none⟩ = some (.int .i32 r)) (h1 : w.cell? ⟨b, o + x * 4 + 1, none⟩ = some (.int .i64 f)) (h2 : w.cell? ⟨b, o + x * 4 + 2, none⟩ = some (.int .i64 bk)) (h3 : w.cell? ⟨b, o + x * 4 + 3, none⟩ = some (.int .i64 xx)) (hr : r ≠ 0) (hw : wd r ≠ 0) (hs : isSt (f, bk, xx) = false) :
    Calls Tryd.prog 19 #[.slice (some ⟨b, o, none⟩) cs.length c, .int .i64 (x : Int)] w fun e w' => e = .returned (.int .i64 4) ∧ Below w.heap.size w w' := by
  have HT : Hid (Txt.Tab w) := hT
  have HC : Hid (CellsAt w b o cs) := hC
  have HX : Hid (x < cs.length) := hx
  have HN : Hid (cs.length ≤ 1000000) := hn
  clear hT hC
  have ⟨c0, c1, c2, c3⟩ := cells4_new w 30 (.int .i32 r) (.int .i64 f) (.int .i64 bk) (.int .i64 xx)
  have k0 : Below w.heap.size w (w.alloc (.cells #[.int .i32 r, .int .i64 f, .int .i64 bk, .int .i64 xx] 30)) := (Below.refl _ _).alloc (Nat.le_refl _) _
  have nr : (r != 0) = true := by simpa using hr
  have nr' : (r == 0) = false := by simpa using hr
  have HW : Hid (wd r = wd r) := rfl
  have nw : (wd r == 0) = false := by simpa using hw
  have HS : Hid (isSt (f, bk, xx) = false) := hs
  clear hs
  go_enter Tryd.func19, Tryd.ntmps19
  go_wp2_with (first | (go_at_call 20; refine (width_to r _ (Tab.next HT.out k0) _ HW.out).mono ?_; rintro e W1 ⟨rfl, b1⟩; have k1 := k0.trans (b1.mono k0.size); have d1 := cell_keep b1 c1; have d2 := cell_keep b1 c2; have d3 := cell_keep b1 c3; have d0 := cell_keep b1 c0) | (go_at_call 21; refine (check_to f bk xx _ HS.out _).mono ?_; rintro e W2 ⟨rfl, b2⟩; have k2 := k1.trans (b2.mono k1.size); have e0 := cell_keep b2 d0; have e1 := cell_keep b2 d1; have e2 := cell_keep b2 d2; have e3 := cell_keep b2 d3))
  go_ret
  exact ⟨rfl, k2⟩
set_option maxHeartbeats 1000000 in
theorem cell_range3 (b o c : Nat) (cs : List C) (x : Nat) (r f bk xx : Int) (w : World) (hT : Txt.Tab w) (hC : CellsAt w b o cs) (hx : x < cs.length) (hn : cs.length ≤ 1000000)
    (h0 : w.cell? ⟨b, o + x * 4, none⟩ = some (.int .i32 r)) (h1 : w.cell? ⟨b, o + x * 4 + 1, none⟩ = some (.int .i64 f)) (h2 : w.cell? ⟨b, o + x * 4 + 2, none⟩ = some (.int .i64 bk)) (h3 : w.cell? ⟨b, o + x * 4 + 3, none⟩ = some (.int .i64 xx)) (hr : r = 0) (hs : isSt (f, bk, xx) = false) :
    Calls Tryd.prog 19 #[.slice (some ⟨b, o, none⟩) cs.length c, .int .i64 (x : Int)] w fun e w' => e = .returned (.int .i64 4) ∧ Below w.heap.size w w' := by
  have HT : Hid (Txt.Tab w) := hT
  have HC : Hid (CellsAt w b o cs) := hC
  have HX : Hid (x < cs.length) := hx
  have HN : Hid (cs.length ≤ 1000000) := hn
  clear hT hC
  have ⟨c0, c1, c2, c3⟩ := cells4_new w 30 (.int .i32 r) (.int .i64 f) (.int .i64 bk) (.int .i64 xx)
  have k0 : Below w.heap.size w (w.alloc (.cells #[.int .i32 r, .int .i64 f, .int .i64 bk, .int .i64 xx] 30)) := (Below.refl _ _).alloc (Nat.le_refl _) _
  subst hr
  have HS : Hid (isSt (f, bk, xx) = false) := hs
  clear hs
  go_enter Tryd.func19, Tryd.ntmps19
  go_wp2_with (go_at_call 21; refine (check_to f bk xx _ HS.out _).mono ?_; rintro e W2 ⟨rfl, b2⟩; have k2 := k0.trans (b2.mono k0.size); have e0 := cell_keep b2 c0; have e1 := cell_keep b2 c1; have e2 := cell_keep b2 c2; have e3 := cell_keep b2 c3)
  go_ret
  exact ⟨rfl, k2⟩
set_option maxHeartbeats 1000000 in
theorem cell_loose1 (b o c : Nat) (cs : List C) (x : Nat) (r f bk xx : Int) (w : World) (hT : Txt.Tab w) (hC : CellsAt w b o cs) (hx : x < cs.length) (hn : cs.length ≤ 1000000)
    (h0 : w.cell? ⟨b, o + x * 4, none⟩ = some (.int .i32 r)) (h1 : w.cell? ⟨b, o + x * 4 + 1, none⟩ = some (.int .i64 f)) (h2 : w.cell? ⟨b, o + x * 4 + 2, none⟩ = some (.int .i64 bk)) (h3 : w.cell? ⟨b, o + x * 4 + 3, none⟩ = some (.int .i64 xx)) (hr : r ≠ 0) (hw : wd r ≠ 0) (hs : isSt (f, bk, xx) = true) (hl : loose cs x = true) :
    Calls Tryd.prog 19 #[.slice (some ⟨b, o, none⟩) cs.length c, .int .i64 (x : Int)] w fun e w' => e = .returned (.int .i64 5) ∧ Below w.heap.size w w' := by
  have HT : Hid (Txt.Tab w) := hT
  have HC : Hid (CellsAt w b o cs) := hC
  have HX : Hid (x < cs.length) := hx
  have HN : Hid (cs.length ≤ 1000000) := hn
  clear hT hC
  have ⟨c0, c1, c2, c3⟩ := cells4_new w 30 (.int .i32 r) (.int .i64 f) (.int .i64 bk) (.int .i64 xx)
  have k0 : Below w.heap.size w (w.alloc (.cells #[.int .i32 r, .int .i64 f, .int .i64 bk, .int .i64 xx] 30)) := (Below.refl _ _).alloc (Nat.le_refl _) _
  have nr : (r != 0) = true := by simpa using hr
  have nr' : (r == 0) = false := by simpa using hr
  have HW : Hid (wd r = wd r) := rfl
  have nw : (wd r == 0) = false := by simpa using hw
  have HS : Hid (isSt (f, bk, xx) = true) := hs
  have HL : Hid (loose cs x = true) := hl
  clear hs hl
  go_enter Tryd.func19, Tryd.ntmps19
  go_wp2_with (first | (go_at_call 20; refine (width_to r _ (Tab.next HT.out k0) _ HW.out).mono ?_; rintro e W1 ⟨rfl, b1⟩; have k1 := k0.trans (b1.mono k0.size); have d1 := cell_keep b1 c1; have d2 := cell_keep b1 c2; have d3 := cell_keep b1 c3; have d0 := cell_keep b1 c0) | (go_at_call 21; refine (check_to f bk xx _ HS.out _).mono ?_; rintro e W2 ⟨rfl, b2⟩; have k2 := k1.trans (b2.mono k1.size); have e0 := cell_keep b2 d0; have e1 := cell_keep b2 d1; have e2 := cell_keep b2 d2; have e3 := cell_keep b2 d3))
  have y0 : ∀ d os, (Sort.grow (redrawn W2 d) os).cell? ⟨w.heap.size, 0, none⟩ = some (.int .i32 r) := fun d os => cell_regrown e0 d os
  have y1 : ∀ d os, (Sort.grow (redrawn W2 d) os).cell? ⟨w.heap.size, 1, none⟩ = some (.int .i64 f) := fun d os => cell_regrown e1 d os
  have y2 : ∀ d os, (Sort.grow (redrawn W2 d) os).cell? ⟨w.heap.size, 2, none⟩ = some (.int .i64 bk) := fun d os => cell_regrown e2 d os
  have y3 : ∀ d os, (Sort.grow (redrawn W2 d) os).cell? ⟨w.heap.size, 3, none⟩ = some (.int .i64 xx) := fun d os => cell_regrown e3 d os
  have K4 : Hid (∀ d os, Calls Tryd.prog 34 #[.slice (some ⟨b, o, none⟩) cs.length c, .int .i64 (x : Int)] (Sort.grow (redrawn W2 d) os) fun e w'' => e = .returned (.bool true) ∧ ∃ p : Regrown, w'' = Sort.grow (redrawn W2 p.d) p.os) := fun d os => Calls.regrown_of (loose_to b o c cs x true HL.out _ (Tab.next HT.out (k2.trans ((below_regrown W2 d os).mono k2.size))) (HC.out.below (k2.trans ((below_regrown W2 d os).mono k2.size))) HX.out HN.out)
  refine wp_region_quiet_below (by kernel_rfl) (by kernel_rfl) ?_
  repeat (first | go_big_quiet_skip | quiet_step (first | (go_at_call 34; exact K4.out _ _)))
  refine wpQuiet_nil ?_
  intro _ hw'
  obtain ⟨⟨dq, os⟩, hw''⟩ := hw'
  subst hw''
  have k3 : Below w.heap.size w (Sort.grow (redrawn W2 dq) os) := k2.trans ((below_regrown W2 dq os).mono k2.size)
  generalize Sort.grow (redrawn W2 dq) os = W3 at *
  go_wp2_with fail
  go_ret
  exact ⟨rfl, k3⟩
set_option maxHeartbeats 1000000 in
theorem cell_loose2 (b o c : Nat) (cs : List C) (x : Nat) (r f bk xx : Int) (w : World) (hT : Txt.Tab w) (hC : CellsAt w b o cs) (hx : x < cs.length) (hn : cs.length ≤ 1000000)
    (h0 : w.cell? ⟨b, o + x * 4, none⟩ = some (.int .i32 r)) (h1 : w.cell? ⟨b, o + x * 4 + 1, none⟩ = some (.int .i64 f)) (h2 : w.cell? ⟨b, o + x * 4 + 2, none⟩ = some (.int .i64 bk)) (h3 : w.cell? ⟨b, o + x * 4 + 3, none⟩ = some (.int .i64 xx)) (hr : r = 0) (hs : isSt (f, bk, xx) = true) (hl : loose cs x = true) :
    Calls Tryd.prog 19 #[.slice (some ⟨b, o, none⟩) cs.length c, .int .i64 (x : Int)] w fun e w' => e = .returned (.int .i64 5) ∧ Below w.heap.size w w' := by
  have HT : Hid (Txt.Tab w) := hT
  have HC : Hid (CellsAt w b o cs) := hC
  have HX : Hid (x < cs.length) := hx
  have HN : Hid (cs.length ≤ 1000000) := hn
  clear hT hC
  have ⟨c0, c1, c2, c3⟩ := cells4_new w 30 (.int .i32 r) (.int .i64 f) (.int .i64 bk) (.int .i64 xx)
  have k0 : Below w.heap.size w (w.alloc (.cells #[.int .i32 r, .int .i64 f, .int .i64 bk, .int .i64 xx] 30)) := (Below.refl _ _).alloc (Nat.le_refl _) _
  subst hr
  have HS : Hid (isSt (f, bk, xx) = true) := hs
  have HL : Hid (loose cs x = true) := hl
  clear hs hl
  go_enter Tryd.func19, Tryd.ntmps19
  go_wp2_with (go_at_call 21; refine (check_to f bk xx _ HS.out _).mono ?_; rintro e W2 ⟨rfl, b2⟩; have k2 := k0.trans (b2.mono k0.size); have e0 := cell_keep b2 c0; have e1 := cell_keep b2 c1; have e2 := cell_keep b2 c2; have e3 := cell_keep b2 c3)
  have y0 : ∀ d os, (Sort.grow (redrawn W2 d) os).cell? ⟨w.heap.size, 0, none⟩ = some (.int .i32 0) := fun d os => cell_regrown e0 d os
  have y1 : ∀ d os, (Sort.grow (redrawn W2 d) os).cell? ⟨w.heap.size, 1, none⟩ = some (.int .i64 f) := fun d os => cell_regrown e1 d os
  have y2 : ∀ d os, (Sort.grow (redrawn W2 d) os).cell? ⟨w.heap.size, 2, none⟩ = some (.int .i64 bk) := fun d os => cell_regrown e2 d os
  have y3 : ∀ d os, (Sort.grow (redrawn W2 d) os).cell? ⟨w.heap.size, 3, none⟩ = some (.int .i64 xx) := fun d os => cell_regrown e3 d os
  have K4 : Hid (∀ d os, Calls Tryd.prog 34 #[.slice (some ⟨b, o, none⟩) cs.length c, .int .i64 (x : Int)] (Sort.grow (redrawn W2 d) os) fun e w'' => e = .returned (.bool true) ∧ ∃ p : Regrown, w'' = Sort.grow (redrawn W2 p.d) p.os) := fun d os => Calls.regrown_of (loose_to b o c cs x true HL.out _ (Tab.next HT.out (k2.trans ((below_regrown W2 d os).mono k2.size))) (HC.out.below (k2.trans ((below_regrown W2 d os).mono k2.size))) HX.out HN.out)
  refine wp_region_quiet_below (by kernel_rfl) (by kernel_rfl) ?_
  repeat (first | go_big_quiet_skip | quiet_step (first | (go_at_call 34; exact K4.out _ _)))
  refine wpQuiet_nil ?_
  intro _ hw'
  obtain ⟨⟨dq, os⟩, hw''⟩ := hw'
  subst hw''
  have k3 : Below w.heap.size w (Sort.grow (redrawn W2 dq) os) := k2.trans ((below_regrown W2 dq os).mono k2.size)
  generalize Sort.grow (redrawn W2 dq) os = W3 at *
  go_wp2_with fail
  go_ret
  exact ⟨rfl, k3⟩
set_option maxHeartbeats 1000000 in
theorem cell_ok1 (b o c : Nat) (cs : List C) (x : Nat) (r f bk xx : Int) (w : World) (hT : Txt.Tab w) (hC : CellsAt w b o cs) (hx : x < cs.length) (hn : cs.length ≤ 1000000)
    (h0 : w.cell? ⟨b, o + x * 4, none⟩ = some (.int .i32 r)) (h1 : w.cell? ⟨b, o + x * 4 + 1, none⟩ = some (.int .i64 f)) (h2 : w.cell? ⟨b, o + x * 4 + 2, none⟩ = some (.int .i64 bk)) (h3 : w.cell? ⟨b, o + x * 4 + 3, none⟩ = some (.int .i64 xx)) (hr : r ≠ 0) (hw : wd r ≠ 0) (hs : isSt (f, bk, xx) = true) (hl : loose cs x = false) :
    Calls Tryd.prog 19 #[.slice (some ⟨b, o, none⟩) cs.length c, .int .i64 (x : Int)] w fun e w' => e = .returned (.int .i64 0) ∧ Below w.heap.size w w' := by
  have HT : Hid (Txt.Tab w) := hT
  have HC : Hid (CellsAt w b o cs) := hC
  have HX : Hid (x < cs.length) := hx
  have HN : Hid (cs.length ≤ 1000000) := hn
  clear hT hC
  have ⟨c0, c1, c2, c3⟩ := cells4_new w 30 (.int .i32 r) (.int .i64 f) (.int .i64 bk) (.int .i64 xx)
  have k0 : Below w.heap.size w (w.alloc (.cells #[.int .i32 r, .int .i64 f, .int .i64 bk, .int .i64 xx] 30)) := (Below.refl _ _).alloc (Nat.le_refl _) _
  have nr : (r != 0) = true := by simpa using hr
  have nr' : (r == 0) = false := by simpa using hr
  have HW : Hid (wd r = wd r) := rfl
  have nw : (wd r == 0) = false := by simpa using hw
  have HS : Hid (isSt (f, bk, xx) = true) := hs
  have HL : Hid (loose cs x = false) := hl
  clear hs hl
  go_enter Tryd.func19, Tryd.ntmps19
  go_wp2_with (first | (go_at_call 20; refine (width_to r _ (Tab.next HT.out k0) _ HW.out).mono ?_; rintro e W1 ⟨rfl, b1⟩; have k1 := k0.trans (b1.mono k0.size); have d1 := cell_keep b1 c1; have d2 := cell_keep b1 c2; have d3 := cell_keep b1 c3; have d0 := cell_keep b1 c0) | (go_at_call 21; refine (check_to f bk xx _ HS.out _).mono ?_; rintro e W2 ⟨rfl, b2⟩; have k2 := k1.trans (b2.mono k1.size); have e0 := cell_keep b2 d0; have e1 := cell_keep b2 d1; have e2 := cell_keep b2 d2; have e3 := cell_keep b2 d3))
  have y0 : ∀ d os, (Sort.grow (redrawn W2 d) os).cell? ⟨w.heap.size, 0, none⟩ = some (.int .i32 r) := fun d os => cell_regrown e0 d os
  have y1 : ∀ d os, (Sort.grow (redrawn W2 d) os).cell? ⟨w.heap.size, 1, none⟩ = some (.int .i64 f) := fun d os => cell_regrown e1 d os
  have y2 : ∀ d os, (Sort.grow (redrawn W2 d) os).cell? ⟨w.heap.size, 2, none⟩ = some (.int .i64 bk) := fun d os => cell_regrown e2 d os
  have y3 : ∀ d os, (Sort.grow (redrawn W2 d) os).cell? ⟨w.heap.size, 3, none⟩ = some (.int .i64 xx) := fun d os => cell_regrown e3 d os
  have K4 : Hid (∀ d os, Calls Tryd.prog 34 #[.slice (some ⟨b, o, none⟩) cs.length c, .int .i64 (x : Int)] (Sort.grow (redrawn W2 d) os) fun e w'' => e = .returned (.bool false) ∧ ∃ p : Regrown, w'' = Sort.grow (redrawn W2 p.d) p.os) := fun d os => Calls.regrown_of (loose_to b o c cs x false HL.out _ (Tab.next HT.out (k2.trans ((below_regrown W2 d os).mono k2.size))) (HC.out.below (k2.trans ((below_regrown W2 d os).mono k2.size))) HX.out HN.out)
  refine wp_region_quiet_below (by kernel_rfl) (by kernel_rfl) ?_
  repeat (first | go_big_quiet_skip | quiet_step (first | (go_at_call 34; exact K4.out _ _)))
  refine wpQuiet_nil ?_
  intro _ hw'
  obtain ⟨⟨dq, os⟩, hw''⟩ := hw'
  subst hw''
  have k3 : Below w.heap.size w (Sort.grow (redrawn W2 dq) os) := k2.trans ((below_regrown W2 dq os).mono k2.size)
  generalize Sort.grow (redrawn W2 dq) os = W3 at *
  go_wp2_with fail
  go_ret
  exact ⟨rfl, k3⟩
set_option maxHeartbeats 1000000 in
theorem cell_style (b o c : Nat) (cs : List C) (x : Nat) (r f bk xx : Int) (w : World) (hT : Txt.Tab w) (hC : CellsAt w b o cs) (hx : x < cs.length) (hn : cs.length ≤ 1000000)
    (h0 : w.cell? ⟨b, o + x * 4, none⟩ = some (.int .i32 r)) (h1 : w.cell? ⟨b, o + x * 4 + 1, none⟩ = some (.int .i64 f)) (h2 : w.cell? ⟨b, o + x * 4 + 2, none⟩ = some (.int .i64 bk)) (h3 : w.cell? ⟨b, o + x * 4 + 3, none⟩ = some (.int .i64 xx)) (hr : r = 0) (hs : isSt (f, bk, xx) = true) (hl : loose cs x = false) (fp bp xp : Int) (hx0 : 0 < x) (p1 : w.cell? ⟨b, o + (x - 1) * 4 + 1, none⟩ = some (.int .i64 fp)) (p2 : w.cell? ⟨b, o + (x - 1) * 4 + 2, none⟩ = some (.int .i64 bp)) (p3 : w.cell? ⟨b, o + (x - 1) * 4 + 3, none⟩ = some (.int .i64 xp)) (hq : (f, bk, xx) ≠ (fp, bp, xp)) :
    Calls Tryd.prog 19 #[.slice (some ⟨b, o, none⟩) cs.length c, .int .i64 (x : Int)] w fun e w' => e = .returned (.int .i64 5) ∧ Below w.heap.size w w' := by
  have HT : Hid (Txt.Tab w) := hT
  have HC : Hid (CellsAt w b o cs) := hC
  have HX : Hid (x < cs.length) := hx
  have HN : Hid (cs.length ≤ 1000000) := hn
  clear hT hC
  have ⟨c0, c1, c2, c3⟩ := cells4_new w 30 (.int .i32 r) (.int .i64 f) (.int .i64 bk) (.int .i64 xx)
  have k0 : Below w.heap.size w (w.alloc (.cells #[.int .i32 r, .int .i64 f, .int .i64 bk, .int .i64 xx] 30)) := (Below.refl _ _).alloc (Nat.le_refl _) _
  subst hr
  have nq : ∀ w, (binOp .neq 28 (.agg #[.int .i64 f, .int .i64 bk, .int .i64 xx]) (.agg #[.int .i64 fp, .int .i64 bp, .int .i64 xp])).run Tryd.prog w = .ok (.bool true) w := fun w => by rw [Sty.neq_agg]; simp [hq]
  clear hq
  have HS : Hid (isSt (f, bk, xx) = true) := hs
  have HL : Hid (loose cs x = false) := hl
  clear hs hl
  go_enter Tryd.func19, Tryd.ntmps19
  go_wp2_with (go_at_call 21; refine (check_to f bk xx _ HS.out _).mono ?_; rintro e W2 ⟨rfl, b2⟩; have k2 := k0.trans (b2.mono k0.size); have e0 := cell_keep b2 c0; have e1 := cell_keep b2 c1; have e2 := cell_keep b2 c2; have e3 := cell_keep b2 c3)
  have hwr : IntKind.i64.wrap ((x : Int) - 1) = ((x - 1 : Nat) : Int) := by unfold IntKind.wrap; simp [IntKind.bits, IntKind.signed]; omega
  have hxp : x - 1 < cs.length := by omega
  have y0 : ∀ d os, (Sort.grow (redrawn W2 d) os).cell? ⟨w.heap.size, 0, none⟩ = some (.int .i32 0) := fun d os => cell_regrown e0 d os
  have y1 : ∀ d os, (Sort.grow (redrawn W2 d) os).cell? ⟨w.heap.size, 1, none⟩ = some (.int .i64 f) := fun d os => cell_regrown e1 d os
  have y2 : ∀ d os, (Sort.grow (redrawn W2 d) os).cell? ⟨w.heap.size, 2, none⟩ = some (.int .i64 bk) := fun d os => cell_regrown e2 d os
  have y3 : ∀ d os, (Sort.grow (redrawn W2 d) os).cell? ⟨w.heap.size, 3, none⟩ = some (.int .i64 xx) := fun d os => cell_regrown e3 d os
  have u1 : ∀ d os, (Sort.grow (redrawn W2 d) os).cell? ⟨b, o + (x - 1) * 4 + 1, none⟩ = some (.int .i64 fp) := fun d os => cell_regrown (cell_keep k2 p1) d os
  have u2 : ∀ d os, (Sort.grow (redrawn W2 d) os).cell? ⟨b, o + (x - 1) * 4 + 2, none⟩ = some (.int .i64 bp) := fun d os => cell_regrown (cell_keep k2 p2) d os
  have u3 : ∀ d os, (Sort.grow (redrawn W2 d) os).cell? ⟨b, o + (x - 1) * 4 + 3, none⟩ = some (.int .i64 xp) := fun d os => cell_regrown (cell_keep k2 p3) d os
  have K4 : Hid (∀ d os, Calls Tryd.prog 34 #[.slice (some ⟨b, o, none⟩) cs.length c, .int .i64 (x : Int)] (Sort.grow (redrawn W2 d) os) fun e w'' => e = .returned (.bool false) ∧ ∃ p : Regrown, w'' = Sort.grow (redrawn W2 p.d) p.os) := fun d os => Calls.regrown_of (loose_to b o c cs x false HL.out _ (Tab.next HT.out (k2.trans ((below_regrown W2 d os).mono k2.size))) (HC.out.below (k2.trans ((below_regrown W2 d os).mono k2.size))) HX.out HN.out)
  refine wp_region_quiet_below (by kernel_rfl) (by kernel_rfl) ?_
  repeat (first | go_big_quiet_skip | quiet_step (first | (go_at_call 34; exact K4.out _ _)))
  refine wpQuiet_nil ?_
  intro _ hw'
  obtain ⟨⟨dq, os⟩, hw''⟩ := hw'
  subst hw''
  have k3 : Below w.heap.size w (Sort.grow (redrawn W2 dq) os) := k2.trans ((below_regrown W2 dq os).mono k2.size)
  generalize Sort.grow (redrawn W2 dq) os = W3 at *
  go_wp2_with fail
  go_ret
  exact ⟨rfl, k3⟩
set_option maxHeartbeats 1000000 in
theorem cell_ok0 (b o c : Nat) (cs : List C) (x : Nat) (r f bk xx : Int) (w : World) (hT : Txt.Tab w) (hC : CellsAt w b o cs) (hx : x < cs.length) (hn : cs.length ≤ 1000000)
    (h0 : w.cell? ⟨b, o + x * 4, none⟩ = some (.int .i32 r)) (h1 : w.cell? ⟨b, o + x * 4 + 1, none⟩ = some (.int .i64 f)) (h2 : w.cell? ⟨b, o + x * 4 + 2, none⟩ = some (.int .i64 bk)) (h3 : w.cell? ⟨b, o + x * 4 + 3, none⟩ = some (.int .i64 xx)) (hr : r = 0) (hs : isSt (f, bk, xx) = true) (hl : loose cs x = false) (fp bp xp : Int) (hx0 : 0 < x) (p1 : w.cell? ⟨b, o + (x - 1) * 4 + 1, none⟩ = some (.int .i64 fp)) (p2 : w.cell? ⟨b, o + (x - 1) * 4 + 2, none⟩ = some (.int .i64 bp)) (p3 : w.cell? ⟨b, o + (x - 1) * 4 + 3, none⟩ = some (.int .i64 xp)) (hq : (f, bk, xx) = (fp, bp, xp)) :
    Calls Tryd.prog 19 #[.slice (some ⟨b, o, none⟩) cs.length c, .int .i64 (x : Int)] w fun e w' => e = .returned (.int .i64 0) ∧ Below w.heap.size w w' := by
  have HT : Hid (Txt.Tab w) := hT
  have HC : Hid (CellsAt w b o cs) := hC
  have HX : Hid (x < cs.length) := hx
  have HN : Hid (cs.length ≤ 1000000) := hn
  clear hT hC
  have ⟨c0, c1, c2, c3⟩ := cells4_new w 30 (.int .i32 r) (.int .i64 f) (.int .i64 bk) (.int .i64 xx)
  have k0 : Below w.heap.size w (w.alloc (.cells #[.int .i32 r, .int .i64 f, .int .i64 bk, .int .i64 xx] 30)) := (Below.refl _ _).alloc (Nat.le_refl _) _
  subst hr
  have nq : ∀ w, (binOp .neq 28 (.agg #[.int .i64 f, .int .i64 bk, .int .i64 xx]) (.agg #[.int .i64 fp, .int .i64 bp, .int .i64 xp])).run Tryd.prog w = .ok (.bool false) w := fun w => by rw [Sty.neq_agg]; simp [hq]
  clear hq
  have HS : Hid (isSt (f, bk, xx) = true) := hs
  have HL : Hid (loose cs x = false) := hl
  clear hs hl
  go_enter Tryd.func19, Tryd.ntmps19
  go_wp2_with (go_at_call 21; refine (check_to f bk xx _ HS.out _).mono ?_; rintro e W2 ⟨rfl, b2⟩; have k2 := k0.trans (b2.mono k0.size); have e0 := cell_keep b2 c0; have e1 := cell_keep b2 c1; have e2 := cell_keep b2 c2; have e3 := cell_keep b2 c3)
  have hwr : IntKind.i64.wrap ((x : Int) - 1) = ((x - 1 : Nat) : Int) := by unfold IntKind.wrap; simp [IntKind.bits, IntKind.signed]; omega
  have hxp : x - 1 < cs.length := by omega
  have y0 : ∀ d os, (Sort.grow (redrawn W2 d) os).cell? ⟨w.heap.size, 0, none⟩ = some (.int .i32 0) := fun d os => cell_regrown e0 d os
  have y1 : ∀ d os, (Sort.grow (redrawn W2 d) os).cell? ⟨w.heap.size, 1, none⟩ = some (.int .i64 f) := fun d os => cell_regrown e1 d os
  have y2 : ∀ d os, (Sort.grow (redrawn W2 d) os).cell? ⟨w.heap.size, 2, none⟩ = some (.int .i64 bk) := fun d os => cell_regrown e2 d os
  have y3 : ∀ d os, (Sort.grow (redrawn W2 d) os).cell? ⟨w.heap.size, 3, none⟩ = some (.int .i64 xx) := fun d os => cell_regrown e3 d os
  have u1 : ∀ d os, (Sort.grow (redrawn W2 d) os).cell? ⟨b, o + (x - 1) * 4 + 1, none⟩ = some (.int .i64 fp) := fun d os => cell_regrown (cell_keep k2 p1) d os
  have u2 : ∀ d os, (Sort.grow (redrawn W2 d) os).cell? ⟨b, o + (x - 1) * 4 + 2, none⟩ = some (.int .i64 bp) := fun d os => cell_regrown (cell_keep k2 p2) d os
  have u3 : ∀ d os, (Sort.grow (redrawn W2 d) os).cell? ⟨b, o + (x - 1) * 4 + 3, none⟩ = some (.int .i64 xp) := fun d os => cell_regrown (cell_keep k2 p3) d os
  have K4 : Hid (∀ d os, Calls Tryd.prog 34 #[.slice (some ⟨b, o, none⟩) cs.length c, .int .i64 (x : Int)] (Sort.grow (redrawn W2 d) os) fun e w'' => e = .returned (.bool false) ∧ ∃ p : Regrown, w'' = Sort.grow (redrawn W2 p.d) p.os) := fun d os => Calls.regrown_of (loose_to b o c cs x false HL.out _ (Tab.next HT.out (k2.trans ((below_regrown W2 d os).mono k2.size))) (HC.out.below (k2.trans ((below_regrown W2 d os).mono k2.size))) HX.out HN.out)
  refine wp_region_quiet_below (by kernel_rfl) (by kernel_rfl) ?_
  repeat (first | go_big_quiet_skip | quiet_step (first | (go_at_call 34; exact K4.out _ _)))
  refine wpQuiet_nil ?_
  intro _ hw'
  obtain ⟨⟨dq, os⟩, hw''⟩ := hw'
  subst hw''
  have k3 : Below w.heap.size w (Sort.grow (redrawn W2 dq) os) := k2.trans ((below_regrown W2 dq os).mono k2.size)
  generalize Sort.grow (redrawn W2 dq) os = W3 at *
  go_wp2_with fail
  go_ret
  exact ⟨rfl, k3⟩
theorem checkCell_any (b o c : Nat) (cs : List C) (x : Nat) (w : World) (hT : Txt.Tab w) (hC : CellsAt w b o cs) (hx : x < cs.length) (hn : cs.length ≤ 1000000) :
    Calls Tryd.prog 19 #[.slice (some ⟨b, o, none⟩) cs.length c, .int .i64 (x : Int)] w fun e w' => e = .returned (.int .i64 (cellErr cs x)) ∧ Below w.heap.size w w' := by
  obtain ⟨h0, h1, h2, h3⟩ := hC x hx
  have hp : 0 < x → _ := fun h => (hC (x - 1) (by omega)).2
  have hlo : (cs.getD x z0).1 = 0 → loose cs x = false → 0 < x := fun h0 hl => by
    unfold loose at hl
    rw [if_pos h0] at hl
    simp at hl
    omega
  unfold cellErr
  rcases hc : cs.getD x z0 with ⟨r, f, bk, xx⟩
  rcases hcp : cs.getD (x - 1) z0 with ⟨rp, fp, bp, xp⟩
  rw [hc] at h0 h1 h2 h3 hlo
  rw [hcp] at hp
  dsimp only at h0 h1 h2 h3 hp hlo ⊢
  by_cases hr : r = 0
  · cases hs : isSt (f, bk, xx) with
    | false => rw [if_pos (Or.inr rfl)]; exact cell_range3 b o c cs x r f bk xx w hT hC hx hn h0 h1 h2 h3 hr hs
    | true =>
      rw [if_neg (by simp [hr])]
      cases hl : loose cs x with
      | true => rw [if_pos (Or.inl rfl)]; exact cell_loose2 b o c cs x r f bk xx w hT hC hx hn h0 h1 h2 h3 hr hs hl
      | false =>
        have hx0 := hlo hr hl
        obtain ⟨p1, p2, p3⟩ := hp hx0
        by_cases hq : (f, bk, xx) = (fp, bp, xp)
        · rw [if_neg (by simp [hq])]
          exact cell_ok0 b o c cs x r f bk xx w hT hC hx hn h0 h1 h2 h3 hr hs hl fp bp xp hx0 p1 p2 p3 hq
        · rw [if_pos (Or.inr ⟨hr, hq⟩)]
          exact cell_style b o c cs x r f bk xx w hT hC hx hn h0 h1 h2 h3 hr hs hl fp bp xp hx0 p1 p2 p3 hq
  · by_cases hw : wd r = 0
    · rw [if_pos (Or.inl ⟨hr, hw⟩)]
      exact cell_range1 b o c cs x r f bk xx w hT hC hx hn h0 h1 h2 h3 hr hw
    · cases hs : isSt (f, bk, xx) with
      | false => rw [if_pos (Or.inr rfl)]; exact cell_range2 b o c cs x r f bk xx w hT hC hx hn h0 h1 h2 h3 hr hw hs
      | true =>
        rw [if_neg (by simp [hw])]
        cases hl : loose cs x with
        | true => rw [if_pos (Or.inl rfl)]; exact cell_loose1 b o c cs x r f bk xx w hT hC hx hn h0 h1 h2 h3 hr hw hs hl
        | false =>
          rw [if_neg (by simp [hr])]
          exact cell_ok1 b o c cs x r f bk xx w hT hC hx hn h0 h1 h2 h3 hr hw hs hl
end Grd
end Go.Proofs.YtinhmklpnkikgabDoor
