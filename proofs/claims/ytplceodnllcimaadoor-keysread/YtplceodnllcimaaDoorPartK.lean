/- Package keys: Check. (Written by gen_keyschk.py.) -/
import Derived.Test.YtplceodnllcimaaDoorPartD
import Derived.Test.YtplceodnllcimaaDoorShelf
import Derived.Test.YtplceodnllcimaaDoorPartF
import Derived.Lib.QuietBelow
import Derived.BigQuiet
import Derived.Test.YtplceodnllcimaaDoorPartJ
import Derived.Deep.RegionLaw
namespace Go.Proofs.YtplceodnllcimaaDoor
open Go.ChangeShapes Go.WideShapes Go.ChangeAt Go.RowKit
namespace Kys
open Txt (wd)
theorem checkRune_any (k : Ky) (w : World) (hT : Txt.Tab w) (h0 : 0 ≤ k.held) (h7 : k.held ≤ 7) :
    Calls Tryd.prog 29 #[kyv k] w fun e w' => e = .returned (.bool (chkR k)) ∧ Below w.heap.size w w' := by
  obtain ⟨kind, r, n, held⟩ := k
  simp only at h0 h7
  obtain ⟨j, hj, rfl⟩ := held_cases (h := held) h0 h7
  have : j = 0 ∨ j = 1 ∨ j = 2 ∨ j = 3 ∨ j = 4 ∨ j = 5 ∨ j = 6 ∨ j = 7 := by omega
  rcases this with rfl | rfl | rfl | rfl | rfl | rfl | rfl | rfl
  · exact checkRune_0 kind r n w hT
  · exact checkRune_1 kind r n w hT
  · exact checkRune_2 kind r n w hT
  · exact checkRune_3 kind r n w hT
  · exact checkRune_4 kind r n w hT
  · exact checkRune_5 kind r n w hT
  · exact checkRune_6 kind r n w hT
  · exact checkRune_7 kind r n w hT
theorem andNot_two (h : Int) (h0 : 0 ≤ h) (h7 : h ≤ 7) : (bits BinOp.andNot IntKind.i64 h 2 == 0) = decide (h = 0 ∨ h = 2) := by
  obtain ⟨j, hj, rfl⟩ := held_cases (h := h) h0 h7
  have : j = 0 ∨ j = 1 ∨ j = 2 ∨ j = 3 ∨ j = 4 ∨ j = 5 ∨ j = 6 ∨ j = 7 := by omega
  rcases this with rfl | rfl | rfl | rfl | rfl | rfl | rfl | rfl <;> decide +kernel
theorem andNot_one (h : Int) (h0 : 0 ≤ h) (h7 : h ≤ 7) : (bits BinOp.andNot IntKind.i64 h 1 == 0) = decide (h = 0 ∨ h = 1) := by
  obtain ⟨j, hj, rfl⟩ := held_cases (h := h) h0 h7
  have : j = 0 ∨ j = 1 ∨ j = 2 ∨ j = 3 ∨ j = 4 ∨ j = 5 ∨ j = 6 ∨ j = 7 := by omega
  rcases this with rfl | rfl | rfl | rfl | rfl | rfl | rfl | rfl <;> decide +kernel
set_option maxHeartbeats 4000000 in
set_option maxRecDepth 100000 in
theorem check_rk (kind r n held : Int) (w : World) (h0 : 0 ≤ held) (h7 : held ≤ 7) (hr : ¬ r = 0) (hk : ¬ kind = 1) :
    Calls Tryd.prog 16 #[kyv ⟨kind, r, n, held⟩] w fun e w' => e = .returned (.bool (chk ⟨kind, r, n, held⟩)) ∧ Below w.heap.size w w' := by
  have g0 : ¬ held < 0 := Int.not_lt.2 h0
  have g7 : ¬ 7 < held := Int.not_lt.2 h7
  have e : chk ⟨kind, r, n, held⟩ = false := by unfold chk; rw [if_pos (by simp only; omega)]
  rw [e]
  clear e
  have xhr : (r == 0) = false := by rw [beq_eq_false_iff_ne]; exact hr
  have yhr : (r != 0) = true := by rw [bne_iff_ne]; exact hr
  have xhk : (kind == 1) = false := by rw [beq_eq_false_iff_ne]; exact hk
  have yhk : (kind != 1) = true := by rw [bne_iff_ne]; exact hk
  unfold kyv
  go_enter Tryd.func16, Tryd.ntmps16
  go_wp2_with fail
  all_goals go_ret
  all_goals exact ⟨rfl, (Below.refl _ _).alloc (Nat.le_refl _) _⟩
set_option maxHeartbeats 4000000 in
set_option maxRecDepth 100000 in
theorem check_rn (r n held : Int) (w : World) (h0 : 0 ≤ held) (h7 : held ≤ 7) (hr : ¬ r = 0) (hn : ¬ n = 0) :
    Calls Tryd.prog 16 #[kyv ⟨1, r, n, held⟩] w fun e w' => e = .returned (.bool (chk ⟨1, r, n, held⟩)) ∧ Below w.heap.size w w' := by
  have g0 : ¬ held < 0 := Int.not_lt.2 h0
  have g7 : ¬ 7 < held := Int.not_lt.2 h7
  have e : chk ⟨1, r, n, held⟩ = false := by unfold chk; rw [if_pos (by simp only; omega)]
  rw [e]
  clear e
  have xhr : (r == 0) = false := by rw [beq_eq_false_iff_ne]; exact hr
  have yhr : (r != 0) = true := by rw [bne_iff_ne]; exact hr
  have xhn : (n == 0) = false := by rw [beq_eq_false_iff_ne]; exact hn
  have yhn : (n != 0) = true := by rw [bne_iff_ne]; exact hn
  unfold kyv
  go_enter Tryd.func16, Tryd.ntmps16
  go_wp2_with fail
  all_goals go_ret
  all_goals exact ⟨rfl, (Below.refl _ _).alloc (Nat.le_refl _) _⟩
set_option maxHeartbeats 4000000 in
set_option maxRecDepth 100000 in
theorem check_rr (r held : Int) (w : World) (h0 : 0 ≤ held) (h7 : held ≤ 7) (hr : ¬ r = 0) (hT : Txt.Tab w) :
    Calls Tryd.prog 16 #[kyv ⟨1, r, 0, held⟩] w fun e w' => e = .returned (.bool (chk ⟨1, r, 0, held⟩)) ∧ Below w.heap.size w w' := by
  have g0 : ¬ held < 0 := Int.not_lt.2 h0
  have g7 : ¬ 7 < held := Int.not_lt.2 h7
  have xhr : (r == 0) = false := by rw [beq_eq_false_iff_ne]; exact hr
  have yhr : (r != 0) = true := by rw [bne_iff_ne]; exact hr
  have kb : Below w.heap.size w (w.alloc (.cells #[.int .i64 1, .int .i32 r, .int .i64 0, .int .i64 held] 31)) := (Below.refl _ _).alloc (Nat.le_refl _) _
  have HW := checkRune_any ⟨1, r, 0, held⟩ _ (Tab.alloc hT (.cells #[.int .i64 1, .int .i32 r, .int .i64 0, .int .i64 held] 31)) h0 h7
  have e : chk ⟨1, r, 0, held⟩ = chkR ⟨1, r, 0, held⟩ := by unfold chk; rw [if_neg (by simp only; omega), if_pos rfl]
  rw [e]
  clear e hT
  generalize chkR ⟨1, r, 0, held⟩ = d at *
  unfold kyv at HW ⊢
  go_enter Tryd.func16, Tryd.ntmps16
  go_wp2_with (go_at_call 29; refine HW.mono ?_; rintro e W1 ⟨rfl, b1⟩; replace kb := kb.trans (b1.mono kb.size))
  go_ret
  exact ⟨rfl, kb⟩
set_option maxHeartbeats 4000000 in
set_option maxRecDepth 100000 in
theorem check_nk (kind n held : Int) (w : World) (h0 : 0 ≤ held) (h7 : held ≤ 7) (hn : ¬ n = 0) (hk : ¬ kind = 15) :
    Calls Tryd.prog 16 #[kyv ⟨kind, 0, n, held⟩] w fun e w' => e = .returned (.bool (chk ⟨kind, 0, n, held⟩)) ∧ Below w.heap.size w w' := by
  have g0 : ¬ held < 0 := Int.not_lt.2 h0
  have g7 : ¬ 7 < held := Int.not_lt.2 h7
  have e : chk ⟨kind, 0, n, held⟩ = false := by unfold chk; rw [if_pos (by simp only; omega)]
  rw [e]
  clear e
  have xhn : (n == 0) = false := by rw [beq_eq_false_iff_ne]; exact hn
  have yhn : (n != 0) = true := by rw [bne_iff_ne]; exact hn
  have xhk : (kind == 15) = false := by rw [beq_eq_false_iff_ne]; exact hk
  have yhk : (kind != 15) = true := by rw [bne_iff_ne]; exact hk
  unfold kyv
  go_enter Tryd.func16, Tryd.ntmps16
  go_wp2_with fail
  all_goals go_ret
  all_goals exact ⟨rfl, (Below.refl _ _).alloc (Nat.le_refl _) _⟩
set_option maxHeartbeats 4000000 in
set_option maxRecDepth 100000 in
theorem check_f0 (n held : Int) (w : World) (h0 : 0 ≤ held) (h7 : held ≤ 7) (hn : ¬ n = 0) (h1 : ¬ 1 ≤ n) :
    Calls Tryd.prog 16 #[kyv ⟨15, 0, n, held⟩] w fun e w' => e = .returned (.bool (chk ⟨15, 0, n, held⟩)) ∧ Below w.heap.size w w' := by
  have g0 : ¬ held < 0 := Int.not_lt.2 h0
  have g7 : ¬ 7 < held := Int.not_lt.2 h7
  have e : chk ⟨15, 0, n, held⟩ = false := by unfold chk; rw [if_neg (by simp only; omega), if_neg (by simp), if_neg (by simp), if_neg (by simp), if_neg (by simp), if_pos rfl]; exact decide_eq_false (by simp only; omega)
  rw [e]
  clear e
  have xhn : (n == 0) = false := by rw [beq_eq_false_iff_ne]; exact hn
  have yhn : (n != 0) = true := by rw [bne_iff_ne]; exact hn
  unfold kyv
  go_enter Tryd.func16, Tryd.ntmps16
  go_wp2_with fail
  all_goals go_ret
  all_goals exact ⟨rfl, (Below.refl _ _).alloc (Nat.le_refl _) _⟩
set_option maxHeartbeats 4000000 in
set_option maxRecDepth 100000 in
theorem check_f1 (n held : Int) (w : World) (h0 : 0 ≤ held) (h7 : held ≤ 7) (hn : ¬ n = 0) (h1 : 1 ≤ n) (h2 : n ≤ 12) :
    Calls Tryd.prog 16 #[kyv ⟨15, 0, n, held⟩] w fun e w' => e = .returned (.bool (chk ⟨15, 0, n, held⟩)) ∧ Below w.heap.size w w' := by
  have g0 : ¬ held < 0 := Int.not_lt.2 h0
  have g7 : ¬ 7 < held := Int.not_lt.2 h7
  have e : chk ⟨15, 0, n, held⟩ = true := by unfold chk; rw [if_neg (by simp only; omega), if_neg (by simp), if_neg (by simp), if_neg (by simp), if_neg (by simp), if_pos rfl]; exact decide_eq_true (by simp only; omega)
  rw [e]
  clear e
  have xhn : (n == 0) = false := by rw [beq_eq_false_iff_ne]; exact hn
  have yhn : (n != 0) = true := by rw [bne_iff_ne]; exact hn
  unfold kyv
  go_enter Tryd.func16, Tryd.ntmps16
  go_wp2_with fail
  all_goals go_ret
  all_goals exact ⟨rfl, (Below.refl _ _).alloc (Nat.le_refl _) _⟩
set_option maxHeartbeats 4000000 in
set_option maxRecDepth 100000 in
theorem check_f2 (n held : Int) (w : World) (h0 : 0 ≤ held) (h7 : held ≤ 7) (hn : ¬ n = 0) (h1 : 1 ≤ n) (h2 : ¬ n ≤ 12) :
    Calls Tryd.prog 16 #[kyv ⟨15, 0, n, held⟩] w fun e w' => e = .returned (.bool (chk ⟨15, 0, n, held⟩)) ∧ Below w.heap.size w w' := by
  have g0 : ¬ held < 0 := Int.not_lt.2 h0
  have g7 : ¬ 7 < held := Int.not_lt.2 h7
  have e : chk ⟨15, 0, n, held⟩ = false := by unfold chk; rw [if_neg (by simp only; omega), if_neg (by simp), if_neg (by simp), if_neg (by simp), if_neg (by simp), if_pos rfl]; exact decide_eq_false (by simp only; omega)
  rw [e]
  clear e
  have xhn : (n == 0) = false := by rw [beq_eq_false_iff_ne]; exact hn
  have yhn : (n != 0) = true := by rw [bne_iff_ne]; exact hn
  unfold kyv
  go_enter Tryd.func16, Tryd.ntmps16
  go_wp2_with fail
  all_goals go_ret
  all_goals exact ⟨rfl, (Below.refl _ _).alloc (Nat.le_refl _) _⟩
set_option maxHeartbeats 4000000 in
set_option maxRecDepth 100000 in
theorem check_fz (held : Int) (w : World) (h0 : 0 ≤ held) (h7 : held ≤ 7) :
    Calls Tryd.prog 16 #[kyv ⟨15, 0, 0, held⟩] w fun e w' => e = .returned (.bool (chk ⟨15, 0, 0, held⟩)) ∧ Below w.heap.size w w' := by
  have g0 : ¬ held < 0 := Int.not_lt.2 h0
  have g7 : ¬ 7 < held := Int.not_lt.2 h7
  have e : chk ⟨15, 0, 0, held⟩ = false := by unfold chk; rw [if_neg (by simp only; omega), if_neg (by simp), if_neg (by simp), if_neg (by simp), if_neg (by simp), if_pos rfl]; rfl
  rw [e]
  clear e
  unfold kyv
  go_enter Tryd.func16, Tryd.ntmps16
  go_wp2_with fail
  all_goals go_ret
  all_goals exact ⟨rfl, (Below.refl _ _).alloc (Nat.le_refl _) _⟩
set_option maxHeartbeats 4000000 in
set_option maxRecDepth 100000 in
theorem check_r0 (held : Int) (w : World) (h0 : 0 ≤ held) (h7 : held ≤ 7) (hT : Txt.Tab w) :
    Calls Tryd.prog 16 #[kyv ⟨1, 0, 0, held⟩] w fun e w' => e = .returned (.bool (chk ⟨1, 0, 0, held⟩)) ∧ Below w.heap.size w w' := by
  have g0 : ¬ held < 0 := Int.not_lt.2 h0
  have g7 : ¬ 7 < held := Int.not_lt.2 h7
  have kb : Below w.heap.size w (w.alloc (.cells #[.int .i64 1, .int .i32 0, .int .i64 0, .int .i64 held] 31)) := (Below.refl _ _).alloc (Nat.le_refl _) _
  have HW := checkRune_any ⟨1, 0, 0, held⟩ _ (Tab.alloc hT (.cells #[.int .i64 1, .int .i32 0, .int .i64 0, .int .i64 held] 31)) h0 h7
  have e : chk ⟨1, 0, 0, held⟩ = chkR ⟨1, 0, 0, held⟩ := by unfold chk; rw [if_neg (by simp only; omega), if_pos rfl]
  rw [e]
  clear e hT
  generalize chkR ⟨1, 0, 0, held⟩ = d at *
  unfold kyv at HW ⊢
  go_enter Tryd.func16, Tryd.ntmps16
  go_wp2_with (go_at_call 29; refine HW.mono ?_; rintro e W1 ⟨rfl, b1⟩; replace kb := kb.trans (b1.mono kb.size))
  go_ret
  exact ⟨rfl, kb⟩
set_option maxHeartbeats 4000000 in
set_option maxRecDepth 100000 in
theorem check_k2y (held : Int) (w : World) (h0 : 0 ≤ held) (h7 : held ≤ 7) (hc : (held = 0 ∨ held = 2)) :
    Calls Tryd.prog 16 #[kyv ⟨2, 0, 0, held⟩] w fun e w' => e = .returned (.bool (chk ⟨2, 0, 0, held⟩)) ∧ Below w.heap.size w w' := by
  have g0 : ¬ held < 0 := Int.not_lt.2 h0
  have g7 : ¬ 7 < held := Int.not_lt.2 h7
  have e : chk ⟨2, 0, 0, held⟩ = true := by unfold chk; rw [if_neg (by simp only; omega), if_neg (by simp), if_pos (by simp)]; exact decide_eq_true hc
  rw [e]
  clear e
  have hb : (bits BinOp.andNot IntKind.i64 held 2 == 0) = true := by rw [andNot_two held h0 h7]; exact decide_eq_true hc
  unfold kyv
  go_enter Tryd.func16, Tryd.ntmps16
  go_wp2_with fail
  all_goals go_ret
  all_goals exact ⟨rfl, (Below.refl _ _).alloc (Nat.le_refl _) _⟩
set_option maxHeartbeats 4000000 in
set_option maxRecDepth 100000 in
theorem check_k2n (held : Int) (w : World) (h0 : 0 ≤ held) (h7 : held ≤ 7) (hc : ¬ (held = 0 ∨ held = 2)) :
    Calls Tryd.prog 16 #[kyv ⟨2, 0, 0, held⟩] w fun e w' => e = .returned (.bool (chk ⟨2, 0, 0, held⟩)) ∧ Below w.heap.size w w' := by
  have g0 : ¬ held < 0 := Int.not_lt.2 h0
  have g7 : ¬ 7 < held := Int.not_lt.2 h7
  have e : chk ⟨2, 0, 0, held⟩ = false := by unfold chk; rw [if_neg (by simp only; omega), if_neg (by simp), if_pos (by simp)]; exact decide_eq_false hc
  rw [e]
  clear e
  have hb : (bits BinOp.andNot IntKind.i64 held 2 == 0) = false := by rw [andNot_two held h0 h7]; exact decide_eq_false hc
  unfold kyv
  go_enter Tryd.func16, Tryd.ntmps16
  go_wp2_with fail
  all_goals go_ret
  all_goals exact ⟨rfl, (Below.refl _ _).alloc (Nat.le_refl _) _⟩
set_option maxHeartbeats 4000000 in
set_option maxRecDepth 100000 in
theorem check_k4y (held : Int) (w : World) (h0 : 0 ≤ held) (h7 : held ≤ 7) (hc : (held = 0 ∨ held = 2)) :
    Calls Tryd.prog 16 #[kyv ⟨4, 0, 0, held⟩] w fun e w' => e = .returned (.bool (chk ⟨4, 0, 0, held⟩)) ∧ Below w.heap.size w w' := by
  have g0 : ¬ held < 0 := Int.not_lt.2 h0
  have g7 : ¬ 7 < held := Int.not_lt.2 h7
  have e : chk ⟨4, 0, 0, held⟩ = true := by unfold chk; rw [if_neg (by simp only; omega), if_neg (by simp), if_pos (by simp)]; exact decide_eq_true hc
  rw [e]
  clear e
  have hb : (bits BinOp.andNot IntKind.i64 held 2 == 0) = true := by rw [andNot_two held h0 h7]; exact decide_eq_true hc
  unfold kyv
  go_enter Tryd.func16, Tryd.ntmps16
  go_wp2_with fail
  all_goals go_ret
  all_goals exact ⟨rfl, (Below.refl _ _).alloc (Nat.le_refl _) _⟩
set_option maxHeartbeats 4000000 in
set_option maxRecDepth 100000 in
theorem check_k4n (held : Int) (w : World) (h0 : 0 ≤ held) (h7 : held ≤ 7) (hc : ¬ (held = 0 ∨ held = 2)) :
    Calls Tryd.prog 16 #[kyv ⟨4, 0, 0, held⟩] w fun e w' => e = .returned (.bool (chk ⟨4, 0, 0, held⟩)) ∧ Below w.heap.size w w' := by
  have g0 : ¬ held < 0 := Int.not_lt.2 h0
  have g7 : ¬ 7 < held := Int.not_lt.2 h7
  have e : chk ⟨4, 0, 0, held⟩ = false := by unfold chk; rw [if_neg (by simp only; omega), if_neg (by simp), if_pos (by simp)]; exact decide_eq_false hc
  rw [e]
  clear e
  have hb : (bits BinOp.andNot IntKind.i64 held 2 == 0) = false := by rw [andNot_two held h0 h7]; exact decide_eq_false hc
  unfold kyv
  go_enter Tryd.func16, Tryd.ntmps16
  go_wp2_with fail
  all_goals go_ret
  all_goals exact ⟨rfl, (Below.refl _ _).alloc (Nat.le_refl _) _⟩
set_option maxHeartbeats 4000000 in
set_option maxRecDepth 100000 in
theorem check_k3y (held : Int) (w : World) (h0 : 0 ≤ held) (h7 : held ≤ 7) (hc : (held = 0 ∨ held = 1)) :
    Calls Tryd.prog 16 #[kyv ⟨3, 0, 0, held⟩] w fun e w' => e = .returned (.bool (chk ⟨3, 0, 0, held⟩)) ∧ Below w.heap.size w w' := by
  have g0 : ¬ held < 0 := Int.not_lt.2 h0
  have g7 : ¬ 7 < held := Int.not_lt.2 h7
  have e : chk ⟨3, 0, 0, held⟩ = true := by unfold chk; rw [if_neg (by simp only; omega), if_neg (by simp), if_neg (by simp), if_pos rfl]; exact decide_eq_true hc
  rw [e]
  clear e
  have hb : (bits BinOp.andNot IntKind.i64 held 1 == 0) = true := by rw [andNot_one held h0 h7]; exact decide_eq_true hc
  unfold kyv
  go_enter Tryd.func16, Tryd.ntmps16
  go_wp2_with fail
  all_goals go_ret
  all_goals exact ⟨rfl, (Below.refl _ _).alloc (Nat.le_refl _) _⟩
set_option maxHeartbeats 4000000 in
set_option maxRecDepth 100000 in
theorem check_k3n (held : Int) (w : World) (h0 : 0 ≤ held) (h7 : held ≤ 7) (hc : ¬ (held = 0 ∨ held = 1)) :
    Calls Tryd.prog 16 #[kyv ⟨3, 0, 0, held⟩] w fun e w' => e = .returned (.bool (chk ⟨3, 0, 0, held⟩)) ∧ Below w.heap.size w w' := by
  have g0 : ¬ held < 0 := Int.not_lt.2 h0
  have g7 : ¬ 7 < held := Int.not_lt.2 h7
  have e : chk ⟨3, 0, 0, held⟩ = false := by unfold chk; rw [if_neg (by simp only; omega), if_neg (by simp), if_neg (by simp), if_pos rfl]; exact decide_eq_false hc
  rw [e]
  clear e
  have hb : (bits BinOp.andNot IntKind.i64 held 1 == 0) = false := by rw [andNot_one held h0 h7]; exact decide_eq_false hc
  unfold kyv
  go_enter Tryd.func16, Tryd.ntmps16
  go_wp2_with fail
  all_goals go_ret
  all_goals exact ⟨rfl, (Below.refl _ _).alloc (Nat.le_refl _) _⟩
set_option maxHeartbeats 4000000 in
set_option maxRecDepth 100000 in
theorem check_k5y (held : Int) (w : World) (h0 : 0 ≤ held) (h7 : held ≤ 7) (hc : held = 0) :
    Calls Tryd.prog 16 #[kyv ⟨5, 0, 0, held⟩] w fun e w' => e = .returned (.bool (chk ⟨5, 0, 0, held⟩)) ∧ Below w.heap.size w w' := by
  have g0 : ¬ held < 0 := Int.not_lt.2 h0
  have g7 : ¬ 7 < held := Int.not_lt.2 h7
  have e : chk ⟨5, 0, 0, held⟩ = true := by unfold chk; rw [if_neg (by simp only; omega), if_neg (by simp), if_neg (by simp), if_neg (by simp), if_pos rfl]; exact decide_eq_true hc
  rw [e]
  clear e
  unfold kyv
  go_enter Tryd.func16, Tryd.ntmps16
  go_wp2_with fail
  all_goals go_ret
  all_goals exact ⟨rfl, (Below.refl _ _).alloc (Nat.le_refl _) _⟩
set_option maxHeartbeats 4000000 in
set_option maxRecDepth 100000 in
theorem check_k5n (held : Int) (w : World) (h0 : 0 ≤ held) (h7 : held ≤ 7) (hc : ¬ held = 0) :
    Calls Tryd.prog 16 #[kyv ⟨5, 0, 0, held⟩] w fun e w' => e = .returned (.bool (chk ⟨5, 0, 0, held⟩)) ∧ Below w.heap.size w w' := by
  have g0 : ¬ held < 0 := Int.not_lt.2 h0
  have g7 : ¬ 7 < held := Int.not_lt.2 h7
  have e : chk ⟨5, 0, 0, held⟩ = false := by unfold chk; rw [if_neg (by simp only; omega), if_neg (by simp), if_neg (by simp), if_neg (by simp), if_pos rfl]; exact decide_eq_false hc
  rw [e]
  clear e
  have xhc : (held == 0) = false := by rw [beq_eq_false_iff_ne]; exact hc
  have yhc : (held != 0) = true := by rw [bne_iff_ne]; exact hc
  unfold kyv
  go_enter Tryd.func16, Tryd.ntmps16
  go_wp2_with fail
  all_goals go_ret
  all_goals exact ⟨rfl, (Below.refl _ _).alloc (Nat.le_refl _) _⟩
set_option maxHeartbeats 4000000 in
set_option maxRecDepth 100000 in
theorem check_o0 (kind held : Int) (w : World) (h0 : 0 ≤ held) (h7 : held ≤ 7) (a1 : ¬ kind = 1) (a2 : ¬ kind = 2) (a4 : ¬ kind = 4) (a3 : ¬ kind = 3) (a5 : ¬ kind = 5) (a15 : ¬ kind = 15) (h1 : ¬ 6 ≤ kind) :
    Calls Tryd.prog 16 #[kyv ⟨kind, 0, 0, held⟩] w fun e w' => e = .returned (.bool (chk ⟨kind, 0, 0, held⟩)) ∧ Below w.heap.size w w' := by
  have g0 : ¬ held < 0 := Int.not_lt.2 h0
  have g7 : ¬ 7 < held := Int.not_lt.2 h7
  have e : chk ⟨kind, 0, 0, held⟩ = false := by unfold chk; rw [if_neg (by simp only; omega), if_neg (by simp only; omega), if_neg (by simp only; omega), if_neg (by simp only; omega), if_neg (by simp only; omega), if_neg (by simp only; omega)]; exact decide_eq_false (by simp only; omega)
  rw [e]
  clear e
  have xa1 : (kind == 1) = false := by rw [beq_eq_false_iff_ne]; exact a1
  have ya1 : (kind != 1) = true := by rw [bne_iff_ne]; exact a1
  have xa2 : (kind == 2) = false := by rw [beq_eq_false_iff_ne]; exact a2
  have ya2 : (kind != 2) = true := by rw [bne_iff_ne]; exact a2
  have xa4 : (kind == 4) = false := by rw [beq_eq_false_iff_ne]; exact a4
  have ya4 : (kind != 4) = true := by rw [bne_iff_ne]; exact a4
  have xa3 : (kind == 3) = false := by rw [beq_eq_false_iff_ne]; exact a3
  have ya3 : (kind != 3) = true := by rw [bne_iff_ne]; exact a3
  have xa5 : (kind == 5) = false := by rw [beq_eq_false_iff_ne]; exact a5
  have ya5 : (kind != 5) = true := by rw [bne_iff_ne]; exact a5
  have xa15 : (kind == 15) = false := by rw [beq_eq_false_iff_ne]; exact a15
  have ya15 : (kind != 15) = true := by rw [bne_iff_ne]; exact a15
  unfold kyv
  go_enter Tryd.func16, Tryd.ntmps16
  go_wp2_with fail
  all_goals go_ret
  all_goals exact ⟨rfl, (Below.refl _ _).alloc (Nat.le_refl _) _⟩
set_option maxHeartbeats 4000000 in
set_option maxRecDepth 100000 in
theorem check_o1 (kind held : Int) (w : World) (h0 : 0 ≤ held) (h7 : held ≤ 7) (a1 : ¬ kind = 1) (a2 : ¬ kind = 2) (a4 : ¬ kind = 4) (a3 : ¬ kind = 3) (a5 : ¬ kind = 5) (a15 : ¬ kind = 15) (h1 : 6 ≤ kind) (h2 : kind ≤ 14) :
    Calls Tryd.prog 16 #[kyv ⟨kind, 0, 0, held⟩] w fun e w' => e = .returned (.bool (chk ⟨kind, 0, 0, held⟩)) ∧ Below w.heap.size w w' := by
  have g0 : ¬ held < 0 := Int.not_lt.2 h0
  have g7 : ¬ 7 < held := Int.not_lt.2 h7
  have e : chk ⟨kind, 0, 0, held⟩ = true := by unfold chk; rw [if_neg (by simp only; omega), if_neg (by simp only; omega), if_neg (by simp only; omega), if_neg (by simp only; omega), if_neg (by simp only; omega), if_neg (by simp only; omega)]; exact decide_eq_true (by simp only; omega)
  rw [e]
  clear e
  have xa1 : (kind == 1) = false := by rw [beq_eq_false_iff_ne]; exact a1
  have ya1 : (kind != 1) = true := by rw [bne_iff_ne]; exact a1
  have xa2 : (kind == 2) = false := by rw [beq_eq_false_iff_ne]; exact a2
  have ya2 : (kind != 2) = true := by rw [bne_iff_ne]; exact a2
  have xa4 : (kind == 4) = false := by rw [beq_eq_false_iff_ne]; exact a4
  have ya4 : (kind != 4) = true := by rw [bne_iff_ne]; exact a4
  have xa3 : (kind == 3) = false := by rw [beq_eq_false_iff_ne]; exact a3
  have ya3 : (kind != 3) = true := by rw [bne_iff_ne]; exact a3
  have xa5 : (kind == 5) = false := by rw [beq_eq_false_iff_ne]; exact a5
  have ya5 : (kind != 5) = true := by rw [bne_iff_ne]; exact a5
  have xa15 : (kind == 15) = false := by rw [beq_eq_false_iff_ne]; exact a15
  have ya15 : (kind != 15) = true := by rw [bne_iff_ne]; exact a15
  unfold kyv
  go_enter Tryd.func16, Tryd.ntmps16
  go_wp2_with fail
  all_goals go_ret
  all_goals exact ⟨rfl, (Below.refl _ _).alloc (Nat.le_refl _) _⟩
set_option maxHeartbeats 4000000 in
set_option maxRecDepth 100000 in
theorem check_o2 (kind held : Int) (w : World) (h0 : 0 ≤ held) (h7 : held ≤ 7) (a1 : ¬ kind = 1) (a2 : ¬ kind = 2) (a4 : ¬ kind = 4) (a3 : ¬ kind = 3) (a5 : ¬ kind = 5) (a15 : ¬ kind = 15) (h1 : 6 ≤ kind) (h2 : ¬ kind ≤ 14) :
    Calls Tryd.prog 16 #[kyv ⟨kind, 0, 0, held⟩] w fun e w' => e = .returned (.bool (chk ⟨kind, 0, 0, held⟩)) ∧ Below w.heap.size w w' := by
  have g0 : ¬ held < 0 := Int.not_lt.2 h0
  have g7 : ¬ 7 < held := Int.not_lt.2 h7
  have e : chk ⟨kind, 0, 0, held⟩ = false := by unfold chk; rw [if_neg (by simp only; omega), if_neg (by simp only; omega), if_neg (by simp only; omega), if_neg (by simp only; omega), if_neg (by simp only; omega), if_neg (by simp only; omega)]; exact decide_eq_false (by simp only; omega)
  rw [e]
  clear e
  have xa1 : (kind == 1) = false := by rw [beq_eq_false_iff_ne]; exact a1
  have ya1 : (kind != 1) = true := by rw [bne_iff_ne]; exact a1
  have xa2 : (kind == 2) = false := by rw [beq_eq_false_iff_ne]; exact a2
  have ya2 : (kind != 2) = true := by rw [bne_iff_ne]; exact a2
  have xa4 : (kind == 4) = false := by rw [beq_eq_false_iff_ne]; exact a4
  have ya4 : (kind != 4) = true := by rw [bne_iff_ne]; exact a4
  have xa3 : (kind == 3) = false := by rw [beq_eq_false_iff_ne]; exact a3
  have ya3 : (kind != 3) = true := by rw [bne_iff_ne]; exact a3
  have xa5 : (kind == 5) = false := by rw [beq_eq_false_iff_ne]; exact a5
  have ya5 : (kind != 5) = true := by rw [bne_iff_ne]; exact a5
  have xa15 : (kind == 15) = false := by rw [beq_eq_false_iff_ne]; exact a15
  have ya15 : (kind != 15) = true := by rw [bne_iff_ne]; exact a15
  unfold kyv
  go_enter Tryd.func16, Tryd.ntmps16
  go_wp2_with fail
  all_goals go_ret
  all_goals exact ⟨rfl, (Below.refl _ _).alloc (Nat.le_refl _) _⟩
set_option maxHeartbeats 4000000 in
set_option maxRecDepth 100000 in
theorem check_lo (k : Ky) (w : World) (h : k.held < 0) :
    Calls Tryd.prog 16 #[kyv k] w fun e w' => e = .returned (.bool false) ∧ Below w.heap.size w w' := by
  unfold kyv
  go_enter Tryd.func16, Tryd.ntmps16
  go_wp2_with fail
  go_ret
  exact ⟨rfl, (Below.refl _ _).alloc (Nat.le_refl _) _⟩
set_option maxHeartbeats 4000000 in
set_option maxRecDepth 100000 in
theorem check_hi (k : Ky) (w : World) (h : 7 < k.held) :
    Calls Tryd.prog 16 #[kyv k] w fun e w' => e = .returned (.bool false) ∧ Below w.heap.size w w' := by
  unfold kyv
  have h' : ¬ k.held < 0 := by omega
  go_enter Tryd.func16, Tryd.ntmps16
  go_wp2_with fail
  go_ret
  exact ⟨rfl, (Below.refl _ _).alloc (Nat.le_refl _) _⟩
theorem check_any (k : Ky) (w : World) (hT : Txt.Tab w) :
    Calls Tryd.prog 16 #[kyv k] w fun e w' => e = .returned (.bool (chk k)) ∧ Below w.heap.size w w' := by
  by_cases hl : k.held < 0
  · rw [show chk k = false by unfold chk; rw [if_pos (by omega)]]
    exact check_lo k w hl
  · by_cases hh : 7 < k.held
    · rw [show chk k = false by unfold chk; rw [if_pos (by omega)]]
      exact check_hi k w hh
    · obtain ⟨kind, r, n, held⟩ := k
      simp only at hl hh
      have h0 : 0 ≤ held := by omega
      have h7 : held ≤ 7 := by omega
      by_cases hr : r = 0
      · subst hr
        by_cases hn : n = 0
        · subst hn
          by_cases a1 : kind = 1
          · subst a1; exact check_r0 held w h0 h7 hT
          by_cases a2 : kind = 2
          · subst a2
            by_cases hc : held = 0 ∨ held = 2
            · exact check_k2y held w h0 h7 hc
            · exact check_k2n held w h0 h7 hc
          by_cases a4 : kind = 4
          · subst a4
            by_cases hc : held = 0 ∨ held = 2
            · exact check_k4y held w h0 h7 hc
            · exact check_k4n held w h0 h7 hc
          by_cases a3 : kind = 3
          · subst a3
            by_cases hc : held = 0 ∨ held = 1
            · exact check_k3y held w h0 h7 hc
            · exact check_k3n held w h0 h7 hc
          by_cases a5 : kind = 5
          · subst a5
            by_cases hc : held = 0
            · exact check_k5y held w h0 h7 hc
            · exact check_k5n held w h0 h7 hc
          by_cases a15 : kind = 15
          · subst a15; exact check_fz held w h0 h7
          by_cases h1 : 6 ≤ kind
          · by_cases h2 : kind ≤ 14
            · exact check_o1 kind held w h0 h7 a1 a2 a4 a3 a5 a15 h1 h2
            · exact check_o2 kind held w h0 h7 a1 a2 a4 a3 a5 a15 h1 h2
          · exact check_o0 kind held w h0 h7 a1 a2 a4 a3 a5 a15 h1
        · by_cases hk : kind = 15
          · subst hk
            by_cases h1 : 1 ≤ n
            · by_cases h2 : n ≤ 12
              · exact check_f1 n held w h0 h7 hn h1 h2
              · exact check_f2 n held w h0 h7 hn h1 h2
            · exact check_f0 n held w h0 h7 hn h1
          · exact check_nk kind n held w h0 h7 hn hk
      · by_cases hk : kind = 1
        · subst hk
          by_cases hn : n = 0
          · subst hn; exact check_rr r held w h0 h7 hr hT
          · exact check_rn r n held w h0 h7 hr hn
        · exact check_rk kind r n held w h0 h7 hr hk
end Kys
end Go.Proofs.YtplceodnllcimaaDoor

/- Package keys: the writers of one kind each. -/

namespace Go.Proofs.YtplceodnllcimaaDoor
open Go.ChangeShapes Go.WideShapes Go.ChangeAt Go.RowKit
namespace Kys
open Txt (wd bs)
set_option maxHeartbeats 4000000 in
theorem altAhead_0 (kind r n : Int) (w : World) : Calls Tryd.prog 45 #[kyv ⟨kind, r, n, 0⟩] w fun e w' => e = .returned (.string ⟨#[]⟩) ∧ Below w.heap.size w w' := by
  have hb : bits BinOp.and IntKind.i64 0 2 = 0 := by kernel_rfl
  unfold kyv
  go_enter Tryd.func45, Tryd.ntmps45
  go_wp2_with fail
  go_ret
  exact ⟨rfl, (Below.refl _ _).alloc (Nat.le_refl _) _⟩
set_option maxHeartbeats 4000000 in
theorem altAhead_2 (kind r n : Int) (w : World) : Calls Tryd.prog 45 #[kyv ⟨kind, r, n, 2⟩] w fun e w' => e = .returned (.string ⟨#[27]⟩) ∧ Below w.heap.size w w' := by
  have hb : bits BinOp.and IntKind.i64 2 2 = 2 := by kernel_rfl
  unfold kyv
  go_enter Tryd.func45, Tryd.ntmps45
  go_wp2_with fail
  go_ret
  exact ⟨rfl, (Below.refl _ _).alloc (Nat.le_refl _) _⟩
set_option maxHeartbeats 4000000 in
theorem altAhead_4 (kind r n : Int) (w : World) : Calls Tryd.prog 45 #[kyv ⟨kind, r, n, 4⟩] w fun e w' => e = .returned (.string ⟨#[]⟩) ∧ Below w.heap.size w w' := by
  have hb : bits BinOp.and IntKind.i64 4 2 = 0 := by kernel_rfl
  unfold kyv
  go_enter Tryd.func45, Tryd.ntmps45
  go_wp2_with fail
  go_ret
  exact ⟨rfl, (Below.refl _ _).alloc (Nat.le_refl _) _⟩
set_option maxHeartbeats 4000000 in
theorem altAhead_6 (kind r n : Int) (w : World) : Calls Tryd.prog 45 #[kyv ⟨kind, r, n, 6⟩] w fun e w' => e = .returned (.string ⟨#[27]⟩) ∧ Below w.heap.size w w' := by
  have hb : bits BinOp.and IntKind.i64 6 2 = 2 := by kernel_rfl
  unfold kyv
  go_enter Tryd.func45, Tryd.ntmps45
  go_wp2_with fail
  go_ret
  exact ⟨rfl, (Below.refl _ _).alloc (Nat.le_refl _) _⟩
theorem altAhead_any (k : Ky) (h : k.held = 0 ∨ k.held = 2 ∨ k.held = 4 ∨ k.held = 6) (w : World) : Calls Tryd.prog 45 #[kyv k] w fun e w' => e = .returned (.string (bs (altA k.held))) ∧ Below w.heap.size w w' := by
  obtain ⟨kind, r, n, held⟩ := k
  simp only at h
  rcases h with rfl | rfl | rfl | rfl
  · exact altAhead_0 kind r n w
  · exact altAhead_2 kind r n w
  · exact altAhead_4 kind r n w
  · exact altAhead_6 kind r n w
theorem bs_size (l : List UInt8) : (bs l).size = l.length := by simp [bs, ByteArray.size]
set_option maxHeartbeats 4000000 in
theorem writeEnter_any (k : Ky) (kp : Bool) (h : k.held = 0 ∨ k.held = 2) (w : World) : Calls Tryd.prog 31 #[kyv k, .bool kp] w fun e w' => e = .returned (.string (bs (altA k.held ++ [13]))) ∧ Below w.heap.size w w' := by
  have kb : Below w.heap.size w (w.alloc (.cells #[.int .i64 k.kind, .int .i32 k.r, .int .i64 k.n, .int .i64 k.held] 31)) := (Below.refl _ _).alloc (Nat.le_refl _) _
  have HW := altAhead_any k (by omega) (w.alloc (.cells #[.int .i64 k.kind, .int .i32 k.r, .int .i64 k.n, .int .i64 k.held] 31))
  have hl : (altA k.held).length ≤ 1 := by unfold altA; split <;> simp
  have he : bs (altA k.held ++ [13]) = bs (altA k.held) ++ ⟨#[13]⟩ := (Txt.bs_append _ _).symm
  have hs : ¬ 9223372036854775807 < (bs (altA k.held)).size + 1 := by rw [bs_size]; omega
  rw [he]
  clear he hl
  generalize bs (altA k.held) = t at *
  unfold kyv at HW ⊢
  go_enter Tryd.func31, Tryd.ntmps31
  go_wp2_with (go_at_call 45; refine HW.mono ?_; rintro e W1 ⟨rfl, b1⟩; replace kb := kb.trans (b1.mono kb.size))
  go_ret
  exact ⟨rfl, kb⟩
set_option maxHeartbeats 4000000 in
theorem writeBack_any (k : Ky) (kp : Bool) (h : k.held = 0 ∨ k.held = 2) (w : World) : Calls Tryd.prog 33 #[kyv k, .bool kp] w fun e w' => e = .returned (.string (bs (altA k.held ++ [127]))) ∧ Below w.heap.size w w' := by
  have kb : Below w.heap.size w (w.alloc (.cells #[.int .i64 k.kind, .int .i32 k.r, .int .i64 k.n, .int .i64 k.held] 31)) := (Below.refl _ _).alloc (Nat.le_refl _) _
  have HW := altAhead_any k (by omega) (w.alloc (.cells #[.int .i64 k.kind, .int .i32 k.r, .int .i64 k.n, .int .i64 k.held] 31))
  have hl : (altA k.held).length ≤ 1 := by unfold altA; split <;> simp
  have he : bs (altA k.held ++ [127]) = bs (altA k.held) ++ ⟨#[127]⟩ := (Txt.bs_append _ _).symm
  have hs : ¬ 9223372036854775807 < (bs (altA k.held)).size + 1 := by rw [bs_size]; omega
  rw [he]
  clear he hl
  generalize bs (altA k.held) = t at *
  unfold kyv at HW ⊢
  go_enter Tryd.func33, Tryd.ntmps33
  go_wp2_with (go_at_call 45; refine HW.mono ?_; rintro e W1 ⟨rfl, b1⟩; replace kb := kb.trans (b1.mono kb.size))
  go_ret
  exact ⟨rfl, kb⟩
set_option maxHeartbeats 4000000 in
theorem writeTab_any (k : Ky) (kp : Bool) (w : World) : Calls Tryd.prog 32 #[kyv k, .bool kp] w fun e w' => e = .returned (.string (bs (if k.held ≠ 0 then [27, 91, 90] else [9]))) ∧ Below w.heap.size w w' := by
  obtain ⟨kind, r, n, held⟩ := k
  unfold kyv
  simp only
  by_cases h : held = 0
  · subst h
    go_enter Tryd.func32, Tryd.ntmps32
    go_wp2_with fail
    go_ret
    exact ⟨rfl, (Below.refl _ _).alloc (Nat.le_refl _) _⟩
  · rw [if_pos h]
    have hb : (held == 0) = false := by rw [beq_eq_false_iff_ne]; exact h
    go_enter Tryd.func32, Tryd.ntmps32
    go_wp2_with fail
    go_ret
    exact ⟨rfl, (Below.refl _ _).alloc (Nat.le_refl _) _⟩
set_option maxHeartbeats 4000000 in
theorem writeEsc_any (k : Ky) (kp : Bool) (w : World) : Calls Tryd.prog 34 #[kyv k, .bool kp] w fun e w' => e = .returned (.string (bs [27])) ∧ Below w.heap.size w w' := by
  unfold kyv
  go_enter Tryd.func34, Tryd.ntmps34
  go_wp2_with fail
  go_ret
  first | exact ⟨rfl, (Below.refl _ _).alloc (Nat.le_refl _) _⟩ | exact ⟨rfl, Below.refl _ _⟩
theorem dig_small : ∀ j ∈ List.range 8, j ≠ 0 → Lib.decDigits (j + 1) = [UInt8.ofNat (49 + j)] := by decide +kernel
set_option maxHeartbeats 4000000 in
theorem heldBehind_any (k : Ky) (h0 : 0 ≤ k.held) (h7 : k.held ≤ 7) (w : World) : Calls Tryd.prog 46 #[kyv k] w fun e w' => e = .returned (.string (bs (heldB k.held))) ∧ Below w.heap.size w w' := by
  obtain ⟨kind, r, n, held⟩ := k
  simp only at h0 h7
  obtain ⟨j, hj, rfl⟩ := held_cases (h := held) h0 h7
  clear h0 h7
  unfold kyv
  simp only
  by_cases hz : j = 0
  · subst hz
    go_enter Tryd.func46, Tryd.ntmps46
    go_wp2_with fail
    go_ret
    exact ⟨rfl, (Below.refl _ _).alloc (Nat.le_refl _) _⟩
  · have kb : Below w.heap.size w (w.alloc (.cells #[.int .i64 kind, .int .i32 r, .int .i64 n, .int .i64 (j : Int)] 31)) := (Below.refl _ _).alloc (Nat.le_refl _) _
    have HI := Tryd.strconv_Itoa_small (j + 1) (by omega) (w.alloc (.cells #[.int .i64 kind, .int .i32 r, .int .i64 n, .int .i64 (j : Int)] 31))
    rw [dig_small j (List.mem_range.2 hj) hz] at HI
    have e : bs (heldB (j : Int)) = ⟨#[59]⟩ ++ bs [UInt8.ofNat (49 + j)] := by
      unfold heldB
      rw [if_neg (by omega), Int.toNat_natCast]
      exact (Txt.bs_append [59] [UInt8.ofNat (49 + j)]).symm
    rw [e]
    clear e
    rw [show (⟨[UInt8.ofNat (49 + j)].toArray⟩ : ByteArray) = bs [UInt8.ofNat (49 + j)] from rfl] at HI
    have hs : (bs [UInt8.ofNat (49 + j)]).size = 1 := by rw [bs_size]; rfl
    have hs2 : ¬ 9223372036854775807 < 1 + (bs [UInt8.ofNat (49 + j)]).size := by omega
    generalize bs [UInt8.ofNat (49 + j)] = t at *
    have hc : ((j + 1 : Nat) : Int) = (j : Int) + 1 := by omega
    rw [hc] at HI
    clear hc
    have hw : wrap64 ((j : Int) + 1) = (j : Int) + 1 := by unfold wrap64; omega
    have hb : ((j : Int) == 0) = false := by rw [beq_eq_false_iff_ne]; omega
    go_enter Tryd.func46, Tryd.ntmps46
    go_wp2_with (go_at_call 42; refine HI.mono ?_; rintro e W1 ⟨rfl, hW⟩; subst hW)
    go_ret
    exact ⟨rfl, kb⟩
set_option maxHeartbeats 4000000 in
theorem writeLetter_6 (r n held : Int) (kp : Bool) (h0 : 0 ≤ held) (h7 : held ≤ 7) (w : World) : Calls Tryd.prog 35 #[kyv ⟨6, r, n, held⟩, .bool kp] w fun e w' => e = .returned (.string (bs (wr ⟨6, r, n, held⟩ kp))) ∧ Below w.heap.size w w' := by
  have kb : Below w.heap.size w (w.alloc (.cells #[.int .i64 6, .int .i32 r, .int .i64 n, .int .i64 held] 31)) := (Below.refl _ _).alloc (Nat.le_refl _) _
  have hen : Utf8.encode (((⟨#[65, 66, 67, 68, 72, 70]⟩ : ByteArray)[0]'(by decide)).toNat : Int) = ⟨#[65]⟩ := by kernel_rfl
  by_cases hz : held = 0
  · subst hz
    clear h0 h7
    unfold kyv
    cases kp
    · have e : bs (wr ⟨6, r, n, 0⟩ false) = ⟨#[27, 91]⟩ ++ ⟨#[65]⟩ := (Txt.bs_append [27, 91] [65]).symm
      rw [e]
      clear e
      go_enter Tryd.func35, Tryd.ntmps35
      go_wp2_with fail
      go_ret
      exact ⟨rfl, kb⟩
    · have e : bs (wr ⟨6, r, n, 0⟩ true) = ⟨#[27, 79]⟩ ++ ⟨#[65]⟩ := (Txt.bs_append [27, 79] [65]).symm
      rw [e]
      clear e
      go_enter Tryd.func35, Tryd.ntmps35
      go_wp2_with fail
      go_ret
      exact ⟨rfl, kb⟩
  · have HH := heldBehind_any ⟨6, r, n, held⟩ h0 h7 (w.alloc (.cells #[.int .i64 6, .int .i32 r, .int .i64 n, .int .i64 held] 31))
    have e : bs (wr ⟨6, r, n, held⟩ kp) = ⟨#[27, 91, 49]⟩ ++ bs (heldB held) ++ ⟨#[65]⟩ := by
      have : wr ⟨6, r, n, held⟩ kp = [27, 91, 49] ++ heldB held ++ [65] := by simp [wr, hz, letB, lettersL]
      rw [this]
      exact ((Txt.bs_append ([27, 91, 49] ++ heldB held) [65]).symm).trans (congrArg (· ++ bs [65]) (Txt.bs_append [27, 91, 49] (heldB held)).symm)
    rw [e]
    clear e
    have hl : (bs (heldB held)).size ≤ 2 := by rw [bs_size]; unfold heldB; split <;> simp
    simp only at HH
    generalize bs (heldB held) = t at *
    have hs1 : ¬ 9223372036854775807 < 3 + t.size := by omega
    have hs2 : ¬ 9223372036854775807 < 3 + t.size + 1 := by omega
    have hb : (held == 0) = false := by rw [beq_eq_false_iff_ne]; exact hz
    have hb2 : (held != 0) = true := by rw [bne_iff_ne]; exact hz
    unfold kyv at HH ⊢
    go_enter Tryd.func35, Tryd.ntmps35
    go_wp2_with (go_at_call 46; refine HH.mono ?_; rintro e W1 ⟨rfl, b1⟩; replace kb := kb.trans (b1.mono kb.size))
    go_ret
    exact ⟨rfl, kb⟩
set_option maxHeartbeats 4000000 in
theorem writeLetter_7 (r n held : Int) (kp : Bool) (h0 : 0 ≤ held) (h7 : held ≤ 7) (w : World) : Calls Tryd.prog 35 #[kyv ⟨7, r, n, held⟩, .bool kp] w fun e w' => e = .returned (.string (bs (wr ⟨7, r, n, held⟩ kp))) ∧ Below w.heap.size w w' := by
  have kb : Below w.heap.size w (w.alloc (.cells #[.int .i64 7, .int .i32 r, .int .i64 n, .int .i64 held] 31)) := (Below.refl _ _).alloc (Nat.le_refl _) _
  have hen : Utf8.encode (((⟨#[65, 66, 67, 68, 72, 70]⟩ : ByteArray)[1]'(by decide)).toNat : Int) = ⟨#[66]⟩ := by kernel_rfl
  by_cases hz : held = 0
  · subst hz
    clear h0 h7
    unfold kyv
    cases kp
    · have e : bs (wr ⟨7, r, n, 0⟩ false) = ⟨#[27, 91]⟩ ++ ⟨#[66]⟩ := (Txt.bs_append [27, 91] [66]).symm
      rw [e]
      clear e
      go_enter Tryd.func35, Tryd.ntmps35
      go_wp2_with fail
      go_ret
      exact ⟨rfl, kb⟩
    · have e : bs (wr ⟨7, r, n, 0⟩ true) = ⟨#[27, 79]⟩ ++ ⟨#[66]⟩ := (Txt.bs_append [27, 79] [66]).symm
      rw [e]
      clear e
      go_enter Tryd.func35, Tryd.ntmps35
      go_wp2_with fail
      go_ret
      exact ⟨rfl, kb⟩
  · have HH := heldBehind_any ⟨7, r, n, held⟩ h0 h7 (w.alloc (.cells #[.int .i64 7, .int .i32 r, .int .i64 n, .int .i64 held] 31))
    have e : bs (wr ⟨7, r, n, held⟩ kp) = ⟨#[27, 91, 49]⟩ ++ bs (heldB held) ++ ⟨#[66]⟩ := by
      have : wr ⟨7, r, n, held⟩ kp = [27, 91, 49] ++ heldB held ++ [66] := by simp [wr, hz, letB, lettersL]
      rw [this]
      exact ((Txt.bs_append ([27, 91, 49] ++ heldB held) [66]).symm).trans (congrArg (· ++ bs [66]) (Txt.bs_append [27, 91, 49] (heldB held)).symm)
    rw [e]
    clear e
    have hl : (bs (heldB held)).size ≤ 2 := by rw [bs_size]; unfold heldB; split <;> simp
    simp only at HH
    generalize bs (heldB held) = t at *
    have hs1 : ¬ 9223372036854775807 < 3 + t.size := by omega
    have hs2 : ¬ 9223372036854775807 < 3 + t.size + 1 := by omega
    have hb : (held == 0) = false := by rw [beq_eq_false_iff_ne]; exact hz
    have hb2 : (held != 0) = true := by rw [bne_iff_ne]; exact hz
    unfold kyv at HH ⊢
    go_enter Tryd.func35, Tryd.ntmps35
    go_wp2_with (go_at_call 46; refine HH.mono ?_; rintro e W1 ⟨rfl, b1⟩; replace kb := kb.trans (b1.mono kb.size))
    go_ret
    exact ⟨rfl, kb⟩
set_option maxHeartbeats 4000000 in
theorem writeLetter_8 (r n held : Int) (kp : Bool) (h0 : 0 ≤ held) (h7 : held ≤ 7) (w : World) : Calls Tryd.prog 35 #[kyv ⟨8, r, n, held⟩, .bool kp] w fun e w' => e = .returned (.string (bs (wr ⟨8, r, n, held⟩ kp))) ∧ Below w.heap.size w w' := by
  have kb : Below w.heap.size w (w.alloc (.cells #[.int .i64 8, .int .i32 r, .int .i64 n, .int .i64 held] 31)) := (Below.refl _ _).alloc (Nat.le_refl _) _
  have hen : Utf8.encode (((⟨#[65, 66, 67, 68, 72, 70]⟩ : ByteArray)[2]'(by decide)).toNat : Int) = ⟨#[67]⟩ := by kernel_rfl
  by_cases hz : held = 0
  · subst hz
    clear h0 h7
    unfold kyv
    cases kp
    · have e : bs (wr ⟨8, r, n, 0⟩ false) = ⟨#[27, 91]⟩ ++ ⟨#[67]⟩ := (Txt.bs_append [27, 91] [67]).symm
      rw [e]
      clear e
      go_enter Tryd.func35, Tryd.ntmps35
      go_wp2_with fail
      go_ret
      exact ⟨rfl, kb⟩
    · have e : bs (wr ⟨8, r, n, 0⟩ true) = ⟨#[27, 79]⟩ ++ ⟨#[67]⟩ := (Txt.bs_append [27, 79] [67]).symm
      rw [e]
      clear e
      go_enter Tryd.func35, Tryd.ntmps35
      go_wp2_with fail
      go_ret
      exact ⟨rfl, kb⟩
  · have HH := heldBehind_any ⟨8, r, n, held⟩ h0 h7 (w.alloc (.cells #[.int .i64 8, .int .i32 r, .int .i64 n, .int .i64 held] 31))
    have e : bs (wr ⟨8, r, n, held⟩ kp) = ⟨#[27, 91, 49]⟩ ++ bs (heldB held) ++ ⟨#[67]⟩ := by
      have : wr ⟨8, r, n, held⟩ kp = [27, 91, 49] ++ heldB held ++ [67] := by simp [wr, hz, letB, lettersL]
      rw [this]
      exact ((Txt.bs_append ([27, 91, 49] ++ heldB held) [67]).symm).trans (congrArg (· ++ bs [67]) (Txt.bs_append [27, 91, 49] (heldB held)).symm)
    rw [e]
    clear e
    have hl : (bs (heldB held)).size ≤ 2 := by rw [bs_size]; unfold heldB; split <;> simp
    simp only at HH
    generalize bs (heldB held) = t at *
    have hs1 : ¬ 9223372036854775807 < 3 + t.size := by omega
    have hs2 : ¬ 9223372036854775807 < 3 + t.size + 1 := by omega
    have hb : (held == 0) = false := by rw [beq_eq_false_iff_ne]; exact hz
    have hb2 : (held != 0) = true := by rw [bne_iff_ne]; exact hz
    unfold kyv at HH ⊢
    go_enter Tryd.func35, Tryd.ntmps35
    go_wp2_with (go_at_call 46; refine HH.mono ?_; rintro e W1 ⟨rfl, b1⟩; replace kb := kb.trans (b1.mono kb.size))
    go_ret
    exact ⟨rfl, kb⟩
set_option maxHeartbeats 4000000 in
theorem writeLetter_9 (r n held : Int) (kp : Bool) (h0 : 0 ≤ held) (h7 : held ≤ 7) (w : World) : Calls Tryd.prog 35 #[kyv ⟨9, r, n, held⟩, .bool kp] w fun e w' => e = .returned (.string (bs (wr ⟨9, r, n, held⟩ kp))) ∧ Below w.heap.size w w' := by
  have kb : Below w.heap.size w (w.alloc (.cells #[.int .i64 9, .int .i32 r, .int .i64 n, .int .i64 held] 31)) := (Below.refl _ _).alloc (Nat.le_refl _) _
  have hen : Utf8.encode (((⟨#[65, 66, 67, 68, 72, 70]⟩ : ByteArray)[3]'(by decide)).toNat : Int) = ⟨#[68]⟩ := by kernel_rfl
  by_cases hz : held = 0
  · subst hz
    clear h0 h7
    unfold kyv
    cases kp
    · have e : bs (wr ⟨9, r, n, 0⟩ false) = ⟨#[27, 91]⟩ ++ ⟨#[68]⟩ := (Txt.bs_append [27, 91] [68]).symm
      rw [e]
      clear e
      go_enter Tryd.func35, Tryd.ntmps35
      go_wp2_with fail
      go_ret
      exact ⟨rfl, kb⟩
    · have e : bs (wr ⟨9, r, n, 0⟩ true) = ⟨#[27, 79]⟩ ++ ⟨#[68]⟩ := (Txt.bs_append [27, 79] [68]).symm
      rw [e]
      clear e
      go_enter Tryd.func35, Tryd.ntmps35
      go_wp2_with fail
      go_ret
      exact ⟨rfl, kb⟩
  · have HH := heldBehind_any ⟨9, r, n, held⟩ h0 h7 (w.alloc (.cells #[.int .i64 9, .int .i32 r, .int .i64 n, .int .i64 held] 31))
    have e : bs (wr ⟨9, r, n, held⟩ kp) = ⟨#[27, 91, 49]⟩ ++ bs (heldB held) ++ ⟨#[68]⟩ := by
      have : wr ⟨9, r, n, held⟩ kp = [27, 91, 49] ++ heldB held ++ [68] := by simp [wr, hz, letB, lettersL]
      rw [this]
      exact ((Txt.bs_append ([27, 91, 49] ++ heldB held) [68]).symm).trans (congrArg (· ++ bs [68]) (Txt.bs_append [27, 91, 49] (heldB held)).symm)
    rw [e]
    clear e
    have hl : (bs (heldB held)).size ≤ 2 := by rw [bs_size]; unfold heldB; split <;> simp
    simp only at HH
    generalize bs (heldB held) = t at *
    have hs1 : ¬ 9223372036854775807 < 3 + t.size := by omega
    have hs2 : ¬ 9223372036854775807 < 3 + t.size + 1 := by omega
    have hb : (held == 0) = false := by rw [beq_eq_false_iff_ne]; exact hz
    have hb2 : (held != 0) = true := by rw [bne_iff_ne]; exact hz
    unfold kyv at HH ⊢
    go_enter Tryd.func35, Tryd.ntmps35
    go_wp2_with (go_at_call 46; refine HH.mono ?_; rintro e W1 ⟨rfl, b1⟩; replace kb := kb.trans (b1.mono kb.size))
    go_ret
    exact ⟨rfl, kb⟩
set_option maxHeartbeats 4000000 in
theorem writeLetter_10 (r n held : Int) (kp : Bool) (h0 : 0 ≤ held) (h7 : held ≤ 7) (w : World) : Calls Tryd.prog 35 #[kyv ⟨10, r, n, held⟩, .bool kp] w fun e w' => e = .returned (.string (bs (wr ⟨10, r, n, held⟩ kp))) ∧ Below w.heap.size w w' := by
  have kb : Below w.heap.size w (w.alloc (.cells #[.int .i64 10, .int .i32 r, .int .i64 n, .int .i64 held] 31)) := (Below.refl _ _).alloc (Nat.le_refl _) _
  have hen : Utf8.encode (((⟨#[65, 66, 67, 68, 72, 70]⟩ : ByteArray)[4]'(by decide)).toNat : Int) = ⟨#[72]⟩ := by kernel_rfl
  by_cases hz : held = 0
  · subst hz
    clear h0 h7
    unfold kyv
    cases kp
    · have e : bs (wr ⟨10, r, n, 0⟩ false) = ⟨#[27, 91]⟩ ++ ⟨#[72]⟩ := (Txt.bs_append [27, 91] [72]).symm
      rw [e]
      clear e
      go_enter Tryd.func35, Tryd.ntmps35
      go_wp2_with fail
      go_ret
      exact ⟨rfl, kb⟩
    · have e : bs (wr ⟨10, r, n, 0⟩ true) = ⟨#[27, 79]⟩ ++ ⟨#[72]⟩ := (Txt.bs_append [27, 79] [72]).symm
      rw [e]
      clear e
      go_enter Tryd.func35, Tryd.ntmps35
      go_wp2_with fail
      go_ret
      exact ⟨rfl, kb⟩
  · have HH := heldBehind_any ⟨10, r, n, held⟩ h0 h7 (w.alloc (.cells #[.int .i64 10, .int .i32 r, .int .i64 n, .int .i64 held] 31))
    have e : bs (wr ⟨10, r, n, held⟩ kp) = ⟨#[27, 91, 49]⟩ ++ bs (heldB held) ++ ⟨#[72]⟩ := by
      have : wr ⟨10, r, n, held⟩ kp = [27, 91, 49] ++ heldB held ++ [72] := by simp [wr, hz, letB, lettersL]
      rw [this]
      exact ((Txt.bs_append ([27, 91, 49] ++ heldB held) [72]).symm).trans (congrArg (· ++ bs [72]) (Txt.bs_append [27, 91, 49] (heldB held)).symm)
    rw [e]
    clear e
    have hl : (bs (heldB held)).size ≤ 2 := by rw [bs_size]; unfold heldB; split <;> simp
    simp only at HH
    generalize bs (heldB held) = t at *
    have hs1 : ¬ 9223372036854775807 < 3 + t.size := by omega
    have hs2 : ¬ 9223372036854775807 < 3 + t.size + 1 := by omega
    have hb : (held == 0) = false := by rw [beq_eq_false_iff_ne]; exact hz
    have hb2 : (held != 0) = true := by rw [bne_iff_ne]; exact hz
    unfold kyv at HH ⊢
    go_enter Tryd.func35, Tryd.ntmps35
    go_wp2_with (go_at_call 46; refine HH.mono ?_; rintro e W1 ⟨rfl, b1⟩; replace kb := kb.trans (b1.mono kb.size))
    go_ret
    exact ⟨rfl, kb⟩
set_option maxHeartbeats 4000000 in
theorem writeLetter_11 (r n held : Int) (kp : Bool) (h0 : 0 ≤ held) (h7 : held ≤ 7) (w : World) : Calls Tryd.prog 35 #[kyv ⟨11, r, n, held⟩, .bool kp] w fun e w' => e = .returned (.string (bs (wr ⟨11, r, n, held⟩ kp))) ∧ Below w.heap.size w w' := by
  have kb : Below w.heap.size w (w.alloc (.cells #[.int .i64 11, .int .i32 r, .int .i64 n, .int .i64 held] 31)) := (Below.refl _ _).alloc (Nat.le_refl _) _
  have hen : Utf8.encode (((⟨#[65, 66, 67, 68, 72, 70]⟩ : ByteArray)[5]'(by decide)).toNat : Int) = ⟨#[70]⟩ := by kernel_rfl
  by_cases hz : held = 0
  · subst hz
    clear h0 h7
    unfold kyv
    cases kp
    · have e : bs (wr ⟨11, r, n, 0⟩ false) = ⟨#[27, 91]⟩ ++ ⟨#[70]⟩ := (Txt.bs_append [27, 91] [70]).symm
      rw [e]
      clear e
      go_enter Tryd.func35, Tryd.ntmps35
      go_wp2_with fail
      go_ret
      exact ⟨rfl, kb⟩
    · have e : bs (wr ⟨11, r, n, 0⟩ true) = ⟨#[27, 79]⟩ ++ ⟨#[70]⟩ := (Txt.bs_append [27, 79] [70]).symm
      rw [e]
      clear e
      go_enter Tryd.func35, Tryd.ntmps35
      go_wp2_with fail
      go_ret
      exact ⟨rfl, kb⟩
  · have HH := heldBehind_any ⟨11, r, n, held⟩ h0 h7 (w.alloc (.cells #[.int .i64 11, .int .i32 r, .int .i64 n, .int .i64 held] 31))
    have e : bs (wr ⟨11, r, n, held⟩ kp) = ⟨#[27, 91, 49]⟩ ++ bs (heldB held) ++ ⟨#[70]⟩ := by
      have : wr ⟨11, r, n, held⟩ kp = [27, 91, 49] ++ heldB held ++ [70] := by simp [wr, hz, letB, lettersL]
      rw [this]
      exact ((Txt.bs_append ([27, 91, 49] ++ heldB held) [70]).symm).trans (congrArg (· ++ bs [70]) (Txt.bs_append [27, 91, 49] (heldB held)).symm)
    rw [e]
    clear e
    have hl : (bs (heldB held)).size ≤ 2 := by rw [bs_size]; unfold heldB; split <;> simp
    simp only at HH
    generalize bs (heldB held) = t at *
    have hs1 : ¬ 9223372036854775807 < 3 + t.size := by omega
    have hs2 : ¬ 9223372036854775807 < 3 + t.size + 1 := by omega
    have hb : (held == 0) = false := by rw [beq_eq_false_iff_ne]; exact hz
    have hb2 : (held != 0) = true := by rw [bne_iff_ne]; exact hz
    unfold kyv at HH ⊢
    go_enter Tryd.func35, Tryd.ntmps35
    go_wp2_with (go_at_call 46; refine HH.mono ?_; rintro e W1 ⟨rfl, b1⟩; replace kb := kb.trans (b1.mono kb.size))
    go_ret
    exact ⟨rfl, kb⟩
end Kys
end Go.Proofs.YtplceodnllcimaaDoor

/- Package keys: Write, by kinds. -/
namespace Go.Proofs.YtplceodnllcimaaDoor
open Go.ChangeShapes Go.WideShapes Go.ChangeAt Go.RowKit
open Go.Sort
namespace Kys
open Txt (wd bs)
def wsA : Array Value := #[.nilFunc, .func (.func 30) #[] #[], .func (.func 31) #[] #[], .func (.func 32) #[] #[], .func (.func 33) #[] #[], .func (.func 34) #[] #[], .func (.func 35) #[] #[], .func (.func 35) #[] #[], .func (.func 35) #[] #[], .func (.func 35) #[] #[], .func (.func 35) #[] #[], .func (.func 35) #[] #[], .func (.func 36) #[] #[], .func (.func 36) #[] #[], .func (.func 36) #[] #[], .func (.func 36) #[] #[]]
set_option maxHeartbeats 1000000 in
set_option maxRecDepth 100000 in
theorem writers_any (w : World) : Calls Tryd.prog 17 #[] w fun e w' => e = .returned (.agg wsA) ∧ Below w.heap.size w w' := by
  go_enter Tryd.func17, Tryd.ntmps17
  go_wp2_with (refine wpList_store_row rfl 41 (.tmp 0) _ rfl w.heap.size wsA rfl rfl _ _ (heap_alloc_new w _) (by kernel_rfl) rfl (by simp [wsA, Value.oneCell']) ?_)
  (try simp only [Exit.inBlock, Exit.then])
  refine bodyPost_ret (v := .agg wsA) ?_ rfl ⟨rfl, below_setRow ((Below.refl _ _).alloc (Nat.le_refl _) _) (Nat.le_refl _) _⟩
  exact results_cell_row rfl _ _ w.heap.size _ _ _ _ rfl (setRow_heap _ _ _ _ _ _ (heap_alloc_new w _)) Tryd.underlying41 rfl (by kernel_rfl)
theorem und_ws : Tryd.prog.underlying 41 = some (.array 16 40) := by kernel_rfl
theorem idx6 (w : World) : (Instr.index 41 (.agg wsA) (.int .i64 6)).run Tryd.prog w = .ok (.func (.func 35) #[] #[]) w := by
  unfold wsA
  simp [Instr.index, run_underlying und_ws, asIntOf, go_sem]
theorem four_cells {W : World} {b : Nat} {p q r z : Value} {t : TypeId} (h : W.heap[b]? = some (.cells #[p, q, r, z] t (0, 0))) : (W.cell? ⟨b, 0, none⟩ = some p ∧ W.cell? ⟨b, 1, none⟩ = some q ∧ W.cell? ⟨b, 2, none⟩ = some r ∧ W.cell? ⟨b, 3, none⟩ = some z) ∧ True := by
  unfold World.cell?
  rw [h]
  exact ⟨⟨rfl, rfl, rfl, rfl⟩, trivial⟩
set_option maxHeartbeats 4000000 in
theorem write_6 (r n held : Int) (kp : Bool) (w : World) (hT : Txt.Tab w) (hk : chk ⟨6, r, n, held⟩ = true) (h0 : 0 ≤ held) (h7 : held ≤ 7) : Calls Tryd.prog 10 #[kyv ⟨6, r, n, held⟩, .bool kp] w fun e w' => e = .returned (.tuple #[.string (bs (wr ⟨6, r, n, held⟩ kp)), .int .i64 0]) ∧ Below w.heap.size w w' := by
  have kb : Below w.heap.size w (w.alloc (.cells #[.int .i64 6, .int .i32 r, .int .i64 n, .int .i64 held] 31)) := (Below.refl _ _).alloc (Nat.le_refl _) _
  have HC := check_any ⟨6, r, n, held⟩ _ (Tab.alloc hT (.cells #[.int .i64 6, .int .i32 r, .int .i64 n, .int .i64 held] 31))
  rw [hk] at HC
  clear hk hT
  have HF := fun W => writeLetter_6 r n held kp h0 h7 W
  generalize bs (wr ⟨6, r, n, held⟩ kp) = res at *
  unfold kyv at HC HF ⊢
  go_enter Tryd.func10, Tryd.ntmps10
  go_wp2_with (go_at_call 16; refine HC.mono ?_; rintro e W1 ⟨rfl, b1⟩)
  have z1 := held_block b1
  have k1 := kb.trans (b1.mono kb.size)
  clear b1 kb HC
  obtain ⟨⟨c0, c1, c2, c3⟩, _⟩ := four_cells z1
  have g0 := fun d os => cell_regrown c0 d os
  have g1 := fun d os => cell_regrown c1 d os
  have g2 := fun d os => cell_regrown c2 d os
  have g3 := fun d os => cell_regrown c3 d os
  have HWr := fun d os => Calls.regrown_of (writers_any (grow (redrawn W1 d) os))
  have HFr := fun d os => Calls.regrown_of (HF (grow (redrawn W1 d) os))
  have hix := idx6
  clear HF c0 c1 c2 c3 z1
  refine wp_region_quiet_below (by kernel_rfl) (by kernel_rfl) ?_
  repeat (first | go_big_quiet_skip | quiet_step (first | (go_at_call 17; exact HWr _ _) | (go_at_call 35; exact HFr _ _)))
  refine wpQuiet_nil ?_
  intro _ hw'
  obtain ⟨⟨dq, os⟩, hw''⟩ := hw'
  subst hw''
  have kR := below_regrown W1 dq os
  have kw := k1.trans (kR.mono k1.size)
  clear g0 g1 g2 g3 HWr HFr kR
  generalize grow (redrawn W1 dq) os = V at *
  go_wp2_with fail
  go_ret2
  exact ⟨rfl, kw⟩
end Kys
end Go.Proofs.YtplceodnllcimaaDoor

/- The closed fact: an arrow with something held. -/
namespace Go.Proofs.YtplceodnllcimaaDoor
open Go.ChangeShapes Go.WideShapes Go.ChangeAt Go.RowKit
namespace Kys
open Txt (wd bs dec)
theorem rd_struck : rd [27, 91, 49, 59, 53, 65, 113, 27] false = ([⟨6, 0, 0, 4⟩, ⟨1, 113, 0, 0⟩], [27]) := by decide +kernel
theorem wr_struck : wr ⟨6, 0, 0, 4⟩ true = [27, 91, 49, 59, 53, 65] := by decide +kernel
theorem two_keys (W : World) (a b c d p q r z : Int) : KSl (W.alloc (.cells #[.int .i64 a, .int .i32 b, .int .i64 c, .int .i64 d, .int .i64 p, .int .i32 q, .int .i64 r, .int .i64 z] 31)) (.slice (some ⟨W.heap.size, 0, none⟩) 2 2) [⟨a, b, c, d⟩, ⟨p, q, r, z⟩] := by
  refine .inr ⟨by simp, W.heap.size, 0, 2, rfl, fun j hj => ?_⟩
  have hc : ∀ i, (W.alloc (.cells #[.int .i64 a, .int .i32 b, .int .i64 c, .int .i64 d, .int .i64 p, .int .i32 q, .int .i64 r, .int .i64 z] 31)).cell? ⟨W.heap.size, i, none⟩ = #[.int .i64 a, .int .i32 b, .int .i64 c, .int .i64 d, .int .i64 p, .int .i32 q, .int .i64 r, .int .i64 z][i]? := fun i => by
    unfold World.cell?
    rw [heap_alloc_new]
    rfl
  simp only [hc]
  have : j = 0 ∨ j = 1 := by simp at hj; omega
  rcases this with rfl | rfl <;> exact ⟨rfl, rfl, rfl, rfl⟩
set_option maxHeartbeats 4000000 in
set_option maxRecDepth 100000 in
theorem struck_any (w : World) (hE : Env w) : Calls Tryd.prog 5 #[] w fun e w' => e = .returned (.bool true) ∧ Below w.heap.size w w' := by
  have HW := write_6 0 0 4 true w hE.tab (by decide +kernel) (by decide) (by decide)
  rw [wr_struck] at HW
  have HRd := fun W (h : Env W) => read_any ⟨#[27, 91, 49, 59, 53, 65, 113, 27]⟩ false (by decide) W h
  rw [show (⟨#[27, 91, 49, 59, 53, 65, 113, 27]⟩ : ByteArray).data.toList = [27, 91, 49, 59, 53, 65, 113, 27] from rfl, rd_struck] at HRd
  simp only at HRd
  rw [show bs [27, 91, 49, 59, 53, 65] = ⟨#[27, 91, 49, 59, 53, 65]⟩ from rfl] at HW
  rw [show bs [27] = ⟨#[27]⟩ from rfl] at HRd
  have HEq := fun v1 v2 W h1 h2 => equal_any v1 v2 [⟨6, 0, 0, 4⟩, ⟨1, 113, 0, 0⟩] W h1 h2 (by simp)
  unfold kyv at HW
  simp only at HW
  go_enter Tryd.func5, Tryd.ntmps5
  go_wp2_with (first | (go_at_call 10; refine HW.mono ?_; rintro e W1 ⟨rfl, b1⟩) | (go_at_call 4; refine (HRd _ (hE.below b1)).mono ?_; rintro e W2 ⟨v, rfl, ho, b2⟩) | (go_at_call 7; refine (HEq _ _ _ (ho.sl.below ((Below.refl _ _).alloc (Nat.le_refl _) _)) (two_keys _ _ _ _ _ _ _ _ _)).mono ?_; rintro e W3 ⟨rfl, b3⟩))
  go_ret
  have k2 := b1.trans (b2.mono b1.size)
  have k3 := k2.alloc k2.size (.cells #[.int .i64 6, .int .i32 0, .int .i64 0, .int .i64 4, .int .i64 1, .int .i32 113, .int .i64 0, .int .i64 0] 31)
  exact ⟨rfl, k3.trans (b3.mono k3.size)⟩
end Kys
end Go.Proofs.YtplceodnllcimaaDoor

/- The reference's ReadKeys. -/
namespace Go.Proofs.YtplceodnllcimaaDoor
open Go.ChangeShapes Go.WideShapes Go.ChangeAt Go.RowKit Go.Maps
namespace Kys
open Txt (wd bs dec)
/-- An append within a region whose order is drawn. -/
theorem step_app {P : Program} {ops : Array Oper} {o : Oper} {a : Act} {w : World} {K : Act → World → Prop} {Q : Exit → Act → World → Prop} {E : Prop} (hg : o.guard = none) (s x : Operand) (t : TypeId)
    (hop : o.op = .call { callee := .builtin .append, args := #[s, x], argTypes := #[t, t] })
    (base : Nat) (e : TypeId) (i : TypeInfo) (z : Value) (size bytes : Nat) (ht : P.underlying t = some (.slice e)) (hi : P.info? e = some i) (hz : i.zero = some z)
    (hsize : i.size = size) (hby : i.bytes = bytes) (hzs : z.cells.size = size) (hsz : 0 < size)
    (v : Value) (n : Nat) (xs : List Value) (hs : a.eval s = v) (hown : w.ownsRow base e size v n xs)
    (ad : Addr) (m c : Nat) (news : List Value) (hx : a.eval x = .slice (some ad) m c) (hl : news.length = m * size) (hnews : ∀ j u, news[j]? = some u → w.cell? (ad.add j) = some u) (h1 : ∀ u ∈ news, u.oneCell' = true)
    (h63 : n + m ≤ maxLen) (hbytes : (n + m) * bytes ≤ 140737488355328) (hbase : base ≤ w.heap.size)
    (h : ∀ v' w', w'.ownsRow base e size v' (n + m) (xs ++ news) → w.grownBy w' v.ownBlock → K (a.put o.dst v') w') :
    if Region.wanted o (yielded ops a.tmps) = true then Oper.wp P o a w K Q else E := by
  have hw : Region.wanted o (yielded ops a.tmps) = true := by simp [Region.wanted, hg]
  rw [if_pos hw]
  obtain ⟨v', w', hr, h2, h3, -⟩ := run_append_own (P := P) w base t o.type e i z size bytes ht hi hz hsize hby hzs hsz v n xs hown ad m c news hl hnews h1 h63 hbytes hbase
  unfold Oper.wp execOp
  simp only [hop, resolve, invoke, builtin, Sem.run_bind, Sem.run_pure, Result.andThen_ok, List.map_toArray, List.map_cons, List.map_nil, hs, hx, hr]
  exact h v' w' h2 h3
set_option maxHeartbeats 8000000 in
set_option maxRecDepth 100000 in
theorem readR_any (s : ByteArray) (last : Bool) (hs : s.size ≤ 4000) (w : World) (hE : EnvR w) : Calls Tryd.prog 6 #[.string s, .bool last] w fun e w' => ∃ v, e = .returned (.tuple #[v, .string (bs (rd s.data.toList last).2)]) ∧ OwnK w' w.heap.size v (rd s.data.toList last).1 ∧ Below w.heap.size w w' := by
  have HEV : Hid (∀ W, Below w.heap.size w W → EnvR W) := fun W h => hE.below h
  obtain ⟨i0, hi, hzz⟩ := Option.map_eq_some_iff.1 info_key
  simp only [Prod.mk.injEq] at hzz
  obtain ⟨hz0, hz1, hz2⟩ := hzz
  obtain ⟨res, hres⟩ : ∃ res, rd s.data.toList last = res := ⟨_, rfl⟩
  rw [hres]
  have HR : Hid (rd s.data.toList last = res) := hres
  clear hres hE
  go_enter Tryd.func6, Tryd.ntmps6
  go_wp2_with fail
  go_loopg [0, 6] s.size (fun g v0 v7 wr => ∃ (t : ByteArray) (ks : List Ky), v0 = .string t ∧ t.size ≤ g ∧ t.size + ks.length ≤ s.size ∧ OwnK wr w.heap.size v7 ks ∧ Below w.heap.size w wr ∧ res = (ks ++ (rd t.data.toList last).1, (rd t.data.toList last).2))
  case atStart => exact ⟨s, [], rfl, Nat.le_refl _, by simp, World.ownsRow_nil _ _ _ _, Below.refl _ _, by rw [← HR.out]; rfl⟩
  case round =>
    obtain ⟨t, ks, rfl, hg, hlen, hown, hb, hq⟩ := hrel
    have HO : Hid (OwnK wr w.heap.size _ ks) := hown
    have HQ : Hid (res = (ks ++ (rd t.data.toList last).1, (rd t.data.toList last).2)) := hq
    clear hown hq HR
    by_cases ht : t.size = 0
    · have hl : t.data.toList = [] := List.length_eq_zero_iff.1 (by rw [size_l]; exact ht)
      have he : (t.toList == []) = true := by rw [beq_iff_eq, Lib.toList_data]; exact hl
      have e : res = (ks, []) := by rw [HQ.out, hl, rd_nil]; simp
      have HEM : Hid (t = bs []) := by unfold Hid; rw [← hl]; rfl
      subst e
      clear HQ hl ht
      go_wp2_with fail
      go_ret2
      refine ⟨_, ?_, HO.out, hb⟩
      simp only
      rw [← HEM.out]
      rfl
    · have hne : t.data.toList ≠ [] := by intro h; have := congrArg List.length h; rw [size_l] at this; exact ht this
      have he : (t.toList == []) = false := by rw [beq_eq_false_iff_ne, Lib.toList_data]; exact hne
      have HF := firstR_any t last (by omega) ht wr (HEV.out wr hb)
      have hfl := first_le t.data.toList last hne
      rw [size_l] at hfl
      obtain ⟨ff, hff⟩ : ∃ ff, firstL t.data.toList last = ff := ⟨_, rfl⟩
      have HFF : Hid (firstL t.data.toList last = ff) := hff
      rw [hff] at HF hfl
      clear hff
      obtain ⟨⟨kd, rr, nn, hh⟩, z⟩ := ff
      unfold kyv at HF
      simp only at HF hfl
      have hfrom := own_from HO.out
      by_cases hz : z = 0
      · subst hz
        have e : res = (ks, t.data.toList) := by rw [HQ.out, rd_stop _ last hne (by rw [HFF.out])]; simp
        subst e
        clear HQ HFF
        go_wp2_with (go_at_call 11; refine HF.mono ?_; rintro e W2 ⟨rfl, b2⟩)
        go_ret2
        have k2 := hb.trans (b2.mono hb.size)
        have k3 := k2.alloc k2.size (.cells #[.int .i64 kd, .int .i32 rr, .int .i64 nn, .int .i64 hh] 31)
        exact ⟨_, by rfl, (ownsRow_below HO.out b2).alloc _, k3⟩
      · have iz : ((z : Int) == 0) = false := by rw [beq_eq_false_iff_ne]; omega
        have iz2 : (z : Int) ≤ (t.size : Int) := by omega
        have iz3 : (0 : Int) ≤ (z : Int) := by omega
        have e : res = (ks ++ [⟨kd, rr, nn, hh⟩] ++ (rd (t.data.toList.drop z) last).1, (rd (t.data.toList.drop z) last).2) := by
          rw [HQ.out, rd_go _ last hne (by rw [HFF.out]; exact hz), HFF.out]
          simp
        have HQ2 : Hid (res = (ks ++ [⟨kd, rr, nn, hh⟩] ++ (rd (t.data.toList.drop z) last).1, (rd (t.data.toList.drop z) last).2)) := e
        clear HQ HFF e
        go_wp2_with (go_at_call 11; refine HF.mono ?_; rintro e W2 ⟨rfl, b2⟩)
        have k2 := hb.trans (b2.mono hb.size)
        have k3 := k2.alloc k2.size (.cells #[.int .i64 kd, .int .i32 rr, .int .i64 nn, .int .i64 hh] 31)
        have y3 := heap_alloc_new W2 (.cells #[.int .i64 kd, .int .i32 rr, .int .i64 nn, .int .i64 hh] 31)
        have o3 : OwnK (W2.alloc (.cells #[.int .i64 kd, .int .i32 rr, .int .i64 nn, .int .i64 hh] 31)) w.heap.size _ ks := (ownsRow_below HO.out b2).alloc _
        generalize W2.heap.size = B at *
        generalize W2.alloc (.cells #[.int .i64 kd, .int .i32 rr, .int .i64 nn, .int .i64 hh] 31) = W3 at *
        have o4 : OwnK (W3.alloc (.cells #[.int .i64 kd, .int .i32 rr, .int .i64 nn, .int .i64 hh] 31)).drew w.heap.size _ ks := World.ownsRow.alloc o3 _
        have k4 := (k3.alloc k3.size (.cells #[.int .i64 kd, .int .i32 rr, .int .i64 nn, .int .i64 hh] 31)).drew
        have y4 : W3.drew.heap[B]? = some (.cells #[.int .i64 kd, .int .i32 rr, .int .i64 nn, .int .i64 hh] 31 (0, 0)) := y3
        obtain ⟨⟨d0, d1, d2, d3⟩, _⟩ := four_cells1 y4
        have hnk : ∀ j u, [Value.int .i64 kd, .int .i32 rr, .int .i64 nn, .int .i64 hh][j]? = some u → (W3.alloc (.cells #[.int .i64 kd, .int .i32 rr, .int .i64 nn, .int .i64 hh] 31)).drew.cell? ((⟨W3.heap.size, 0, none⟩ : Addr).add j) = some u := cells_of_blk (heap_alloc_new W3 _)
        have HO4 : Hid (OwnK (W3.alloc (.cells #[.int .i64 kd, .int .i32 rr, .int .i64 nn, .int .i64 hh] 31)).drew w.heap.size _ ks) := o4
        have HK4 : Hid (Below w.heap.size w (W3.alloc (.cells #[.int .i64 kd, .int .i32 rr, .int .i64 nn, .int .i64 hh] 31)).drew) := k4
        clear o4 o3 y4 y3 k4 k3 k2 b2 HF HO hb
        go_region_law (refine step_app rfl (.tmp 19) (.tmp 21) 22 rfl w.heap.size 31 i0 (.agg #[.int .i64 0, .int .i32 0, .int .i64 0, .int .i64 0]) 4 32 und_keys hi hz0 hz1 hz2 rfl (by decide) _ ks.length (flatK ks) (by simp [Act.eval]) HO4.out ⟨W3.heap.size, 0, none⟩ 1 1 [.int .i64 kd, .int .i32 rr, .int .i64 nn, .int .i64 hh] (by simp [Act.eval]) rfl hnk (by intro u hu; simp at hu; rcases hu with rfl | rfl | rfl | rfl <;> rfl) (by unfold maxLen; omega) (by omega) HK4.out.size ?_; intro v3 W5 hown3 hgrow)
        go_wp2_with fail
        go_roundg (t.size - z)
        case measure => omega
        case rel =>
          refine ⟨t.extract z t.size, ks ++ [⟨kd, rr, nn, hh⟩], rfl, ?_, ?_, ?_, HK4.out.grown hgrow HK4.out.size (fun q hq => hfrom q hq), ?_⟩
          · rw [ByteArray.size_extract]; omega
          · rw [ByteArray.size_extract, List.length_append, List.length_singleton]; omega
          · unfold OwnK
            rw [List.length_append, List.length_singleton, flatK_snoc]
            exact hown3
          · rw [HQ2.out, ext_drop]
end Kys
end Go.Proofs.YtplceodnllcimaaDoor

/- The walk of the law KeysRead. -/
namespace Go.Proofs.YtplceodnllcimaaDoor
open Go.ChangeShapes Go.WideShapes Go.ChangeAt Go.RowKit
namespace Kys
open Txt (wd bs dec)
set_option maxHeartbeats 4000000 in
set_option maxRecDepth 100000 in
theorem readlaw_many (s : ByteArray) (last : Bool) (w : World) (hE : Env w) (hs : 4000 < s.size) : Calls Tryd.prog 3 #[.string s, .bool last] w fun e w' => e = .returned (.bool true) ∧ Below w.heap.size w w' := by
  have HRd := read_many s last hs w
  have HEV : Hid (∀ W, Below w.heap.size w W → Env W) := fun W h => hE.below h
  have hbig : (4000 : Int) < (s.size : Int) := by omega
  clear hE hs
  go_enter Tryd.func3, Tryd.ntmps3
  go_wp2_with fail
  refine HRd.mono ?_
  rintro e W1 ⟨rfl, b1⟩
  have HS1 := struck_any W1 (HEV.out W1 b1)
  clear HRd
  go_wp2_with fail
  refine HS1.mono ?_
  rintro e W2 ⟨rfl, b2⟩
  have k2 := b1.trans (b2.mono b1.size)
  have HS2 := struck_any W2 (HEV.out W2 k2)
  clear HS1
  go_wp2_with fail
  refine HS2.mono ?_
  rintro e W3 ⟨rfl, b3⟩
  go_wp2_with fail
  go_ret
  exact ⟨rfl, k2.trans (b3.mono k2.size)⟩
set_option maxHeartbeats 4000000 in
set_option maxRecDepth 100000 in
theorem readlaw_few (s : ByteArray) (last : Bool) (w : World) (hE : EnvR w) (hs : s.size ≤ 4000) : Calls Tryd.prog 3 #[.string s, .bool last] w fun e w' => e = .returned (.bool true) ∧ Below w.heap.size w w' := by
  have HR1 := read_any s last hs w hE.env
  have HR2 := fun W (h : EnvR W) => readR_any s last hs W h
  have HEV : Hid (∀ W, Below w.heap.size w W → EnvR W) := fun W h => hE.below h
  have htot := rd_len s.data.toList.length s.data.toList last (Nat.le_refl _)
  rw [size_l] at htot
  obtain ⟨K2, L2, h2⟩ : ∃ K2 L2, rd s.data.toList last = (K2, L2) := ⟨_, _, rfl⟩
  rw [h2] at HR1 HR2 htot
  simp only at HR1 HR2 htot
  have hk : K2.length ≤ 100000 := by omega
  have hsm : ¬ (4000 : Int) < (s.size : Int) := by omega
  have heq : ((bs L2).toList == (bs L2).toList) = true := by simp
  clear h2 htot hE hs
  go_enter Tryd.func3, Tryd.ntmps3
  go_wp2_with fail
  refine HR1.mono ?_
  rintro e W1 ⟨v1, rfl, o1, b1⟩
  have HS := struck_any W1 (HEV.out W1 b1).env
  clear HR1
  go_wp2_with fail
  refine HS.mono ?_
  rintro e W2 ⟨rfl, b2⟩
  have s1 : KSl W2 v1 K2 := (OwnK.sl o1).below b2
  have k2 := b1.trans (b2.mono b1.size)
  have HR2 := HR2 W2 (HEV.out W2 k2)
  clear HS b1 b2 o1
  go_wp2_with fail
  refine HR2.mono ?_
  rintro e W3 ⟨v2, rfl, o2, b3⟩
  have k3 := k2.trans (b3.mono k2.size)
  have HEq := equal_any v1 v2 K2 W3 (s1.below b3) (OwnK.sl o2) (by omega)
  clear HR2 o2 b3 s1 k2
  go_wp2_with fail
  refine HEq.mono ?_
  rintro e W4 ⟨rfl, b4⟩
  have k4 := k3.trans (b4.mono k3.size)
  clear HEq
  go_wp2_with fail
  go_ret
  exact ⟨rfl, k4⟩
theorem keysRead_walk (s : ByteArray) (last : Bool) (w : World) (hE : EnvR w) : Calls Tryd.prog 3 #[.string s, .bool last] w fun e w' => e = .returned (.bool true) ∧ Below w.heap.size w w' := by
  by_cases hs : s.size ≤ 4000
  · exact readlaw_few s last w hE hs
  · exact readlaw_many s last w hE.env (by omega)
end Kys
end Go.Proofs.YtplceodnllcimaaDoor
