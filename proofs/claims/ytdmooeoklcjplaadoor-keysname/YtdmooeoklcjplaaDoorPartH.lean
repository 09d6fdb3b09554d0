/- Package keys: Check. (Written by gen_keyschk.py.) -/
import Derived.Test.YtdmooeoklcjplaaDoorPartD
import Derived.Test.YtdmooeoklcjplaaDoorShelf
import Derived.Test.YtdmooeoklcjplaaDoorPartF
import Derived.Lib.QuietBelow
import Derived.BigQuiet
import Derived.Test.YtdmooeoklcjplaaDoorPartG
namespace Go.Proofs.YtdmooeoklcjplaaDoor
open Go.ChangeShapes Go.WideShapes Go.ChangeAt Go.RowKit
namespace Kys
open Txt (wd)
theorem checkRune_any (k : Ky) (w : World) (hT : Txt.Tab w) (h0 : 0 ≤ k.held) (h7 : k.held ≤ 7) :
    Calls Tryd.prog 22 #[kyv k] w fun e w' => e = .returned (.bool (chkR k)) ∧ Below w.heap.size w w' := by
  obtain ⟨kind, r, n, held⟩ := k
  simp only at h0 h7
  obtain ⟨j, hj, rfl⟩ := held_cases (h := held) h0 h7
  have : j = 0 ∨ j = 1 ∨ j = 2 ∨ j = 3 ∨ j = 4 ∨ j = 5 ∨ j = 6 ∨ j = 7 := by omega
  rcases this with rfl | rfl | rfl | rfl | rfl | rfl | rfl | rfl
  · exact checkRune_0 kind r n w hT
  · exact checkRune_1 kind r n w hT
  · exact checkRune_2 kind r n w hT
  · exact checkRune_3 kind r n w hT
  · exact checkRune_4 kind r n w hT
  · exact checkRune_5 kind r n w hT
  · exact checkRune_6 kind r n w hT
  · exact checkRune_7 kind r n w hT
theorem andNot_two (h : Int) (h0 : 0 ≤ h) (h7 : h ≤ 7) : (bits BinOp.andNot IntKind.i64 h 2 == 0) = decide (h = 0 ∨ h = 2) := by
  obtain ⟨j, hj, rfl⟩ := held_cases (h := h) h0 h7
  have : j = 0 ∨ j = 1 ∨ j = 2 ∨ j = 3 ∨ j = 4 ∨ j = 5 ∨ j = 6 ∨ j = 7 := by omega
  rcases this with rfl | rfl | rfl | rfl | rfl | rfl | rfl | rfl <;> decide +kernel
theorem andNot_one (h : Int) (h0 : 0 ≤ h) (h7 : h ≤ 7) : (bits BinOp.andNot IntKind.i64 h 1 == 0) = decide (h = 0 ∨ h = 1) := by
  obtain ⟨j, hj, rfl⟩ := held_cases (h := h) h0 h7
  have : j = 0 ∨ j = 1 ∨ j = 2 ∨ j = 3 ∨ j = 4 ∨ j = 5 ∨ j = 6 ∨ j = 7 := by omega
  rcases this with rfl | rfl | rfl | rfl | rfl | rfl | rfl | rfl <;> decide +kernel
set_option maxHeartbeats 4000000 in
set_option maxRecDepth 100000 in
theorem check_rk (kind r n held : Int) (w : World) (h0 : 0 ≤ held) (h7 : held ≤ 7) (hr : ¬ r = 0) (hk : ¬ kind = 1) :
    Calls Tryd.prog 9 #[kyv ⟨kind, r, n, held⟩] w fun e w' => e = .returned (.bool (chk ⟨kind, r, n, held⟩)) ∧ Below w.heap.size w w' := by
  have g0 : ¬ held < 0 := Int.not_lt.2 h0
  have g7 : ¬ 7 < held := Int.not_lt.2 h7
  have e : chk ⟨kind, r, n, held⟩ = false := by unfold chk; rw [if_pos (by simp only; omega)]
  rw [e]
  clear e
  have xhr : (r == 0) = false := by rw [beq_eq_false_iff_ne]; exact hr
  have yhr : (r != 0) = true := by rw [bne_iff_ne]; exact hr
  have xhk : (kind == 1) = false := by rw [beq_eq_false_iff_ne]; exact hk
  have yhk : (kind != 1) = true := by rw [bne_iff_ne]; exact hk
  unfold kyv
  go_enter Tryd.func9, Tryd.ntmps9
  go_wp2_with fail
  all_goals go_ret
  all_goals exact ⟨rfl, (Below.refl _ _).alloc (Nat.le_refl _) _⟩
set_option maxHeartbeats 4000000 in
set_option maxRecDepth 100000 in
theorem check_rn (r n held : Int) (w : World) (h0 : 0 ≤ held) (h7 : held ≤ 7) (hr : ¬ r = 0) (hn : ¬ n = 0) :
    Calls Tryd.prog 9 #[kyv ⟨1, r, n, held⟩] w fun e w' => e = .returned (.bool (chk ⟨1, r, n, held⟩)) ∧ Below w.heap.size w w' := by
  have g0 : ¬ held < 0 := Int.not_lt.2 h0
  have g7 : ¬ 7 < held := Int.not_lt.2 h7
  have e : chk ⟨1, r, n, held⟩ = false := by unfold chk; rw [if_pos (by simp only; omega)]
  rw [e]
  clear e
  have xhr : (r == 0) = false := by rw [beq_eq_false_iff_ne]; exact hr
  have yhr : (r != 0) = true := by rw [bne_iff_ne]; exact hr
  have xhn : (n == 0) = false := by rw [beq_eq_false_iff_ne]; exact hn
  have yhn : (n != 0) = true := by rw [bne_iff_ne]; exact hn
  unfold kyv
  go_enter Tryd.func9, Tryd.ntmps9
  go_wp2_with fail
  all_goals go_ret
  all_goals exact ⟨rfl, (Below.refl _ _).alloc (Nat.le_refl _) _⟩
set_option maxHeartbeats 4000000 in
set_option maxRecDepth 100000 in
theorem check_rr (r held : Int) (w : World) (h0 : 0 ≤ held) (h7 : held ≤ 7) (hr : ¬ r = 0) (hT : Txt.Tab w) :
    Calls Tryd.prog 9 #[kyv ⟨1, r, 0, held⟩] w fun e w' => e = .returned (.bool (chk ⟨1, r, 0, held⟩)) ∧ Below w.heap.size w w' := by
  have g0 : ¬ held < 0 := Int.not_lt.2 h0
  have g7 : ¬ 7 < held := Int.not_lt.2 h7
  have xhr : (r == 0) = false := by rw [beq_eq_false_iff_ne]; exact hr
  have yhr : (r != 0) = true := by rw [bne_iff_ne]; exact hr
  have kb : Below w.heap.size w (w.alloc (.cells #[.int .i64 1, .int .i32 r, .int .i64 0, .int .i64 held] 23)) := (Below.refl _ _).alloc (Nat.le_refl _) _
  have HW := checkRune_any ⟨1, r, 0, held⟩ _ (Tab.alloc hT (.cells #[.int .i64 1, .int .i32 r, .int .i64 0, .int .i64 held] 23)) h0 h7
  have e : chk ⟨1, r, 0, held⟩ = chkR ⟨1, r, 0, held⟩ := by unfold chk; rw [if_neg (by simp only; omega), if_pos rfl]
  rw [e]
  clear e hT
  generalize chkR ⟨1, r, 0, held⟩ = d at *
  unfold kyv at HW ⊢
  go_enter Tryd.func9, Tryd.ntmps9
  go_wp2_with (go_at_call 22; refine HW.mono ?_; rintro e W1 ⟨rfl, b1⟩; replace kb := kb.trans (b1.mono kb.size))
  go_ret
  exact ⟨rfl, kb⟩
set_option maxHeartbeats 4000000 in
set_option maxRecDepth 100000 in
theorem check_nk (kind n held : Int) (w : World) (h0 : 0 ≤ held) (h7 : held ≤ 7) (hn : ¬ n = 0) (hk : ¬ kind = 15) :
    Calls Tryd.prog 9 #[kyv ⟨kind, 0, n, held⟩] w fun e w' => e = .returned (.bool (chk ⟨kind, 0, n, held⟩)) ∧ Below w.heap.size w w' := by
  have g0 : ¬ held < 0 := Int.not_lt.2 h0
  have g7 : ¬ 7 < held := Int.not_lt.2 h7
  have e : chk ⟨kind, 0, n, held⟩ = false := by unfold chk; rw [if_pos (by simp only; omega)]
  rw [e]
  clear e
  have xhn : (n == 0) = false := by rw [beq_eq_false_iff_ne]; exact hn
  have yhn : (n != 0) = true := by rw [bne_iff_ne]; exact hn
  have xhk : (kind == 15) = false := by rw [beq_eq_false_iff_ne]; exact hk
  have yhk : (kind != 15) = true := by rw [bne_iff_ne]; exact hk
  unfold kyv
  go_enter Tryd.func9, Tryd.ntmps9
  go_wp2_with fail
  all_goals go_ret
  all_goals exact ⟨rfl, (Below.refl _ _).alloc (Nat.le_refl _) _⟩
set_option maxHeartbeats 4000000 in
set_option maxRecDepth 100000 in
theorem check_f0 (n held : Int) (w : World) (h0 : 0 ≤ held) (h7 : held ≤ 7) (hn : ¬ n = 0) (h1 : ¬ 1 ≤ n) :
    Calls Tryd.prog 9 #[kyv ⟨15, 0, n, held⟩] w fun e w' => e = .returned (.bool (chk ⟨15, 0, n, held⟩)) ∧ Below w.heap.size w w' := by
  have g0 : ¬ held < 0 := Int.not_lt.2 h0
  have g7 : ¬ 7 < held := Int.not_lt.2 h7
  have e : chk ⟨15, 0, n, held⟩ = false := by unfold chk; rw [if_neg (by simp only; omega), if_neg (by simp), if_neg (by simp), if_neg (by simp), if_neg (by simp), if_pos rfl]; exact decide_eq_false (by simp only; omega)
  rw [e]
  clear e
  have xhn : (n == 0) = false := by rw [beq_eq_false_iff_ne]; exact hn
  have yhn : (n != 0) = true := by rw [bne_iff_ne]; exact hn
  unfold kyv
  go_enter Tryd.func9, Tryd.ntmps9
  go_wp2_with fail
  all_goals go_ret
  all_goals exact ⟨rfl, (Below.refl _ _).alloc (Nat.le_refl _) _⟩
set_option maxHeartbeats 4000000 in
set_option maxRecDepth 100000 in
theorem check_f1 (n held : Int) (w : World) (h0 : 0 ≤ held) (h7 : held ≤ 7) (hn : ¬ n = 0) (h1 : 1 ≤ n) (h2 : n ≤ 12) :
    Calls Tryd.prog 9 #[kyv ⟨15, 0, n, held⟩] w fun e w' => e = .returned (.bool (chk ⟨15, 0, n, held⟩)) ∧ Below w.heap.size w w' := by
  have g0 : ¬ held < 0 := Int.not_lt.2 h0
  have g7 : ¬ 7 < held := Int.not_lt.2 h7
  have e : chk ⟨15, 0, n, held⟩ = true := by unfold chk; rw [if_neg (by simp only; omega), if_neg (by simp), if_neg (by simp), if_neg (by simp), if_neg (by simp), if_pos rfl]; exact decide_eq_true (by simp only; omega)
  rw [e]
  clear e
  have xhn : (n == 0) = false := by rw [beq_eq_false_iff_ne]; exact hn
  have yhn : (n != 0) = true := by rw [bne_iff_ne]; exact hn
  unfold kyv
  go_enter Tryd.func9, Tryd.ntmps9
  go_wp2_with fail
  all_goals go_ret
  all_goals exact ⟨rfl, (Below.refl _ _).alloc (Nat.le_refl _) _⟩
set_option maxHeartbeats 4000000 in
set_option maxRecDepth 100000 in
theorem check_f2 (n held : Int) (w : World) (h0 : 0 ≤ held) (h7 : held ≤ 7) (hn : ¬ n = 0) (h1 : 1 ≤ n) (h2 : ¬ n ≤ 12) :
    Calls Tryd.prog 9 #[kyv ⟨15, 0, n, held⟩] w fun e w' => e = .returned (.bool (chk ⟨15, 0, n, held⟩)) ∧ Below w.heap.size w w' := by
  have g0 : ¬ held < 0 := Int.not_lt.2 h0
  have g7 : ¬ 7 < held := Int.not_lt.2 h7
  have e : chk ⟨15, 0, n, held⟩ = false := by unfold chk; rw [if_neg (by simp only; omega), if_neg (by simp), if_neg (by simp), if_neg (by simp), if_neg (by simp), if_pos rfl]; exact decide_eq_false (by simp only; omega)
  rw [e]
  clear e
  have xhn : (n == 0) = false := by rw [beq_eq_false_iff_ne]; exact hn
  have yhn : (n != 0) = true := by rw [bne_iff_ne]; exact hn
  unfold kyv
  go_enter Tryd.func9, Tryd.ntmps9
  go_wp2_with fail
  all_goals go_ret
  all_goals exact ⟨rfl, (Below.refl _ _).alloc (Nat.le_refl _) _⟩
set_option maxHeartbeats 4000000 in
set_option maxRecDepth 100000 in
theorem check_fz (held : Int) (w : World) (h0 : 0 ≤ held) (h7 : held ≤ 7) :
    Calls Tryd.prog 9 #[kyv ⟨15, 0, 0, held⟩] w fun e w' => e = .returned (.bool (chk ⟨15, 0, 0, held⟩)) ∧ Below w.heap.size w w' := by
  have g0 : ¬ held < 0 := Int.not_lt.2 h0
  have g7 : ¬ 7 < held := Int.not_lt.2 h7
  have e : chk ⟨15, 0, 0, held⟩ = false := by unfold chk; rw [if_neg (by simp only; omega), if_neg (by simp), if_neg (by simp), if_neg (by simp), if_neg (by simp), if_pos rfl]; rfl
  rw [e]
  clear e
  unfold kyv
  go_enter Tryd.func9, Tryd.ntmps9
  go_wp2_with fail
  all_goals go_ret
  all_goals exact ⟨rfl, (Below.refl _ _).alloc (Nat.le_refl _) _⟩
set_option maxHeartbeats 4000000 in
set_option maxRecDepth 100000 in
theorem check_r0 (held : Int) (w : World) (h0 : 0 ≤ held) (h7 : held ≤ 7) (hT : Txt.Tab w) :
    Calls Tryd.prog 9 #[kyv ⟨1, 0, 0, held⟩] w fun e w' => e = .returned (.bool (chk ⟨1, 0, 0, held⟩)) ∧ Below w.heap.size w w' := by
  have g0 : ¬ held < 0 := Int.not_lt.2 h0
  have g7 : ¬ 7 < held := Int.not_lt.2 h7
  have kb : Below w.heap.size w (w.alloc (.cells #[.int .i64 1, .int .i32 0, .int .i64 0, .int .i64 held] 23)) := (Below.refl _ _).alloc (Nat.le_refl _) _
  have HW := checkRune_any ⟨1, 0, 0, held⟩ _ (Tab.alloc hT (.cells #[.int .i64 1, .int .i32 0, .int .i64 0, .int .i64 held] 23)) h0 h7
  have e : chk ⟨1, 0, 0, held⟩ = chkR ⟨1, 0, 0, held⟩ := by unfold chk; rw [if_neg (by simp only; omega), if_pos rfl]
  rw [e]
  clear e hT
  generalize chkR ⟨1, 0, 0, held⟩ = d at *
  unfold kyv at HW ⊢
  go_enter Tryd.func9, Tryd.ntmps9
  go_wp2_with (go_at_call 22; refine HW.mono ?_; rintro e W1 ⟨rfl, b1⟩; replace kb := kb.trans (b1.mono kb.size))
  go_ret
  exact ⟨rfl, kb⟩
set_option maxHeartbeats 4000000 in
set_option maxRecDepth 100000 in
theorem check_k2y (held : Int) (w : World) (h0 : 0 ≤ held) (h7 : held ≤ 7) (hc : (held = 0 ∨ held = 2)) :
    Calls Tryd.prog 9 #[kyv ⟨2, 0, 0, held⟩] w fun e w' => e = .returned (.bool (chk ⟨2, 0, 0, held⟩)) ∧ Below w.heap.size w w' := by
  have g0 : ¬ held < 0 := Int.not_lt.2 h0
  have g7 : ¬ 7 < held := Int.not_lt.2 h7
  have e : chk ⟨2, 0, 0, held⟩ = true := by unfold chk; rw [if_neg (by simp only; omega), if_neg (by simp), if_pos (by simp)]; exact decide_eq_true hc
  rw [e]
  clear e
  have hb : (bits BinOp.andNot IntKind.i64 held 2 == 0) = true := by rw [andNot_two held h0 h7]; exact decide_eq_true hc
  unfold kyv
  go_enter Tryd.func9, Tryd.ntmps9
  go_wp2_with fail
  all_goals go_ret
  all_goals exact ⟨rfl, (Below.refl _ _).alloc (Nat.le_refl _) _⟩
set_option maxHeartbeats 4000000 in
set_option maxRecDepth 100000 in
theorem check_k2n (held : Int) (w : World) (h0 : 0 ≤ held) (h7 : held ≤ 7) (hc : ¬ (held = 0 ∨ held = 2)) :
    Calls Tryd.prog 9 #[kyv ⟨2, 0, 0, held⟩] w fun e w' => e = .returned (.bool (chk ⟨2, 0, 0, held⟩)) ∧ Below w.heap.size w w' := by
  have g0 : ¬ held < 0 := Int.not_lt.2 h0
  have g7 : ¬ 7 < held := Int.not_lt.2 h7
  have e : chk ⟨2, 0, 0, held⟩ = false := by unfold chk; rw [if_neg (by simp only; omega), if_neg (by simp), if_pos (by simp)]; exact decide_eq_false hc
  rw [e]
  clear e
  have hb : (bits BinOp.andNot IntKind.i64 held 2 == 0) = false := by rw [andNot_two held h0 h7]; exact decide_eq_false hc
  unfold kyv
  go_enter Tryd.func9, Tryd.ntmps9
  go_wp2_with fail
  all_goals go_ret
  all_goals exact ⟨rfl, (Below.refl _ _).alloc (Nat.le_refl _) _⟩
set_option maxHeartbeats 4000000 in
set_option maxRecDepth 100000 in
theorem check_k4y (held : Int) (w : World) (h0 : 0 ≤ held) (h7 : held ≤ 7) (hc : (held = 0 ∨ held = 2)) :
    Calls Tryd.prog 9 #[kyv ⟨4, 0, 0, held⟩] w fun e w' => e = .returned (.bool (chk ⟨4, 0, 0, held⟩)) ∧ Below w.heap.size w w' := by
  have g0 : ¬ held < 0 := Int.not_lt.2 h0
  have g7 : ¬ 7 < held := Int.not_lt.2 h7
  have e : chk ⟨4, 0, 0, held⟩ = true := by unfold chk; rw [if_neg (by simp only; omega), if_neg (by simp), if_pos (by simp)]; exact decide_eq_true hc
  rw [e]
  clear e
  have hb : (bits BinOp.andNot IntKind.i64 held 2 == 0) = true := by rw [andNot_two held h0 h7]; exact decide_eq_true hc
  unfold kyv
  go_enter Tryd.func9, Tryd.ntmps9
  go_wp2_with fail
  all_goals go_ret
  all_goals exact ⟨rfl, (Below.refl _ _).alloc (Nat.le_refl _) _⟩
set_option maxHeartbeats 4000000 in
set_option maxRecDepth 100000 in
theorem check_k4n (held : Int) (w : World) (h0 : 0 ≤ held) (h7 : held ≤ 7) (hc : ¬ (held = 0 ∨ held = 2)) :
    Calls Tryd.prog 9 #[kyv ⟨4, 0, 0, held⟩] w fun e w' => e = .returned (.bool (chk ⟨4, 0, 0, held⟩)) ∧ Below w.heap.size w w' := by
  have g0 : ¬ held < 0 := Int.not_lt.2 h0
  have g7 : ¬ 7 < held := Int.not_lt.2 h7
  have e : chk ⟨4, 0, 0, held⟩ = false := by unfold chk; rw [if_neg (by simp only; omega), if_neg (by simp), if_pos (by simp)]; exact decide_eq_false hc
  rw [e]
  clear e
  have hb : (bits BinOp.andNot IntKind.i64 held 2 == 0) = false := by rw [andNot_two held h0 h7]; exact decide_eq_false hc
  unfold kyv
  go_enter Tryd.func9, Tryd.ntmps9
  go_wp2_with fail
  all_goals go_ret
  all_goals exact ⟨rfl, (Below.refl _ _).alloc (Nat.le_refl _) _⟩
set_option maxHeartbeats 4000000 in
set_option maxRecDepth 100000 in
theorem check_k3y (held : Int) (w : World) (h0 : 0 ≤ held) (h7 : held ≤ 7) (hc : (held = 0 ∨ held = 1)) :
    Calls Tryd.prog 9 #[kyv ⟨3, 0, 0, held⟩] w fun e w' => e = .returned (.bool (chk ⟨3, 0, 0, held⟩)) ∧ Below w.heap.size w w' := by
  have g0 : ¬ held < 0 := Int.not_lt.2 h0
  have g7 : ¬ 7 < held := Int.not_lt.2 h7
  have e : chk ⟨3, 0, 0, held⟩ = true := by unfold chk; rw [if_neg (by simp only; omega), if_neg (by simp), if_neg (by simp), if_pos rfl]; exact decide_eq_true hc
  rw [e]
  clear e
  have hb : (bits BinOp.andNot IntKind.i64 held 1 == 0) = true := by rw [andNot_one held h0 h7]; exact decide_eq_true hc
  unfold kyv
  go_enter Tryd.func9, Tryd.ntmps9
  go_wp2_with fail
  all_goals go_ret
  all_goals exact ⟨rfl, (Below.refl _ _).alloc (Nat.le_refl _) _⟩
set_option maxHeartbeats 4000000 in
set_option maxRecDepth 100000 in
theorem check_k3n (held : Int) (w : World) (h0 : 0 ≤ held) (h7 : held ≤ 7) (hc : ¬ (held = 0 ∨ held = 1)) :
    Calls Tryd.prog 9 #[kyv ⟨3, 0, 0, held⟩] w fun e w' => e = .returned (.bool (chk ⟨3, 0, 0, held⟩)) ∧ Below w.heap.size w w' := by
  have g0 : ¬ held < 0 := Int.not_lt.2 h0
  have g7 : ¬ 7 < held := Int.not_lt.2 h7
  have e : chk ⟨3, 0, 0, held⟩ = false := by unfold chk; rw [if_neg (by simp only; omega), if_neg (by simp), if_neg (by simp), if_pos rfl]; exact decide_eq_false hc
  rw [e]
  clear e
  have hb : (bits BinOp.andNot IntKind.i64 held 1 == 0) = false := by rw [andNot_one held h0 h7]; exact decide_eq_false hc
  unfold kyv
  go_enter Tryd.func9, Tryd.ntmps9
  go_wp2_with fail
  all_goals go_ret
  all_goals exact ⟨rfl, (Below.refl _ _).alloc (Nat.le_refl _) _⟩
set_option maxHeartbeats 4000000 in
set_option maxRecDepth 100000 in
theorem check_k5y (held : Int) (w : World) (h0 : 0 ≤ held) (h7 : held ≤ 7) (hc : held = 0) :
    Calls Tryd.prog 9 #[kyv ⟨5, 0, 0, held⟩] w fun e w' => e = .returned (.bool (chk ⟨5, 0, 0, held⟩)) ∧ Below w.heap.size w w' := by
  have g0 : ¬ held < 0 := Int.not_lt.2 h0
  have g7 : ¬ 7 < held := Int.not_lt.2 h7
  have e : chk ⟨5, 0, 0, held⟩ = true := by unfold chk; rw [if_neg (by simp only; omega), if_neg (by simp), if_neg (by simp), if_neg (by simp), if_pos rfl]; exact decide_eq_true hc
  rw [e]
  clear e
  unfold kyv
  go_enter Tryd.func9, Tryd.ntmps9
  go_wp2_with fail
  all_goals go_ret
  all_goals exact ⟨rfl, (Below.refl _ _).alloc (Nat.le_refl _) _⟩
set_option maxHeartbeats 4000000 in
set_option maxRecDepth 100000 in
theorem check_k5n (held : Int) (w : World) (h0 : 0 ≤ held) (h7 : held ≤ 7) (hc : ¬ held = 0) :
    Calls Tryd.prog 9 #[kyv ⟨5, 0, 0, held⟩] w fun e w' => e = .returned (.bool (chk ⟨5, 0, 0, held⟩)) ∧ Below w.heap.size w w' := by
  have g0 : ¬ held < 0 := Int.not_lt.2 h0
  have g7 : ¬ 7 < held := Int.not_lt.2 h7
  have e : chk ⟨5, 0, 0, held⟩ = false := by unfold chk; rw [if_neg (by simp only; omega), if_neg (by simp), if_neg (by simp), if_neg (by simp), if_pos rfl]; exact decide_eq_false hc
  rw [e]
  clear e
  have xhc : (held == 0) = false := by rw [beq_eq_false_iff_ne]; exact hc
  have yhc : (held != 0) = true := by rw [bne_iff_ne]; exact hc
  unfold kyv
  go_enter Tryd.func9, Tryd.ntmps9
  go_wp2_with fail
  all_goals go_ret
  all_goals exact ⟨rfl, (Below.refl _ _).alloc (Nat.le_refl _) _⟩
set_option maxHeartbeats 4000000 in
set_option maxRecDepth 100000 in
theorem check_o0 (kind held : Int) (w : World) (h0 : 0 ≤ held) (h7 : held ≤ 7) (a1 : ¬ kind = 1) (a2 : ¬ kind = 2) (a4 : ¬ kind = 4) (a3 : ¬ kind = 3) (a5 : ¬ kind = 5) (a15 : ¬ kind = 15) (h1 : ¬ 6 ≤ kind) :
    Calls Tryd.prog 9 #[kyv ⟨kind, 0, 0, held⟩] w fun e w' => e = .returned (.bool (chk ⟨kind, 0, 0, held⟩)) ∧ Below w.heap.size w w' := by
  have g0 : ¬ held < 0 := Int.not_lt.2 h0
  have g7 : ¬ 7 < held := Int.not_lt.2 h7
  have e : chk ⟨kind, 0, 0, held⟩ = false := by unfold chk; rw [if_neg (by simp only; omega), if_neg (by simp only; omega), if_neg (by simp only; omega), if_neg (by simp only; omega), if_neg (by simp only; omega), if_neg (by simp only; omega)]; exact decide_eq_false (by simp only; omega)
  rw [e]
  clear e
  have xa1 : (kind == 1) = false := by rw [beq_eq_false_iff_ne]; exact a1
  have ya1 : (kind != 1) = true := by rw [bne_iff_ne]; exact a1
  have xa2 : (kind == 2) = false := by rw [beq_eq_false_iff_ne]; exact a2
  have ya2 : (kind != 2) = true := by rw [bne_iff_ne]; exact a2
  have xa4 : (kind == 4) = false := by rw [beq_eq_false_iff_ne]; exact a4
  have ya4 : (kind != 4) = true := by rw [bne_iff_ne]; exact a4
  have xa3 : (kind == 3) = false := by rw [beq_eq_false_iff_ne]; exact a3
  have ya3 : (kind != 3) = true := by rw [bne_iff_ne]; exact a3
  have xa5 : (kind == 5) = false := by rw [beq_eq_false_iff_ne]; exact a5
  have ya5 : (kind != 5) = true := by rw [bne_iff_ne]; exact a5
  have xa15 : (kind == 15) = false := by rw [beq_eq_false_iff_ne]; exact a15
  have ya15 : (kind != 15) = true := by rw [bne_iff_ne]; exact a15
  unfold kyv
  go_enter Tryd.func9, Tryd.ntmps9
  go_wp2_with fail
  all_goals go_ret
  all_goals exact ⟨rfl, (Below.refl _ _).alloc (Nat.le_refl _) _⟩
set_option maxHeartbeats 4000000 in
set_option maxRecDepth 100000 in
theorem check_o1 (kind held : Int) (w : World) (h0 : 0 ≤ held) (h7 : held ≤ 7) (a1 : ¬ kind = 1) (a2 : ¬ kind = 2) (a4 : ¬ kind = 4) (a3 : ¬ kind = 3) (a5 : ¬ kind = 5) (a15 : ¬ kind = 15) (h1 : 6 ≤ kind) (h2 : kind ≤ 14) :
    Calls Tryd.prog 9 #[kyv ⟨kind, 0, 0, held⟩] w fun e w' => e = .returned (.bool (chk ⟨kind, 0, 0, held⟩)) ∧ Below w.heap.size w w' := by
  have g0 : ¬ held < 0 := Int.not_lt.2 h0
  have g7 : ¬ 7 < held := Int.not_lt.2 h7
  have e : chk ⟨kind, 0, 0, held⟩ = true := by unfold chk; rw [if_neg (by simp only; omega), if_neg (by simp only; omega), if_neg (by simp only; omega), if_neg (by simp only; omega), if_neg (by simp only; omega), if_neg (by simp only; omega)]; exact decide_eq_true (by simp only; omega)
  rw [e]
  clear e
  have xa1 : (kind == 1) = false := by rw [beq_eq_false_iff_ne]; exact a1
  have ya1 : (kind != 1) = true := by rw [bne_iff_ne]; exact a1
  have xa2 : (kind == 2) = false := by rw [beq_eq_false_iff_ne]; exact a2
  have ya2 : (kind != 2) = true := by rw [bne_iff_ne]; exact a2
  have xa4 : (kind == 4) = false := by rw [beq_eq_false_iff_ne]; exact a4
  have ya4 : (kind != 4) = true := by rw [bne_iff_ne]; exact a4
  have xa3 : (kind == 3) = false := by rw [beq_eq_false_iff_ne]; exact a3
  have ya3 : (kind != 3) = true := by rw [bne_iff_ne]; exact a3
  have xa5 : (kind == 5) = false := by rw [beq_eq_false_iff_ne]; exact a5
  have ya5 : (kind != 5) = true := by rw [bne_iff_ne]; exact a5
  have xa15 : (kind == 15) = false := by rw [beq_eq_false_iff_ne]; exact a15
  have ya15 : (kind != 15) = true := by rw [bne_iff_ne]; exact a15
  unfold kyv
  go_enter Tryd.func9, Tryd.ntmps9
  go_wp2_with fail
  all_goals go_ret
  all_goals exact ⟨rfl, (Below.refl _ _).alloc (Nat.le_refl _) _⟩
set_option maxHeartbeats 4000000 in
set_option maxRecDepth 100000 in
theorem check_o2 (kind held : Int) (w : World) (h0 : 0 ≤ held) (h7 : held ≤ 7) (a1 : ¬ kind = 1) (a2 : ¬ kind = 2) (a4 : ¬ kind = 4) (a3 : ¬ kind = 3) (a5 : ¬ kind = 5) (a15 : ¬ kind = 15) (h1 : 6 ≤ kind) (h2 : ¬ kind ≤ 14) :
    Calls Tryd.prog 9 #[kyv ⟨kind, 0, 0, held⟩] w fun e w' => e = .returned (.bool (chk ⟨kind, 0, 0, held⟩)) ∧ Below w.heap.size w w' := by
  have g0 : ¬ held < 0 := Int.not_lt.2 h0
  have g7 : ¬ 7 < held := Int.not_lt.2 h7
  have e : chk ⟨kind, 0, 0, held⟩ = false := by unfold chk; rw [if_neg (by simp only; omega), if_neg (by simp only; omega), if_neg (by simp only; omega), if_neg (by simp only; omega), if_neg (by simp only; omega), if_neg (by simp only; omega)]; exact decide_eq_false (by simp only; omega)
  rw [e]
  clear e
  have xa1 : (kind == 1) = false := by rw [beq_eq_false_iff_ne]; exact a1
  have ya1 : (kind != 1) = true := by rw [bne_iff_ne]; exact a1
  have xa2 : (kind == 2) = false := by rw [beq_eq_false_iff_ne]; exact a2
  have ya2 : (kind != 2) = true := by rw [bne_iff_ne]; exact a2
  have xa4 : (kind == 4) = false := by rw [beq_eq_false_iff_ne]; exact a4
  have ya4 : (kind != 4) = true := by rw [bne_iff_ne]; exact a4
  have xa3 : (kind == 3) = false := by rw [beq_eq_false_iff_ne]; exact a3
  have ya3 : (kind != 3) = true := by rw [bne_iff_ne]; exact a3
  have xa5 : (kind == 5) = false := by rw [beq_eq_false_iff_ne]; exact a5
  have ya5 : (kind != 5) = true := by rw [bne_iff_ne]; exact a5
  have xa15 : (kind == 15) = false := by rw [beq_eq_false_iff_ne]; exact a15
  have ya15 : (kind != 15) = true := by rw [bne_iff_ne]; exact a15
  unfold kyv
  go_enter Tryd.func9, Tryd.ntmps9
  go_wp2_with fail
  all_goals go_ret
  all_goals exact ⟨rfl, (Below.refl _ _).alloc (Nat.le_refl _) _⟩
set_option maxHeartbeats 4000000 in
set_option maxRecDepth 100000 in
theorem check_lo (k : Ky) (w : World) (h : k.held < 0) :
    Calls Tryd.prog 9 #[kyv k] w fun e w' => e = .returned (.bool false) ∧ Below w.heap.size w w' := by
  unfold kyv
  go_enter Tryd.func9, Tryd.ntmps9
  go_wp2_with fail
  go_ret
  exact ⟨rfl, (Below.refl _ _).alloc (Nat.le_refl _) _⟩
set_option maxHeartbeats 4000000 in
set_option maxRecDepth 100000 in
theorem check_hi (k : Ky) (w : World) (h : 7 < k.held) :
    Calls Tryd.prog 9 #[kyv k] w fun e w' => e = .returned (.bool false) ∧ Below w.heap.size w w' := by
  unfold kyv
  have h' : ¬ k.held < 0 := by omega
  go_enter Tryd.func9, Tryd.ntmps9
  go_wp2_with fail
  go_ret
  exact ⟨rfl, (Below.refl _ _).alloc (Nat.le_refl _) _⟩
theorem check_any (k : Ky) (w : World) (hT : Txt.Tab w) :
    Calls Tryd.prog 9 #[kyv k] w fun e w' => e = .returned (.bool (chk k)) ∧ Below w.heap.size w w' := by
  by_cases hl : k.held < 0
  · rw [show chk k = false by unfold chk; rw [if_pos (by omega)]]
    exact check_lo k w hl
  · by_cases hh : 7 < k.held
    · rw [show chk k = false by unfold chk; rw [if_pos (by omega)]]
      exact check_hi k w hh
    · obtain ⟨kind, r, n, held⟩ := k
      simp only at hl hh
      have h0 : 0 ≤ held := by omega
      have h7 : held ≤ 7 := by omega
      by_cases hr : r = 0
      · subst hr
        by_cases hn : n = 0
        · subst hn
          by_cases a1 : kind = 1
          · subst a1; exact check_r0 held w h0 h7 hT
          by_cases a2 : kind = 2
          · subst a2
            by_cases hc : held = 0 ∨ held = 2
            · exact check_k2y held w h0 h7 hc
            · exact check_k2n held w h0 h7 hc
          by_cases a4 : kind = 4
          · subst a4
            by_cases hc : held = 0 ∨ held = 2
            · exact check_k4y held w h0 h7 hc
            · exact check_k4n held w h0 h7 hc
          by_cases a3 : kind = 3
          · subst a3
            by_cases hc : held = 0 ∨ held = 1
            · exact check_k3y held w h0 h7 hc
            · exact check_k3n held w h0 h7 hc
          by_cases a5 : kind = 5
          · subst a5
            by_cases hc : held = 0
            · exact check_k5y held w h0 h7 hc
            · exact check_k5n held w h0 h7 hc
          by_cases a15 : kind = 15
          · subst a15; exact check_fz held w h0 h7
          by_cases h1 : 6 ≤ kind
          · by_cases h2 : kind ≤ 14
            · exact check_o1 kind held w h0 h7 a1 a2 a4 a3 a5 a15 h1 h2
            · exact check_o2 kind held w h0 h7 a1 a2 a4 a3 a5 a15 h1 h2
          · exact check_o0 kind held w h0 h7 a1 a2 a4 a3 a5 a15 h1
        · by_cases hk : kind = 15
          · subst hk
            by_cases h1 : 1 ≤ n
            · by_cases h2 : n ≤ 12
              · exact check_f1 n held w h0 h7 hn h1 h2
              · exact check_f2 n held w h0 h7 hn h1 h2
            · exact check_f0 n held w h0 h7 hn h1
          · exact check_nk kind n held w h0 h7 hn hk
      · by_cases hk : kind = 1
        · subst hk
          by_cases hn : n = 0
          · subst hn; exact check_rr r held w h0 h7 hr hT
          · exact check_rn r n held w h0 h7 hr hn
        · exact check_rk kind r n held w h0 h7 hr hk
end Kys
end Go.Proofs.YtdmooeoklcjplaaDoor

/- Package keys: the writers of one kind each. -/

namespace Go.Proofs.YtdmooeoklcjplaaDoor
open Go.ChangeShapes Go.WideShapes Go.ChangeAt Go.RowKit
namespace Kys
open Txt (wd bs)
set_option maxHeartbeats 4000000 in
theorem altAhead_0 (kind r n : Int) (w : World) : Calls Tryd.prog 55 #[kyv ⟨kind, r, n, 0⟩] w fun e w' => e = .returned (.string ⟨#[]⟩) ∧ Below w.heap.size w w' := by
  have hb : bits BinOp.and IntKind.i64 0 2 = 0 := by kernel_rfl
  unfold kyv
  go_enter Tryd.func55, Tryd.ntmps55
  go_wp2_with fail
  go_ret
  exact ⟨rfl, (Below.refl _ _).alloc (Nat.le_refl _) _⟩
set_option maxHeartbeats 4000000 in
theorem altAhead_2 (kind r n : Int) (w : World) : Calls Tryd.prog 55 #[kyv ⟨kind, r, n, 2⟩] w fun e w' => e = .returned (.string ⟨#[27]⟩) ∧ Below w.heap.size w w' := by
  have hb : bits BinOp.and IntKind.i64 2 2 = 2 := by kernel_rfl
  unfold kyv
  go_enter Tryd.func55, Tryd.ntmps55
  go_wp2_with fail
  go_ret
  exact ⟨rfl, (Below.refl _ _).alloc (Nat.le_refl _) _⟩
set_option maxHeartbeats 4000000 in
theorem altAhead_4 (kind r n : Int) (w : World) : Calls Tryd.prog 55 #[kyv ⟨kind, r, n, 4⟩] w fun e w' => e = .returned (.string ⟨#[]⟩) ∧ Below w.heap.size w w' := by
  have hb : bits BinOp.and IntKind.i64 4 2 = 0 := by kernel_rfl
  unfold kyv
  go_enter Tryd.func55, Tryd.ntmps55
  go_wp2_with fail
  go_ret
  exact ⟨rfl, (Below.refl _ _).alloc (Nat.le_refl _) _⟩
set_option maxHeartbeats 4000000 in
theorem altAhead_6 (kind r n : Int) (w : World) : Calls Tryd.prog 55 #[kyv ⟨kind, r, n, 6⟩] w fun e w' => e = .returned (.string ⟨#[27]⟩) ∧ Below w.heap.size w w' := by
  have hb : bits BinOp.and IntKind.i64 6 2 = 2 := by kernel_rfl
  unfold kyv
  go_enter Tryd.func55, Tryd.ntmps55
  go_wp2_with fail
  go_ret
  exact ⟨rfl, (Below.refl _ _).alloc (Nat.le_refl _) _⟩
theorem altAhead_any (k : Ky) (h : k.held = 0 ∨ k.held = 2 ∨ k.held = 4 ∨ k.held = 6) (w : World) : Calls Tryd.prog 55 #[kyv k] w fun e w' => e = .returned (.string (bs (altA k.held))) ∧ Below w.heap.size w w' := by
  obtain ⟨kind, r, n, held⟩ := k
  simp only at h
  rcases h with rfl | rfl | rfl | rfl
  · exact altAhead_0 kind r n w
  · exact altAhead_2 kind r n w
  · exact altAhead_4 kind r n w
  · exact altAhead_6 kind r n w
theorem bs_size (l : List UInt8) : (bs l).size = l.length := by simp [bs, ByteArray.size]
set_option maxHeartbeats 4000000 in
theorem writeEnter_any (k : Ky) (kp : Bool) (h : k.held = 0 ∨ k.held = 2) (w : World) : Calls Tryd.prog 32 #[kyv k, .bool kp] w fun e w' => e = .returned (.string (bs (altA k.held ++ [13]))) ∧ Below w.heap.size w w' := by
  have kb : Below w.heap.size w (w.alloc (.cells #[.int .i64 k.kind, .int .i32 k.r, .int .i64 k.n, .int .i64 k.held] 23)) := (Below.refl _ _).alloc (Nat.le_refl _) _
  have HW := altAhead_any k (by omega) (w.alloc (.cells #[.int .i64 k.kind, .int .i32 k.r, .int .i64 k.n, .int .i64 k.held] 23))
  have hl : (altA k.held).length ≤ 1 := by unfold altA; split <;> simp
  have he : bs (altA k.held ++ [13]) = bs (altA k.held) ++ ⟨#[13]⟩ := (Txt.bs_append _ _).symm
  have hs : ¬ 9223372036854775807 < (bs (altA k.held)).size + 1 := by rw [bs_size]; omega
  rw [he]
  clear he hl
  generalize bs (altA k.held) = t at *
  unfold kyv at HW ⊢
  go_enter Tryd.func32, Tryd.ntmps32
  go_wp2_with (go_at_call 55; refine HW.mono ?_; rintro e W1 ⟨rfl, b1⟩; replace kb := kb.trans (b1.mono kb.size))
  go_ret
  exact ⟨rfl, kb⟩
set_option maxHeartbeats 4000000 in
theorem writeBack_any (k : Ky) (kp : Bool) (h : k.held = 0 ∨ k.held = 2) (w : World) : Calls Tryd.prog 34 #[kyv k, .bool kp] w fun e w' => e = .returned (.string (bs (altA k.held ++ [127]))) ∧ Below w.heap.size w w' := by
  have kb : Below w.heap.size w (w.alloc (.cells #[.int .i64 k.kind, .int .i32 k.r, .int .i64 k.n, .int .i64 k.held] 23)) := (Below.refl _ _).alloc (Nat.le_refl _) _
  have HW := altAhead_any k (by omega) (w.alloc (.cells #[.int .i64 k.kind, .int .i32 k.r, .int .i64 k.n, .int .i64 k.held] 23))
  have hl : (altA k.held).length ≤ 1 := by unfold altA; split <;> simp
  have he : bs (altA k.held ++ [127]) = bs (altA k.held) ++ ⟨#[127]⟩ := (Txt.bs_append _ _).symm
  have hs : ¬ 9223372036854775807 < (bs (altA k.held)).size + 1 := by rw [bs_size]; omega
  rw [he]
  clear he hl
  generalize bs (altA k.held) = t at *
  unfold kyv at HW ⊢
  go_enter Tryd.func34, Tryd.ntmps34
  go_wp2_with (go_at_call 55; refine HW.mono ?_; rintro e W1 ⟨rfl, b1⟩; replace kb := kb.trans (b1.mono kb.size))
  go_ret
  exact ⟨rfl, kb⟩
set_option maxHeartbeats 4000000 in
theorem writeTab_any (k : Ky) (kp : Bool) (w : World) : Calls Tryd.prog 33 #[kyv k, .bool kp] w fun e w' => e = .returned (.string (bs (if k.held ≠ 0 then [27, 91, 90] else [9]))) ∧ Below w.heap.size w w' := by
  obtain ⟨kind, r, n, held⟩ := k
  unfold kyv
  simp only
  by_cases h : held = 0
  · subst h
    go_enter Tryd.func33, Tryd.ntmps33
    go_wp2_with fail
    go_ret
    exact ⟨rfl, (Below.refl _ _).alloc (Nat.le_refl _) _⟩
  · rw [if_pos h]
    have hb : (held == 0) = false := by rw [beq_eq_false_iff_ne]; exact h
    go_enter Tryd.func33, Tryd.ntmps33
    go_wp2_with fail
    go_ret
    exact ⟨rfl, (Below.refl _ _).alloc (Nat.le_refl _) _⟩
set_option maxHeartbeats 4000000 in
theorem writeEsc_any (k : Ky) (kp : Bool) (w : World) : Calls Tryd.prog 35 #[kyv k, .bool kp] w fun e w' => e = .returned (.string (bs [27])) ∧ Below w.heap.size w w' := by
  unfold kyv
  go_enter Tryd.func35, Tryd.ntmps35
  go_wp2_with fail
  go_ret
  first | exact ⟨rfl, (Below.refl _ _).alloc (Nat.le_refl _) _⟩ | exact ⟨rfl, Below.refl _ _⟩
theorem dig_small : ∀ j ∈ List.range 8, j ≠ 0 → Lib.decDigits (j + 1) = [UInt8.ofNat (49 + j)] := by decide +kernel
set_option maxHeartbeats 4000000 in
theorem heldBehind_any (k : Ky) (h0 : 0 ≤ k.held) (h7 : k.held ≤ 7) (w : World) : Calls Tryd.prog 56 #[kyv k] w fun e w' => e = .returned (.string (bs (heldB k.held))) ∧ Below w.heap.size w w' := by
  obtain ⟨kind, r, n, held⟩ := k
  simp only at h0 h7
  obtain ⟨j, hj, rfl⟩ := held_cases (h := held) h0 h7
  clear h0 h7
  unfold kyv
  simp only
  by_cases hz : j = 0
  · subst hz
    go_enter Tryd.func56, Tryd.ntmps56
    go_wp2_with fail
    go_ret
    exact ⟨rfl, (Below.refl _ _).alloc (Nat.le_refl _) _⟩
  · have kb : Below w.heap.size w (w.alloc (.cells #[.int .i64 kind, .int .i32 r, .int .i64 n, .int .i64 (j : Int)] 23)) := (Below.refl _ _).alloc (Nat.le_refl _) _
    have HI := Tryd.strconv_Itoa_small (j + 1) (by omega) (w.alloc (.cells #[.int .i64 kind, .int .i32 r, .int .i64 n, .int .i64 (j : Int)] 23))
    rw [dig_small j (List.mem_range.2 hj) hz] at HI
    have e : bs (heldB (j : Int)) = ⟨#[59]⟩ ++ bs [UInt8.ofNat (49 + j)] := by
      unfold heldB
      rw [if_neg (by omega), Int.toNat_natCast]
      exact (Txt.bs_append [59] [UInt8.ofNat (49 + j)]).symm
    rw [e]
    clear e
    rw [show (⟨[UInt8.ofNat (49 + j)].toArray⟩ : ByteArray) = bs [UInt8.ofNat (49 + j)] from rfl] at HI
    have hs : (bs [UInt8.ofNat (49 + j)]).size = 1 := by rw [bs_size]; rfl
    have hs2 : ¬ 9223372036854775807 < 1 + (bs [UInt8.ofNat (49 + j)]).size := by omega
    generalize bs [UInt8.ofNat (49 + j)] = t at *
    have hc : ((j + 1 : Nat) : Int) = (j : Int) + 1 := by omega
    rw [hc] at HI
    clear hc
    have hw : wrap64 ((j : Int) + 1) = (j : Int) + 1 := by unfold wrap64; omega
    have hb : ((j : Int) == 0) = false := by rw [beq_eq_false_iff_ne]; omega
    go_enter Tryd.func56, Tryd.ntmps56
    go_wp2_with (go_at_call 23; refine HI.mono ?_; rintro e W1 ⟨rfl, hW⟩; subst hW)
    go_ret
    exact ⟨rfl, kb⟩
set_option maxHeartbeats 4000000 in
theorem writeLetter_6 (r n held : Int) (kp : Bool) (h0 : 0 ≤ held) (h7 : held ≤ 7) (w : World) : Calls Tryd.prog 36 #[kyv ⟨6, r, n, held⟩, .bool kp] w fun e w' => e = .returned (.string (bs (wr ⟨6, r, n, held⟩ kp))) ∧ Below w.heap.size w w' := by
  have kb : Below w.heap.size w (w.alloc (.cells #[.int .i64 6, .int .i32 r, .int .i64 n, .int .i64 held] 23)) := (Below.refl _ _).alloc (Nat.le_refl _) _
  have hen : Utf8.encode (((⟨#[65, 66, 67, 68, 72, 70]⟩ : ByteArray)[0]'(by decide)).toNat : Int) = ⟨#[65]⟩ := by kernel_rfl
  by_cases hz : held = 0
  · subst hz
    clear h0 h7
    unfold kyv
    cases kp
    · have e : bs (wr ⟨6, r, n, 0⟩ false) = ⟨#[27, 91]⟩ ++ ⟨#[65]⟩ := (Txt.bs_append [27, 91] [65]).symm
      rw [e]
      clear e
      go_enter Tryd.func36, Tryd.ntmps36
      go_wp2_with fail
      go_ret
      exact ⟨rfl, kb⟩
    · have e : bs (wr ⟨6, r, n, 0⟩ true) = ⟨#[27, 79]⟩ ++ ⟨#[65]⟩ := (Txt.bs_append [27, 79] [65]).symm
      rw [e]
      clear e
      go_enter Tryd.func36, Tryd.ntmps36
      go_wp2_with fail
      go_ret
      exact ⟨rfl, kb⟩
  · have HH := heldBehind_any ⟨6, r, n, held⟩ h0 h7 (w.alloc (.cells #[.int .i64 6, .int .i32 r, .int .i64 n, .int .i64 held] 23))
    have e : bs (wr ⟨6, r, n, held⟩ kp) = ⟨#[27, 91, 49]⟩ ++ bs (heldB held) ++ ⟨#[65]⟩ := by
      have : wr ⟨6, r, n, held⟩ kp = [27, 91, 49] ++ heldB held ++ [65] := by simp [wr, hz, letB, lettersL]
      rw [this]
      exact ((Txt.bs_append ([27, 91, 49] ++ heldB held) [65]).symm).trans (congrArg (· ++ bs [65]) (Txt.bs_append [27, 91, 49] (heldB held)).symm)
    rw [e]
    clear e
    have hl : (bs (heldB held)).size ≤ 2 := by rw [bs_size]; unfold heldB; split <;> simp
    simp only at HH
    generalize bs (heldB held) = t at *
    have hs1 : ¬ 9223372036854775807 < 3 + t.size := by omega
    have hs2 : ¬ 9223372036854775807 < 3 + t.size + 1 := by omega
    have hb : (held == 0) = false := by rw [beq_eq_false_iff_ne]; exact hz
    have hb2 : (held != 0) = true := by rw [bne_iff_ne]; exact hz
    unfold kyv at HH ⊢
    go_enter Tryd.func36, Tryd.ntmps36
    go_wp2_with (go_at_call 56; refine HH.mono ?_; rintro e W1 ⟨rfl, b1⟩; replace kb := kb.trans (b1.mono kb.size))
    go_ret
    exact ⟨rfl, kb⟩
set_option maxHeartbeats 4000000 in
theorem writeLetter_7 (r n held : Int) (kp : Bool) (h0 : 0 ≤ held) (h7 : held ≤ 7) (w : World) : Calls Tryd.prog 36 #[kyv ⟨7, r, n, held⟩, .bool kp] w fun e w' => e = .returned (.string (bs (wr ⟨7, r, n, held⟩ kp))) ∧ Below w.heap.size w w' := by
  have kb : Below w.heap.size w (w.alloc (.cells #[.int .i64 7, .int .i32 r, .int .i64 n, .int .i64 held] 23)) := (Below.refl _ _).alloc (Nat.le_refl _) _
  have hen : Utf8.encode (((⟨#[65, 66, 67, 68, 72, 70]⟩ : ByteArray)[1]'(by decide)).toNat : Int) = ⟨#[66]⟩ := by kernel_rfl
  by_cases hz : held = 0
  · subst hz
    clear h0 h7
    unfold kyv
    cases kp
    · have e : bs (wr ⟨7, r, n, 0⟩ false) = ⟨#[27, 91]⟩ ++ ⟨#[66]⟩ := (Txt.bs_append [27, 91] [66]).symm
      rw [e]
      clear e
      go_enter Tryd.func36, Tryd.ntmps36
      go_wp2_with fail
      go_ret
      exact ⟨rfl, kb⟩
    · have e : bs (wr ⟨7, r, n, 0⟩ true) = ⟨#[27, 79]⟩ ++ ⟨#[66]⟩ := (Txt.bs_append [27, 79] [66]).symm
      rw [e]
      clear e
      go_enter Tryd.func36, Tryd.ntmps36
      go_wp2_with fail
      go_ret
      exact ⟨rfl, kb⟩
  · have HH := heldBehind_any ⟨7, r, n, held⟩ h0 h7 (w.alloc (.cells #[.int .i64 7, .int .i32 r, .int .i64 n, .int .i64 held] 23))
    have e : bs (wr ⟨7, r, n, held⟩ kp) = ⟨#[27, 91, 49]⟩ ++ bs (heldB held) ++ ⟨#[66]⟩ := by
      have : wr ⟨7, r, n, held⟩ kp = [27, 91, 49] ++ heldB held ++ [66] := by simp [wr, hz, letB, lettersL]
      rw [this]
      exact ((Txt.bs_append ([27, 91, 49] ++ heldB held) [66]).symm).trans (congrArg (· ++ bs [66]) (Txt.bs_append [27, 91, 49] (heldB held)).symm)
    rw [e]
    clear e
    have hl : (bs (heldB held)).size ≤ 2 := by rw [bs_size]; unfold heldB; split <;> simp
    simp only at HH
    generalize bs (heldB held) = t at *
    have hs1 : ¬ 9223372036854775807 < 3 + t.size := by omega
    have hs2 : ¬ 9223372036854775807 < 3 + t.size + 1 := by omega
    have hb : (held == 0) = false := by rw [beq_eq_false_iff_ne]; exact hz
    have hb2 : (held != 0) = true := by rw [bne_iff_ne]; exact hz
    unfold kyv at HH ⊢
    go_enter Tryd.func36, Tryd.ntmps36
    go_wp2_with (go_at_call 56; refine HH.mono ?_; rintro e W1 ⟨rfl, b1⟩; replace kb := kb.trans (b1.mono kb.size))
    go_ret
    exact ⟨rfl, kb⟩
set_option maxHeartbeats 4000000 in
theorem writeLetter_8 (r n held : Int) (kp : Bool) (h0 : 0 ≤ held) (h7 : held ≤ 7) (w : World) : Calls Tryd.prog 36 #[kyv ⟨8, r, n, held⟩, .bool kp] w fun e w' => e = .returned (.string (bs (wr ⟨8, r, n, held⟩ kp))) ∧ Below w.heap.size w w' := by
  have kb : Below w.heap.size w (w.alloc (.cells #[.int .i64 8, .int .i32 r, .int .i64 n, .int .i64 held] 23)) := (Below.refl _ _).alloc (Nat.le_refl _) _
  have hen : Utf8.encode (((⟨#[65, 66, 67, 68, 72, 70]⟩ : ByteArray)[2]'(by decide)).toNat : Int) = ⟨#[67]⟩ := by kernel_rfl
  by_cases hz : held = 0
  · subst hz
    clear h0 h7
    unfold kyv
    cases kp
    · have e : bs (wr ⟨8, r, n, 0⟩ false) = ⟨#[27, 91]⟩ ++ ⟨#[67]⟩ := (Txt.bs_append [27, 91] [67]).symm
      rw [e]
      clear e
      go_enter Tryd.func36, Tryd.ntmps36
      go_wp2_with fail
      go_ret
      exact ⟨rfl, kb⟩
    · have e : bs (wr ⟨8, r, n, 0⟩ true) = ⟨#[27, 79]⟩ ++ ⟨#[67]⟩ := (Txt.bs_append [27, 79] [67]).symm
      rw [e]
      clear e
      go_enter Tryd.func36, Tryd.ntmps36
      go_wp2_with fail
      go_ret
      exact ⟨rfl, kb⟩
  · have HH := heldBehind_any ⟨8, r, n, held⟩ h0 h7 (w.alloc (.cells #[.int .i64 8, .int .i32 r, .int .i64 n, .int .i64 held] 23))
    have e : bs (wr ⟨8, r, n, held⟩ kp) = ⟨#[27, 91, 49]⟩ ++ bs (heldB held) ++ ⟨#[67]⟩ := by
      have : wr ⟨8, r, n, held⟩ kp = [27, 91, 49] ++ heldB held ++ [67] := by simp [wr, hz, letB, lettersL]
      rw [this]
      exact ((Txt.bs_append ([27, 91, 49] ++ heldB held) [67]).symm).trans (congrArg (· ++ bs [67]) (Txt.bs_append [27, 91, 49] (heldB held)).symm)
    rw [e]
    clear e
    have hl : (bs (heldB held)).size ≤ 2 := by rw [bs_size]; unfold heldB; split <;> simp
    simp only at HH
    generalize bs (heldB held) = t at *
    have hs1 : ¬ 9223372036854775807 < 3 + t.size := by omega
    have hs2 : ¬ 9223372036854775807 < 3 + t.size + 1 := by omega
    have hb : (held == 0) = false := by rw [beq_eq_false_iff_ne]; exact hz
    have hb2 : (held != 0) = true := by rw [bne_iff_ne]; exact hz
    unfold kyv at HH ⊢
    go_enter Tryd.func36, Tryd.ntmps36
    go_wp2_with (go_at_call 56; refine HH.mono ?_; rintro e W1 ⟨rfl, b1⟩; replace kb := kb.trans (b1.mono kb.size))
    go_ret
    exact ⟨rfl, kb⟩
set_option maxHeartbeats 4000000 in
theorem writeLetter_9 (r n held : Int) (kp : Bool) (h0 : 0 ≤ held) (h7 : held ≤ 7) (w : World) : Calls Tryd.prog 36 #[kyv ⟨9, r, n, held⟩, .bool kp] w fun e w' => e = .returned (.string (bs (wr ⟨9, r, n, held⟩ kp))) ∧ Below w.heap.size w w' := by
  have kb : Below w.heap.size w (w.alloc (.cells #[.int .i64 9, .int .i32 r, .int .i64 n, .int .i64 held] 23)) := (Below.refl _ _).alloc (Nat.le_refl _) _
  have hen : Utf8.encode (((⟨#[65, 66, 67, 68, 72, 70]⟩ : ByteArray)[3]'(by decide)).toNat : Int) = ⟨#[68]⟩ := by kernel_rfl
  by_cases hz : held = 0
  · subst hz
    clear h0 h7
    unfold kyv
    cases kp
    · have e : bs (wr ⟨9, r, n, 0⟩ false) = ⟨#[27, 91]⟩ ++ ⟨#[68]⟩ := (Txt.bs_append [27, 91] [68]).symm
      rw [e]
      clear e
      go_enter Tryd.func36, Tryd.ntmps36
      go_wp2_with fail
      go_ret
      exact ⟨rfl, kb⟩
    · have e : bs (wr ⟨9, r, n, 0⟩ true) = ⟨#[27, 79]⟩ ++ ⟨#[68]⟩ := (Txt.bs_append [27, 79] [68]).symm
      rw [e]
      clear e
      go_enter Tryd.func36, Tryd.ntmps36
      go_wp2_with fail
      go_ret
      exact ⟨rfl, kb⟩
  · have HH := heldBehind_any ⟨9, r, n, held⟩ h0 h7 (w.alloc (.cells #[.int .i64 9, .int .i32 r, .int .i64 n, .int .i64 held] 23))
    have e : bs (wr ⟨9, r, n, held⟩ kp) = ⟨#[27, 91, 49]⟩ ++ bs (heldB held) ++ ⟨#[68]⟩ := by
      have : wr ⟨9, r, n, held⟩ kp = [27, 91, 49] ++ heldB held ++ [68] := by simp [wr, hz, letB, lettersL]
      rw [this]
      exact ((Txt.bs_append ([27, 91, 49] ++ heldB held) [68]).symm).trans (congrArg (· ++ bs [68]) (Txt.bs_append [27, 91, 49] (heldB held)).symm)
    rw [e]
    clear e
    have hl : (bs (heldB held)).size ≤ 2 := by rw [bs_size]; unfold heldB; split <;> simp
    simp only at HH
    generalize bs (heldB held) = t at *
    have hs1 : ¬ 9223372036854775807 < 3 + t.size := by omega
    have hs2 : ¬ 9223372036854775807 < 3 + t.size + 1 := by omega
    have hb : (held == 0) = false := by rw [beq_eq_false_iff_ne]; exact hz
    have hb2 : (held != 0) = true := by rw [bne_iff_ne]; exact hz
    unfold kyv at HH ⊢
    go_enter Tryd.func36, Tryd.ntmps36
    go_wp2_with (go_at_call 56; refine HH.mono ?_; rintro e W1 ⟨rfl, b1⟩; replace kb := kb.trans (b1.mono kb.size))
    go_ret
    exact ⟨rfl, kb⟩
set_option maxHeartbeats 4000000 in
theorem writeLetter_10 (r n held : Int) (kp : Bool) (h0 : 0 ≤ held) (h7 : held ≤ 7) (w : World) : Calls Tryd.prog 36 #[kyv ⟨10, r, n, held⟩, .bool kp] w fun e w' => e = .returned (.string (bs (wr ⟨10, r, n, held⟩ kp))) ∧ Below w.heap.size w w' := by
  have kb : Below w.heap.size w (w.alloc (.cells #[.int .i64 10, .int .i32 r, .int .i64 n, .int .i64 held] 23)) := (Below.refl _ _).alloc (Nat.le_refl _) _
  have hen : Utf8.encode (((⟨#[65, 66, 67, 68, 72, 70]⟩ : ByteArray)[4]'(by decide)).toNat : Int) = ⟨#[72]⟩ := by kernel_rfl
  by_cases hz : held = 0
  · subst hz
    clear h0 h7
    unfold kyv
    cases kp
    · have e : bs (wr ⟨10, r, n, 0⟩ false) = ⟨#[27, 91]⟩ ++ ⟨#[72]⟩ := (Txt.bs_append [27, 91] [72]).symm
      rw [e]
      clear e
      go_enter Tryd.func36, Tryd.ntmps36
      go_wp2_with fail
      go_ret
      exact ⟨rfl, kb⟩
    · have e : bs (wr ⟨10, r, n, 0⟩ true) = ⟨#[27, 79]⟩ ++ ⟨#[72]⟩ := (Txt.bs_append [27, 79] [72]).symm
      rw [e]
      clear e
      go_enter Tryd.func36, Tryd.ntmps36
      go_wp2_with fail
      go_ret
      exact ⟨rfl, kb⟩
  · have HH := heldBehind_any ⟨10, r, n, held⟩ h0 h7 (w.alloc (.cells #[.int .i64 10, .int .i32 r, .int .i64 n, .int .i64 held] 23))
    have e : bs (wr ⟨10, r, n, held⟩ kp) = ⟨#[27, 91, 49]⟩ ++ bs (heldB held) ++ ⟨#[72]⟩ := by
      have : wr ⟨10, r, n, held⟩ kp = [27, 91, 49] ++ heldB held ++ [72] := by simp [wr, hz, letB, lettersL]
      rw [this]
      exact ((Txt.bs_append ([27, 91, 49] ++ heldB held) [72]).symm).trans (congrArg (· ++ bs [72]) (Txt.bs_append [27, 91, 49] (heldB held)).symm)
    rw [e]
    clear e
    have hl : (bs (heldB held)).size ≤ 2 := by rw [bs_size]; unfold heldB; split <;> simp
    simp only at HH
    generalize bs (heldB held) = t at *
    have hs1 : ¬ 9223372036854775807 < 3 + t.size := by omega
    have hs2 : ¬ 9223372036854775807 < 3 + t.size + 1 := by omega
    have hb : (held == 0) = false := by rw [beq_eq_false_iff_ne]; exact hz
    have hb2 : (held != 0) = true := by rw [bne_iff_ne]; exact hz
    unfold kyv at HH ⊢
    go_enter Tryd.func36, Tryd.ntmps36
    go_wp2_with (go_at_call 56; refine HH.mono ?_; rintro e W1 ⟨rfl, b1⟩; replace kb := kb.trans (b1.mono kb.size))
    go_ret
    exact ⟨rfl, kb⟩
set_option maxHeartbeats 4000000 in
theorem writeLetter_11 (r n held : Int) (kp : Bool) (h0 : 0 ≤ held) (h7 : held ≤ 7) (w : World) : Calls Tryd.prog 36 #[kyv ⟨11, r, n, held⟩, .bool kp] w fun e w' => e = .returned (.string (bs (wr ⟨11, r, n, held⟩ kp))) ∧ Below w.heap.size w w' := by
  have kb : Below w.heap.size w (w.alloc (.cells #[.int .i64 11, .int .i32 r, .int .i64 n, .int .i64 held] 23)) := (Below.refl _ _).alloc (Nat.le_refl _) _
  have hen : Utf8.encode (((⟨#[65, 66, 67, 68, 72, 70]⟩ : ByteArray)[5]'(by decide)).toNat : Int) = ⟨#[70]⟩ := by kernel_rfl
  by_cases hz : held = 0
  · subst hz
    clear h0 h7
    unfold kyv
    cases kp
    · have e : bs (wr ⟨11, r, n, 0⟩ false) = ⟨#[27, 91]⟩ ++ ⟨#[70]⟩ := (Txt.bs_append [27, 91] [70]).symm
      rw [e]
      clear e
      go_enter Tryd.func36, Tryd.ntmps36
      go_wp2_with fail
      go_ret
      exact ⟨rfl, kb⟩
    · have e : bs (wr ⟨11, r, n, 0⟩ true) = ⟨#[27, 79]⟩ ++ ⟨#[70]⟩ := (Txt.bs_append [27, 79] [70]).symm
      rw [e]
      clear e
      go_enter Tryd.func36, Tryd.ntmps36
      go_wp2_with fail
      go_ret
      exact ⟨rfl, kb⟩
  · have HH := heldBehind_any ⟨11, r, n, held⟩ h0 h7 (w.alloc (.cells #[.int .i64 11, .int .i32 r, .int .i64 n, .int .i64 held] 23))
    have e : bs (wr ⟨11, r, n, held⟩ kp) = ⟨#[27, 91, 49]⟩ ++ bs (heldB held) ++ ⟨#[70]⟩ := by
      have : wr ⟨11, r, n, held⟩ kp = [27, 91, 49] ++ heldB held ++ [70] := by simp [wr, hz, letB, lettersL]
      rw [this]
      exact ((Txt.bs_append ([27, 91, 49] ++ heldB held) [70]).symm).trans (congrArg (· ++ bs [70]) (Txt.bs_append [27, 91, 49] (heldB held)).symm)
    rw [e]
    clear e
    have hl : (bs (heldB held)).size ≤ 2 := by rw [bs_size]; unfold heldB; split <;> simp
    simp only at HH
    generalize bs (heldB held) = t at *
    have hs1 : ¬ 9223372036854775807 < 3 + t.size := by omega
    have hs2 : ¬ 9223372036854775807 < 3 + t.size + 1 := by omega
    have hb : (held == 0) = false := by rw [beq_eq_false_iff_ne]; exact hz
    have hb2 : (held != 0) = true := by rw [bne_iff_ne]; exact hz
    unfold kyv at HH ⊢
    go_enter Tryd.func36, Tryd.ntmps36
    go_wp2_with (go_at_call 56; refine HH.mono ?_; rintro e W1 ⟨rfl, b1⟩; replace kb := kb.trans (b1.mono kb.size))
    go_ret
    exact ⟨rfl, kb⟩
end Kys
end Go.Proofs.YtdmooeoklcjplaaDoor

/- Package keys: Write, by kinds. -/
namespace Go.Proofs.YtdmooeoklcjplaaDoor
open Go.ChangeShapes Go.WideShapes Go.ChangeAt Go.RowKit
open Go.Sort
namespace Kys
open Txt (wd bs)
def wsA : Array Value := #[.nilFunc, .func (.func 31) #[] #[], .func (.func 32) #[] #[], .func (.func 33) #[] #[], .func (.func 34) #[] #[], .func (.func 35) #[] #[], .func (.func 36) #[] #[], .func (.func 36) #[] #[], .func (.func 36) #[] #[], .func (.func 36) #[] #[], .func (.func 36) #[] #[], .func (.func 36) #[] #[], .func (.func 37) #[] #[], .func (.func 37) #[] #[], .func (.func 37) #[] #[], .func (.func 37) #[] #[]]
set_option maxHeartbeats 1000000 in
set_option maxRecDepth 100000 in
theorem writers_any (w : World) : Calls Tryd.prog 17 #[] w fun e w' => e = .returned (.agg wsA) ∧ Below w.heap.size w w' := by
  go_enter Tryd.func17, Tryd.ntmps17
  go_wp2_with (refine wpList_store_row rfl 43 (.tmp 0) _ rfl w.heap.size wsA rfl rfl _ _ (heap_alloc_new w _) (by kernel_rfl) rfl (by simp [wsA, Value.oneCell']) ?_)
  (try simp only [Exit.inBlock, Exit.then])
  refine bodyPost_ret (v := .agg wsA) ?_ rfl ⟨rfl, below_setRow ((Below.refl _ _).alloc (Nat.le_refl _) _) (Nat.le_refl _) _⟩
  exact results_cell_row rfl _ _ w.heap.size _ _ _ _ rfl (setRow_heap _ _ _ _ _ _ (heap_alloc_new w _)) Tryd.underlying43 rfl (by kernel_rfl)
theorem und_ws : Tryd.prog.underlying 43 = some (.array 16 29) := by kernel_rfl
theorem idx6 (w : World) : (Instr.index 43 (.agg wsA) (.int .i64 6)).run Tryd.prog w = .ok (.func (.func 36) #[] #[]) w := by
  unfold wsA
  simp [Instr.index, run_underlying und_ws, asIntOf, go_sem]
theorem four_cells {W : World} {b : Nat} {p q r z : Value} {t : TypeId} (h : W.heap[b]? = some (.cells #[p, q, r, z] t (0, 0))) : (W.cell? ⟨b, 0, none⟩ = some p ∧ W.cell? ⟨b, 1, none⟩ = some q ∧ W.cell? ⟨b, 2, none⟩ = some r ∧ W.cell? ⟨b, 3, none⟩ = some z) ∧ True := by
  unfold World.cell?
  rw [h]
  exact ⟨⟨rfl, rfl, rfl, rfl⟩, trivial⟩
set_option maxHeartbeats 4000000 in
theorem write_6 (r n held : Int) (kp : Bool) (w : World) (hT : Txt.Tab w) (hk : chk ⟨6, r, n, held⟩ = true) (h0 : 0 ≤ held) (h7 : held ≤ 7) : Calls Tryd.prog 6 #[kyv ⟨6, r, n, held⟩, .bool kp] w fun e w' => e = .returned (.tuple #[.string (bs (wr ⟨6, r, n, held⟩ kp)), .int .i64 0]) ∧ Below w.heap.size w w' := by
  have kb : Below w.heap.size w (w.alloc (.cells #[.int .i64 6, .int .i32 r, .int .i64 n, .int .i64 held] 23)) := (Below.refl _ _).alloc (Nat.le_refl _) _
  have HC := check_any ⟨6, r, n, held⟩ _ (Tab.alloc hT (.cells #[.int .i64 6, .int .i32 r, .int .i64 n, .int .i64 held] 23))
  rw [hk] at HC
  clear hk hT
  have HF := fun W => writeLetter_6 r n held kp h0 h7 W
  generalize bs (wr ⟨6, r, n, held⟩ kp) = res at *
  unfold kyv at HC HF ⊢
  go_enter Tryd.func6, Tryd.ntmps6
  go_wp2_with (go_at_call 9; refine HC.mono ?_; rintro e W1 ⟨rfl, b1⟩)
  have z1 := held_block b1
  have k1 := kb.trans (b1.mono kb.size)
  clear b1 kb HC
  obtain ⟨⟨c0, c1, c2, c3⟩, _⟩ := four_cells z1
  have g0 := fun d os => cell_regrown c0 d os
  have g1 := fun d os => cell_regrown c1 d os
  have g2 := fun d os => cell_regrown c2 d os
  have g3 := fun d os => cell_regrown c3 d os
  have HWr := fun d os => Calls.regrown_of (writers_any (grow (redrawn W1 d) os))
  have HFr := fun d os => Calls.regrown_of (HF (grow (redrawn W1 d) os))
  have hix := idx6
  clear HF c0 c1 c2 c3 z1
  refine wp_region_quiet_below (by kernel_rfl) (by kernel_rfl) ?_
  repeat (first | go_big_quiet_skip | quiet_step (first | (go_at_call 17; exact HWr _ _) | (go_at_call 36; exact HFr _ _)))
  refine wpQuiet_nil ?_
  intro _ hw'
  obtain ⟨⟨dq, os⟩, hw''⟩ := hw'
  subst hw''
  have kR := below_regrown W1 dq os
  have kw := k1.trans (kR.mono k1.size)
  clear g0 g1 g2 g3 HWr HFr kR
  generalize grow (redrawn W1 dq) os = V at *
  go_wp2_with fail
  go_ret2
  exact ⟨rfl, kw⟩
end Kys
end Go.Proofs.YtdmooeoklcjplaaDoor

/- Package keys: the writers of runes and of numbers. -/
namespace Go.Proofs.YtdmooeoklcjplaaDoor
open Go.ChangeShapes Go.WideShapes Go.ChangeAt Go.RowKit Go.Sort
namespace Kys
open Txt (wd bs)
theorem encode_eq (r : Int) : Utf8.encode r = bs (Lib.encodeRune r) := by
  by_cases h1 : 0 ≤ r ∧ r ≤ 127
  · have hv : Utf8.valid r = true := by simp [Utf8.valid]; omega
    simp only [Utf8.encode, hv, if_true]
    rw [if_pos (by omega)]
    unfold Lib.encodeRune
    rw [Lib.encodeRuneZ_one h1.1 h1.2]
    rfl
  · by_cases h2 : 128 ≤ r ∧ r ≤ 2047
    · have hv : Utf8.valid r = true := by simp [Utf8.valid]; omega
      simp only [Utf8.encode, hv, if_true]
      rw [if_neg (by omega), if_pos (by omega)]
      unfold Lib.encodeRune
      rw [Lib.encodeRuneZ_two h2.1 h2.2, show 0xC0 + r.toNat / 64 = (192 + r / 64).toNat by omega, show 0x80 + r.toNat % 64 = (128 + r % 64).toNat by omega]
      rfl
    · by_cases h3 : (2048 ≤ r ∧ r < 55296) ∨ (57343 < r ∧ r ≤ 65535)
      · have hv : Utf8.valid r = true := by simp [Utf8.valid]; omega
        simp only [Utf8.encode, hv, if_true]
        rw [if_neg (by omega), if_neg (by omega), if_pos (by omega)]
        unfold Lib.encodeRune
        rw [Lib.encodeRuneZ_three h3, show 0xE0 + r.toNat / 4096 = (224 + r / 4096).toNat by omega, show 0x80 + r.toNat / 64 % 64 = (128 + r / 64 % 64).toNat by omega, show 0x80 + r.toNat % 64 = (128 + r % 64).toNat by omega]
        rfl
      · by_cases h4 : 65536 ≤ r ∧ r ≤ 1114111
        · have hv : Utf8.valid r = true := by simp [Utf8.valid]; omega
          simp only [Utf8.encode, hv, if_true]
          rw [if_neg (by omega), if_neg (by omega), if_neg (by omega)]
          unfold Lib.encodeRune
          rw [Lib.encodeRuneZ_four h4.1 h4.2, show 0xF0 + r.toNat / 262144 = (240 + r / 262144).toNat by omega, show 0x80 + r.toNat / 4096 % 64 = (128 + r / 4096 % 64).toNat by omega, show 0x80 + r.toNat / 64 % 64 = (128 + r / 64 % 64).toNat by omega, show 0x80 + r.toNat % 64 = (128 + r % 64).toNat by omega]
          rfl
        · have hv : Utf8.valid r = false := by simp [Utf8.valid]; omega
          unfold Lib.encodeRune
          rw [Lib.encodeRuneZ_bad (by omega)]
          simp only [Utf8.encode, hv, Utf8.runeError, Bool.false_eq_true, if_false]
          decide
set_option maxHeartbeats 4000000 in
theorem writeRune_0 (kind r n : Int) (kp : Bool) (w : World) : Calls Tryd.prog 31 #[kyv ⟨kind, r, n, 0⟩, .bool kp] w fun e w' => e = .returned (.string (bs (altA 0 ++ Lib.encodeRune r))) ∧ Below w.heap.size w w' := by
  have kb : Below w.heap.size w (w.alloc (.cells #[.int .i64 kind, .int .i32 r, .int .i64 n, .int .i64 0] 23)) := (Below.refl _ _).alloc (Nat.le_refl _) _
  have HW := altAhead_any ⟨kind, r, n, 0⟩ (by simp) (w.alloc (.cells #[.int .i64 kind, .int .i32 r, .int .i64 n, .int .i64 0] 23))
  have hb : bits BinOp.and IntKind.i64 0 4 = 0 := by kernel_rfl
  have he : bs (altA 0 ++ Lib.encodeRune r) = bs (altA 0) ++ Utf8.encode r := by rw [encode_eq, Txt.bs_append]
  have hl : (bs (altA 0)).size ≤ 1 := by rw [bs_size]; decide
  have hl2 : (Utf8.encode r).size ≤ 4 := by
    rw [encode_eq, bs_size]
    have := Lib.encodeRuneZ_length r
    simp only [Lib.encodeRune, List.length_map]
    omega
  have hs : ¬ 9223372036854775807 < (bs (altA 0)).size + (Utf8.encode r).size := by omega
  rw [he]
  clear he hl hl2
  simp only at HW
  generalize bs (altA 0) = t at *
  unfold kyv at HW ⊢
  go_enter Tryd.func31, Tryd.ntmps31
  go_wp2_with (go_at_call 55; refine HW.mono ?_; rintro e W1 ⟨rfl, b1⟩; replace kb := kb.trans (b1.mono kb.size))
  go_ret
  exact ⟨rfl, kb⟩
set_option maxHeartbeats 4000000 in
theorem writeRune_2 (kind r n : Int) (kp : Bool) (w : World) : Calls Tryd.prog 31 #[kyv ⟨kind, r, n, 2⟩, .bool kp] w fun e w' => e = .returned (.string (bs (altA 2 ++ Lib.encodeRune r))) ∧ Below w.heap.size w w' := by
  have kb : Below w.heap.size w (w.alloc (.cells #[.int .i64 kind, .int .i32 r, .int .i64 n, .int .i64 2] 23)) := (Below.refl _ _).alloc (Nat.le_refl _) _
  have HW := altAhead_any ⟨kind, r, n, 2⟩ (by simp) (w.alloc (.cells #[.int .i64 kind, .int .i32 r, .int .i64 n, .int .i64 2] 23))
  have hb : bits BinOp.and IntKind.i64 2 4 = 0 := by kernel_rfl
  have he : bs (altA 2 ++ Lib.encodeRune r) = bs (altA 2) ++ Utf8.encode r := by rw [encode_eq, Txt.bs_append]
  have hl : (bs (altA 2)).size ≤ 1 := by rw [bs_size]; decide
  have hl2 : (Utf8.encode r).size ≤ 4 := by
    rw [encode_eq, bs_size]
    have := Lib.encodeRuneZ_length r
    simp only [Lib.encodeRune, List.length_map]
    omega
  have hs : ¬ 9223372036854775807 < (bs (altA 2)).size + (Utf8.encode r).size := by omega
  rw [he]
  clear he hl hl2
  simp only at HW
  generalize bs (altA 2) = t at *
  unfold kyv at HW ⊢
  go_enter Tryd.func31, Tryd.ntmps31
  go_wp2_with (go_at_call 55; refine HW.mono ?_; rintro e W1 ⟨rfl, b1⟩; replace kb := kb.trans (b1.mono kb.size))
  go_ret
  exact ⟨rfl, kb⟩
set_option maxHeartbeats 4000000 in
theorem writeRune_4 (kind r n : Int) (kp : Bool) (w : World) (h1 : 97 ≤ r) (h2 : r ≤ 122) : Calls Tryd.prog 31 #[kyv ⟨kind, r, n, 4⟩, .bool kp] w fun e w' => e = .returned (.string (bs (altA 4 ++ Lib.encodeRune (r - 96)))) ∧ Below w.heap.size w w' := by
  have kb : Below w.heap.size w (w.alloc (.cells #[.int .i64 kind, .int .i32 r, .int .i64 n, .int .i64 4] 23)) := (Below.refl _ _).alloc (Nat.le_refl _) _
  have HW := altAhead_any ⟨kind, r, n, 4⟩ (by simp) (w.alloc (.cells #[.int .i64 kind, .int .i32 r, .int .i64 n, .int .i64 4] 23))
  have hb : bits BinOp.and IntKind.i64 4 4 = 4 := by kernel_rfl
  have he : bs (altA 4 ++ Lib.encodeRune (r - 96)) = bs (altA 4) ++ Utf8.encode (r - 96) := by rw [encode_eq, Txt.bs_append]
  have hl : (bs (altA 4)).size ≤ 1 := by rw [bs_size]; decide
  have hl2 : (Utf8.encode (r - 96)).size ≤ 4 := by
    rw [encode_eq, bs_size]
    have := Lib.encodeRuneZ_length (r - 96)
    simp only [Lib.encodeRune, List.length_map]
    omega
  have hs : ¬ 9223372036854775807 < (bs (altA 4)).size + (Utf8.encode (r - 96)).size := by omega
  rw [he]
  clear he hl hl2
  simp only at HW
  generalize bs (altA 4) = t at *
  have hw : wrap32 (r - 96) = r - 96 := by unfold wrap32; omega
  unfold kyv at HW ⊢
  go_enter Tryd.func31, Tryd.ntmps31
  go_wp2_with (go_at_call 55; refine HW.mono ?_; rintro e W1 ⟨rfl, b1⟩; replace kb := kb.trans (b1.mono kb.size))
  go_ret
  exact ⟨rfl, kb⟩
set_option maxHeartbeats 4000000 in
theorem writeRune_6 (kind r n : Int) (kp : Bool) (w : World) (h1 : 97 ≤ r) (h2 : r ≤ 122) : Calls Tryd.prog 31 #[kyv ⟨kind, r, n, 6⟩, .bool kp] w fun e w' => e = .returned (.string (bs (altA 6 ++ Lib.encodeRune (r - 96)))) ∧ Below w.heap.size w w' := by
  have kb : Below w.heap.size w (w.alloc (.cells #[.int .i64 kind, .int .i32 r, .int .i64 n, .int .i64 6] 23)) := (Below.refl _ _).alloc (Nat.le_refl _) _
  have HW := altAhead_any ⟨kind, r, n, 6⟩ (by simp) (w.alloc (.cells #[.int .i64 kind, .int .i32 r, .int .i64 n, .int .i64 6] 23))
  have hb : bits BinOp.and IntKind.i64 6 4 = 4 := by kernel_rfl
  have he : bs (altA 6 ++ Lib.encodeRune (r - 96)) = bs (altA 6) ++ Utf8.encode (r - 96) := by rw [encode_eq, Txt.bs_append]
  have hl : (bs (altA 6)).size ≤ 1 := by rw [bs_size]; decide
  have hl2 : (Utf8.encode (r - 96)).size ≤ 4 := by
    rw [encode_eq, bs_size]
    have := Lib.encodeRuneZ_length (r - 96)
    simp only [Lib.encodeRune, List.length_map]
    omega
  have hs : ¬ 9223372036854775807 < (bs (altA 6)).size + (Utf8.encode (r - 96)).size := by omega
  rw [he]
  clear he hl hl2
  simp only at HW
  generalize bs (altA 6) = t at *
  have hw : wrap32 (r - 96) = r - 96 := by unfold wrap32; omega
  unfold kyv at HW ⊢
  go_enter Tryd.func31, Tryd.ntmps31
  go_wp2_with (go_at_call 55; refine HW.mono ?_; rintro e W1 ⟨rfl, b1⟩; replace kb := kb.trans (b1.mono kb.size))
  go_ret
  exact ⟨rfl, kb⟩
theorem writeRune_any (k : Ky) (kp : Bool) (h : k.held = 0 ∨ k.held = 2 ∨ (k.held = 4 ∨ k.held = 6) ∧ 97 ≤ k.r ∧ k.r ≤ 122) (w : World) : Calls Tryd.prog 31 #[kyv k, .bool kp] w fun e w' => e = .returned (.string (bs (altA k.held ++ Lib.encodeRune (wrR k)))) ∧ Below w.heap.size w w' := by
  obtain ⟨kind, r, n, held⟩ := k
  simp only at h
  rcases h with rfl | rfl | ⟨rfl | rfl, h1, h2⟩
  · exact writeRune_0 kind r n kp w
  · exact writeRune_2 kind r n kp w
  · exact writeRune_4 kind r n kp w h1 h2
  · exact writeRune_6 kind r n kp w h1 h2
/-- Keys that are told by a number. -/
def numKeys : List (Int × Int) := [(12, 0), (13, 0), (14, 0)] ++ (List.range 12).map fun i : Nat => (15, 1 + (i : Int))
theorem num_at : ∀ x ∈ numKeys, numOf x.1 x.2 < 25 ∧ numT.getD (numOf x.1 x.2) (0, 0) = x ∧ ∀ i ∈ List.range 25, i < numOf x.1 x.2 → numT.getD i (0, 0) ≠ x := by decide +kernel
theorem num_idx (i : Nat) (hi : i < 25) (wr : World) : (Instr.index 106 (.agg numCells) (.int .i64 (i : Int))).run Tryd.prog wr = .ok (.agg #[.int .i64 (numT.getD i (0, 0)).1, .int .i32 0, .int .i64 (numT.getD i (0, 0)).2, .int .i64 0]) wr := by
  have : i = 0 ∨ i = 1 ∨ i = 2 ∨ i = 3 ∨ i = 4 ∨ i = 5 ∨ i = 6 ∨ i = 7 ∨ i = 8 ∨ i = 9 ∨ i = 10 ∨ i = 11 ∨ i = 12 ∨ i = 13 ∨ i = 14 ∨ i = 15 ∨ i = 16 ∨ i = 17 ∨ i = 18 ∨ i = 19 ∨ i = 20 ∨ i = 21 ∨ i = 22 ∨ i = 23 ∨ i = 24 := by omega
  rcases this with rfl | rfl | rfl | rfl | rfl | rfl | rfl | rfl | rfl | rfl | rfl | rfl | rfl | rfl | rfl | rfl | rfl | rfl | rfl | rfl | rfl | rfl | rfl | rfl | rfl <;> (show (_ : Result Value) = _; kernel_rfl)
theorem eql_key (a b c d : Int) (w : World) : (binOp .eql 23 (.agg #[.int .i64 a, .int .i32 0, .int .i64 b, .int .i64 0]) (.agg #[.int .i64 c, .int .i32 0, .int .i64 d, .int .i64 0])).run Tryd.prog w = .ok (.bool (decide ((a, b) = (c, d)))) w := by
  have e : decide ((a, b) = (c, d)) = (a == c && b == d) := by
    rw [Bool.eq_iff_iff]
    simp
  rw [e]
  go_simp
  by_cases h1 : a = c <;> by_cases h2 : b = d <;> simp [h1, h2]
set_option maxHeartbeats 4000000 in
set_option maxRecDepth 100000 in
theorem number_any (kind n held : Int) (hk : (kind, n) ∈ numKeys) (w : World) (hN : NumTab w) : Calls Tryd.prog 57 #[kyv ⟨kind, 0, n, held⟩] w fun e w' => e = .returned (.int .i64 (numOf kind n : Nat)) ∧ Below w.heap.size w w' := by
  obtain ⟨g25, gat, gno⟩ := num_at (kind, n) hk
  simp only at g25 gat gno
  have kb0 : Below w.heap.size w (w.alloc (.cells #[.int .i64 kind, .int .i32 0, .int .i64 n, .int .i64 0] 23)) := (Below.refl _ _).alloc (Nat.le_refl _) _
  obtain ⟨tt, fr, hN⟩ := hN.below kb0
  have HN : Hid ((w.alloc (.cells #[.int .i64 kind, .int .i32 0, .int .i64 n, .int .i64 0] 23)).heap[7]? = some (.cells numCells tt fr)) := hN
  clear hN hk
  generalize numOf kind n = T at *
  have HG : Hid (numT.getD T (0, 0) = (kind, n)) := gat
  have HB : Hid (∀ i, i < T → numT.getD i (0, 0) ≠ (kind, n)) := fun i hi => gno i (List.mem_range.2 (by omega)) hi
  clear gat gno
  unfold kyv
  go_enter Tryd.func57, Tryd.ntmps57
  go_wp2_with (refine wpList_load_row rfl 106 (.global 7) rfl 7 rfl _ numCells _ _ HN.out Tryd.underlying106 rfl (by kernel_rfl) ?_)
  obtain ⟨W0, hW0⟩ : ∃ W0, w.alloc (.cells #[.int .i64 kind, .int .i32 0, .int .i64 n, .int .i64 0] 23) = W0 := ⟨_, rfl⟩
  have z0 : W0.heap[w.heap.size]? = some (.cells #[.int .i64 kind, .int .i32 0, .int .i64 n, .int .i64 0] 23 (0, 0)) := by rw [← hW0]; exact heap_alloc_new _ _
  rw [hW0] at kb0
  rw [hW0]
  clear HN hW0
  go_loopg [7] 25 (fun g v wr => ∃ i : Nat, i ≤ T ∧ 25 - i ≤ g ∧ v = .int .i64 (i : Int) ∧ Below W0.heap.size W0 wr)
  case atStart => exact ⟨0, Nat.zero_le _, by omega, rfl, Below.refl _ _⟩
  case round =>
    obtain ⟨i, hi, hg, rfl, hb⟩ := hrel
    have i25 : (i : Int) < 25 := by omega
    have hix := num_idx i (by omega)
    have zr := by_block z0 hb
    obtain ⟨⟨c0, c1, c2, c3⟩, _⟩ := four_cells zr
    have hq := fun a b W => eql_key a b kind n W
    have hw : wrap64 ((i : Int) + 1) = (i : Int) + 1 := by unfold wrap64; omega
    have hsz := hb.size
    have zlt : w.heap.size < wr.heap.size := (Array.getElem?_eq_some_iff.1 zr).1
    have hne : ¬ w.heap.size = wr.heap.size := by omega
    by_cases hT : i = T
    · subst hT
      have e := HG.out
      obtain ⟨⟨a, b⟩, hab⟩ : ∃ x, numT.getD i (0, 0) = x := ⟨_, rfl⟩
      rw [hab] at hix e
      simp only at hix
      injection e with e1 e2
      subst e1 e2
      clear hab
      go_wp2_with fail
      go_ret
      have k1 := kb0.trans (hb.mono kb0.size)
      exact ⟨rfl, k1.alloc k1.size _⟩
    · have e := HB.out i (by omega)
      obtain ⟨⟨a, b⟩, hab⟩ : ∃ x, numT.getD i (0, 0) = x := ⟨_, rfl⟩
      rw [hab] at hix e
      simp only at hix
      have hq2 := fun W => (hq a b W).trans (by rw [decide_eq_false e])
      clear hab hq
      go_wp2_with fail
      go_roundg (25 - (i + 1))
      case measure => omega
      case rel => exact ⟨i + 1, by omega, by omega, by go_num, hb.alloc hsz _⟩
theorem dig_num : ∀ x ∈ numKeys, bs (Lib.decDigits (numOf x.1 x.2)) = bs (digB (numOf x.1 x.2)) ∧ (digB (numOf x.1 x.2)).length ≤ 2 ∧ numOf x.1 x.2 < 100 := by
  have h : ∀ x ∈ numKeys, Lib.decDigits (numOf x.1 x.2) = digB (numOf x.1 x.2) ∧ (digB (numOf x.1 x.2)).length ≤ 2 ∧ numOf x.1 x.2 < 100 := by decide +kernel
  exact fun x hx => ⟨congrArg bs (h x hx).1, (h x hx).2⟩
set_option maxHeartbeats 4000000 in
theorem writeNumber_any (kind n held : Int) (kp : Bool) (hk : (kind, n) ∈ numKeys) (h0 : 0 ≤ held) (h7 : held ≤ 7) (w : World) (hN : NumTab w) : Calls Tryd.prog 37 #[kyv ⟨kind, 0, n, held⟩, .bool kp] w fun e w' => e = .returned (.string (bs ([27, 91] ++ digB (numOf kind n) ++ heldB held ++ [126]))) ∧ Below w.heap.size w w' := by
  obtain ⟨d1, d2, d3⟩ := dig_num (kind, n) hk
  simp only at d1 d2 d3
  obtain ⟨W0, hW0⟩ : ∃ W0, w.alloc (.cells #[.int .i64 kind, .int .i32 0, .int .i64 n, .int .i64 held] 23) = W0 := ⟨_, rfl⟩
  have kb : Below w.heap.size w W0 := by rw [← hW0]; exact (Below.refl _ _).alloc (Nat.le_refl _) _
  have z0 : W0.heap[w.heap.size]? = some (.cells #[.int .i64 kind, .int .i32 0, .int .i64 n, .int .i64 held] 23 (0, 0)) := by rw [← hW0]; exact heap_alloc_new _ _
  have hN0 := hN.below kb
  have HA := fun d os => Calls.regrown_of (number_any kind n held hk (grow (redrawn W0 d) os) (hN0.below ((below_regrown W0 d os))))
  have HB := fun d os => Calls.regrown_of ((Tryd.strconv_Itoa_small (numOf kind n) d3 (grow (redrawn W0 d) os)).mono (fun e w' ⟨he, hw⟩ => (⟨he, by rw [hw]; exact Below.refl _ _⟩ : e = .returned (.string (bs (Lib.decDigits (numOf kind n)))) ∧ Below (grow (redrawn W0 d) os).heap.size (grow (redrawn W0 d) os) w')))
  have HC := fun d os => Calls.regrown_of (heldBehind_any ⟨kind, 0, n, held⟩ h0 h7 (grow (redrawn W0 d) os))
  simp only at HC
  rw [d1] at HB
  obtain ⟨⟨c0, c1, c2, c3⟩, _⟩ := four_cells z0
  have g0 := fun d os => cell_regrown c0 d os
  have g1 := fun d os => cell_regrown c1 d os
  have g2 := fun d os => cell_regrown c2 d os
  have g3 := fun d os => cell_regrown c3 d os
  have e : bs ([27, 91] ++ digB (numOf kind n) ++ heldB held ++ [126]) = ⟨#[27, 91]⟩ ++ bs (digB (numOf kind n)) ++ bs (heldB held) ++ ⟨#[126]⟩ := by
    rw [← Txt.bs_append, ← Txt.bs_append, ← Txt.bs_append]
    rfl
  rw [e]
  have l1 : (bs (digB (numOf kind n))).size ≤ 2 := by rw [bs_size]; exact d2
  have l2 : (bs (heldB held)).size ≤ 2 := by rw [bs_size]; unfold heldB; split <;> simp
  clear e d1 d2 d3 hN hN0 c0 c1 c2 c3 z0
  generalize bs (digB (numOf kind n)) = tA at *
  generalize bs (heldB held) = tB at *
  generalize numOf kind n = nk at *
  have s1 : ¬ 9223372036854775807 < 2 + tA.size := by omega
  have s2 : ¬ 9223372036854775807 < 2 + tA.size + tB.size := by omega
  have s3 : ¬ 9223372036854775807 < 2 + tA.size + tB.size + 1 := by omega
  unfold kyv at HA HC ⊢
  go_enter Tryd.func37, Tryd.ntmps37
  go_wp2_with fail
  refine wp_region_quiet_below (by kernel_rfl) (by kernel_rfl) ?_
  repeat (first | go_big_quiet_skip | quiet_step (first | (go_at_call 57; exact HA _ _) | (go_at_call 23; exact HB _ _) | (go_at_call 56; exact HC _ _)))
  refine wpQuiet_nil ?_
  intro _ hw'
  obtain ⟨⟨dq, os⟩, hw''⟩ := hw'
  subst hw''
  have kR := below_regrown W0 dq os
  have kw := kb.trans (kR.mono kb.size)
  clear g0 g1 g2 g3 HA HB HC kR
  generalize grow (redrawn W0 dq) os = V at *
  go_wp2_with fail
  go_ret
  exact ⟨rfl, kw⟩
end Kys
end Go.Proofs.YtdmooeoklcjplaaDoor
