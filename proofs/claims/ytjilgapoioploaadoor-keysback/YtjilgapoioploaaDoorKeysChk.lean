/- Package keys: Check. (Written by gen_keyschk.py.) -/
import Derived.Test.YtjilgapoioploaaDoorKeysChk0
namespace Go.Proofs.YtjilgapoioploaaDoor
open Go.ChangeShapes Go.WideShapes Go.ChangeAt Go.RowKit
namespace Kys
open Txt (wd)
theorem checkRune_any (k : Ky) (w : World) (hT : Txt.Tab w) (h0 : 0 ≤ k.held) (h7 : k.held ≤ 7) :
    Calls Tryd.prog 24 #[kyv k] w fun e w' => e = .returned (.bool (chkR k)) ∧ Below w.heap.size w w' := by
  obtain ⟨kind, r, n, held⟩ := k
  simp only at h0 h7
  obtain ⟨j, hj, rfl⟩ := held_cases (h := held) h0 h7
  have : j = 0 ∨ j = 1 ∨ j = 2 ∨ j = 3 ∨ j = 4 ∨ j = 5 ∨ j = 6 ∨ j = 7 := by omega
  rcases this with rfl | rfl | rfl | rfl | rfl | rfl | rfl | rfl
  · exact checkRune_0 kind r n w hT
  · exact checkRune_1 kind r n w hT
  · exact checkRune_2 kind r n w hT
  · exact checkRune_3 kind r n w hT
  · exact checkRune_4 kind r n w hT
  · exact checkRune_5 kind r n w hT
  · exact checkRune_6 kind r n w hT
  · exact checkRune_7 kind r n w hT
theorem andNot_two (h : Int) (h0 : 0 ≤ h) (h7 : h ≤ 7) : (bits BinOp.andNot IntKind.i64 h 2 == 0) = decide (h = 0 ∨ h = 2) := by
  obtain ⟨j, hj, rfl⟩ := held_cases (h := h) h0 h7
  have : j = 0 ∨ j = 1 ∨ j = 2 ∨ j = 3 ∨ j = 4 ∨ j = 5 ∨ j = 6 ∨ j = 7 := by omega
  rcases this with rfl | rfl | rfl | rfl | rfl | rfl | rfl | rfl <;> decide +kernel
theorem andNot_one (h : Int) (h0 : 0 ≤ h) (h7 : h ≤ 7) : (bits BinOp.andNot IntKind.i64 h 1 == 0) = decide (h = 0 ∨ h = 1) := by
  obtain ⟨j, hj, rfl⟩ := held_cases (h := h) h0 h7
  have : j = 0 ∨ j = 1 ∨ j = 2 ∨ j = 3 ∨ j = 4 ∨ j = 5 ∨ j = 6 ∨ j = 7 := by omega
  rcases this with rfl | rfl | rfl | rfl | rfl | rfl | rfl | rfl <;> decide +kernel
set_option maxHeartbeats 4000000 in
set_option maxRecDepth 100000 in
theorem check_rk (kind r n held : Int) (w : World) (h0 : 0 ≤ held) (h7 : held ≤ 7) (hr : ¬ r = 0) (hk : ¬ kind = 1) :
    Calls Tryd.prog 11 #[kyv ⟨kind, r, n, held⟩] w fun e w' => e = .returned (.bool (chk ⟨kind, r, n, held⟩)) ∧ Below w.heap.size w w' := by
  have g0 : ¬ held < 0 := Int.not_lt.2 h0
  have g7 : ¬ 7 < held := Int.not_lt.2 h7
  have e : chk ⟨kind, r, n, held⟩ = false := by unfold chk; rw [if_pos (by simp only; omega)]
  rw [e]
  clear e
  have xhr : (r == 0) = false := by rw [beq_eq_false_iff_ne]; exact hr
  have yhr : (r != 0) = true := by rw [bne_iff_ne]; exact hr
  have xhk : (kind == 1) = false := by rw [beq_eq_false_iff_ne]; exact hk
  have yhk : (kind != 1) = true := by rw [bne_iff_ne]; exact hk
  unfold kyv
  go_enter Tryd.func11, Tryd.ntmps11
  go_wp2_with fail
  all_goals go_ret
  all_goals exact ⟨rfl, (Below.refl _ _).alloc (Nat.le_refl _) _⟩
set_option maxHeartbeats 4000000 in
set_option maxRecDepth 100000 in
theorem check_rn (r n held : Int) (w : World) (h0 : 0 ≤ held) (h7 : held ≤ 7) (hr : ¬ r = 0) (hn : ¬ n = 0) :
    Calls Tryd.prog 11 #[kyv ⟨1, r, n, held⟩] w fun e w' => e = .returned (.bool (chk ⟨1, r, n, held⟩)) ∧ Below w.heap.size w w' := by
  have g0 : ¬ held < 0 := Int.not_lt.2 h0
  have g7 : ¬ 7 < held := Int.not_lt.2 h7
  have e : chk ⟨1, r, n, held⟩ = false := by unfold chk; rw [if_pos (by simp only; omega)]
  rw [e]
  clear e
  have xhr : (r == 0) = false := by rw [beq_eq_false_iff_ne]; exact hr
  have yhr : (r != 0) = true := by rw [bne_iff_ne]; exact hr
  have xhn : (n == 0) = false := by rw [beq_eq_false_iff_ne]; exact hn
  have yhn : (n != 0) = true := by rw [bne_iff_ne]; exact hn
  unfold kyv
  go_enter Tryd.func11, Tryd.ntmps11
  go_wp2_with fail
  all_goals go_ret
  all_goals exact ⟨rfl, (Below.refl _ _).alloc (Nat.le_refl _) _⟩
set_option maxHeartbeats 4000000 in
set_option maxRecDepth 100000 in
theorem check_rr (r held : Int) (w : World) (h0 : 0 ≤ held) (h7 : held ≤ 7) (hr : ¬ r = 0) (hT : Txt.Tab w) :
    Calls Tryd.prog 11 #[kyv ⟨1, r, 0, held⟩] w fun e w' => e = .returned (.bool (chk ⟨1, r, 0, held⟩)) ∧ Below w.heap.size w w' := by
  have g0 : ¬ held < 0 := Int.not_lt.2 h0
  have g7 : ¬ 7 < held := Int.not_lt.2 h7
  have xhr : (r == 0) = false := by rw [beq_eq_false_iff_ne]; exact hr
  have yhr : (r != 0) = true := by rw [bne_iff_ne]; exact hr
  have kb : Below w.heap.size w (w.alloc (.cells #[.int .i64 1, .int .i32 r, .int .i64 0, .int .i64 held] 23)) := (Below.refl _ _).alloc (Nat.le_refl _) _
  have HW := checkRune_any ⟨1, r, 0, held⟩ _ (Tab.alloc hT (.cells #[.int .i64 1, .int .i32 r, .int .i64 0, .int .i64 held] 23)) h0 h7
  have e : chk ⟨1, r, 0, held⟩ = chkR ⟨1, r, 0, held⟩ := by unfold chk; rw [if_neg (by simp only; omega), if_pos rfl]
  rw [e]
  clear e hT
  generalize chkR ⟨1, r, 0, held⟩ = d at *
  unfold kyv at HW ⊢
  go_enter Tryd.func11, Tryd.ntmps11
  go_wp2_with (go_at_call 24; refine HW.mono ?_; rintro e W1 ⟨rfl, b1⟩; replace kb := kb.trans (b1.mono kb.size))
  go_ret
  exact ⟨rfl, kb⟩
set_option maxHeartbeats 4000000 in
set_option maxRecDepth 100000 in
theorem check_nk (kind n held : Int) (w : World) (h0 : 0 ≤ held) (h7 : held ≤ 7) (hn : ¬ n = 0) (hk : ¬ kind = 15) :
    Calls Tryd.prog 11 #[kyv ⟨kind, 0, n, held⟩] w fun e w' => e = .returned (.bool (chk ⟨kind, 0, n, held⟩)) ∧ Below w.heap.size w w' := by
  have g0 : ¬ held < 0 := Int.not_lt.2 h0
  have g7 : ¬ 7 < held := Int.not_lt.2 h7
  have e : chk ⟨kind, 0, n, held⟩ = false := by unfold chk; rw [if_pos (by simp only; omega)]
  rw [e]
  clear e
  have xhn : (n == 0) = false := by rw [beq_eq_false_iff_ne]; exact hn
  have yhn : (n != 0) = true := by rw [bne_iff_ne]; exact hn
  have xhk : (kind == 15) = false := by rw [beq_eq_false_iff_ne]; exact hk
  have yhk : (kind != 15) = true := by rw [bne_iff_ne]; exact hk
  unfold kyv
  go_enter Tryd.func11, Tryd.ntmps11
  go_wp2_with fail
  all_goals go_ret
  all_goals exact ⟨rfl, (Below.refl _ _).alloc (Nat.le_refl _) _⟩
set_option maxHeartbeats 4000000 in
set_option maxRecDepth 100000 in
theorem check_f0 (n held : Int) (w : World) (h0 : 0 ≤ held) (h7 : held ≤ 7) (hn : ¬ n = 0) (h1 : ¬ 1 ≤ n) :
    Calls Tryd.prog 11 #[kyv ⟨15, 0, n, held⟩] w fun e w' => e = .returned (.bool (chk ⟨15, 0, n, held⟩)) ∧ Below w.heap.size w w' := by
  have g0 : ¬ held < 0 := Int.not_lt.2 h0
  have g7 : ¬ 7 < held := Int.not_lt.2 h7
  have e : chk ⟨15, 0, n, held⟩ = false := by unfold chk; rw [if_neg (by simp only; omega), if_neg (by simp), if_neg (by simp), if_neg (by simp), if_neg (by simp), if_pos rfl]; exact decide_eq_false (by simp only; omega)
  rw [e]
  clear e
  have xhn : (n == 0) = false := by rw [beq_eq_false_iff_ne]; exact hn
  have yhn : (n != 0) = true := by rw [bne_iff_ne]; exact hn
  unfold kyv
  go_enter Tryd.func11, Tryd.ntmps11
  go_wp2_with fail
  all_goals go_ret
  all_goals exact ⟨rfl, (Below.refl _ _).alloc (Nat.le_refl _) _⟩
set_option maxHeartbeats 4000000 in
set_option maxRecDepth 100000 in
theorem check_f1 (n held : Int) (w : World) (h0 : 0 ≤ held) (h7 : held ≤ 7) (hn : ¬ n = 0) (h1 : 1 ≤ n) (h2 : n ≤ 12) :
    Calls Tryd.prog 11 #[kyv ⟨15, 0, n, held⟩] w fun e w' => e = .returned (.bool (chk ⟨15, 0, n, held⟩)) ∧ Below w.heap.size w w' := by
  have g0 : ¬ held < 0 := Int.not_lt.2 h0
  have g7 : ¬ 7 < held := Int.not_lt.2 h7
  have e : chk ⟨15, 0, n, held⟩ = true := by unfold chk; rw [if_neg (by simp only; omega), if_neg (by simp), if_neg (by simp), if_neg (by simp), if_neg (by simp), if_pos rfl]; exact decide_eq_true (by simp only; omega)
  rw [e]
  clear e
  have xhn : (n == 0) = false := by rw [beq_eq_false_iff_ne]; exact hn
  have yhn : (n != 0) = true := by rw [bne_iff_ne]; exact hn
  unfold kyv
  go_enter Tryd.func11, Tryd.ntmps11
  go_wp2_with fail
  all_goals go_ret
  all_goals exact ⟨rfl, (Below.refl _ _).alloc (Nat.le_refl _) _⟩
set_option maxHeartbeats 4000000 in
set_option maxRecDepth 100000 in
theorem check_f2 (n held : Int) (w : World) (h0 : 0 ≤ held) (h7 : held ≤ 7) (hn : ¬ n = 0) (h1 : 1 ≤ n) (h2 : ¬ n ≤ 12) :
    Calls Tryd.prog 11 #[kyv ⟨15, 0, n, held⟩] w fun e w' => e = .returned (.bool (chk ⟨15, 0, n, held⟩)) ∧ Below w.heap.size w w' := by
  have g0 : ¬ held < 0 := Int.not_lt.2 h0
  have g7 : ¬ 7 < held := Int.not_lt.2 h7
  have e : chk ⟨15, 0, n, held⟩ = false := by unfold chk; rw [if_neg (by simp only; omega), if_neg (by simp), if_neg (by simp), if_neg (by simp), if_neg (by simp), if_pos rfl]; exact decide_eq_false (by simp only; omega)
  rw [e]
  clear e
  have xhn : (n == 0) = false := by rw [beq_eq_false_iff_ne]; exact hn
  have yhn : (n != 0) = true := by rw [bne_iff_ne]; exact hn
  unfold kyv
  go_enter Tryd.func11, Tryd.ntmps11
  go_wp2_with fail
  all_goals go_ret
  all_goals exact ⟨rfl, (Below.refl _ _).alloc (Nat.le_refl _) _⟩
set_option maxHeartbeats 4000000 in
set_option maxRecDepth 100000 in
theorem check_fz (held : Int) (w : World) (h0 : 0 ≤ held) (h7 : held ≤ 7) :
    Calls Tryd.prog 11 #[kyv ⟨15, 0, 0, held⟩] w fun e w' => e = .returned (.bool (chk ⟨15, 0, 0, held⟩)) ∧ Below w.heap.size w w' := by
  have g0 : ¬ held < 0 := Int.not_lt.2 h0
  have g7 : ¬ 7 < held := Int.not_lt.2 h7
  have e : chk ⟨15, 0, 0, held⟩ = false := by unfold chk; rw [if_neg (by simp only; omega), if_neg (by simp), if_neg (by simp), if_neg (by simp), if_neg (by simp), if_pos rfl]; rfl
  rw [e]
  clear e
  unfold kyv
  go_enter Tryd.func11, Tryd.ntmps11
  go_wp2_with fail
  all_goals go_ret
  all_goals exact ⟨rfl, (Below.refl _ _).alloc (Nat.le_refl _) _⟩
set_option maxHeartbeats 4000000 in
set_option maxRecDepth 100000 in
theorem check_r0 (held : Int) (w : World) (h0 : 0 ≤ held) (h7 : held ≤ 7) (hT : Txt.Tab w) :
    Calls Tryd.prog 11 #[kyv ⟨1, 0, 0, held⟩] w fun e w' => e = .returned (.bool (chk ⟨1, 0, 0, held⟩)) ∧ Below w.heap.size w w' := by
  have g0 : ¬ held < 0 := Int.not_lt.2 h0
  have g7 : ¬ 7 < held := Int.not_lt.2 h7
  have kb : Below w.heap.size w (w.alloc (.cells #[.int .i64 1, .int .i32 0, .int .i64 0, .int .i64 held] 23)) := (Below.refl _ _).alloc (Nat.le_refl _) _
  have HW := checkRune_any ⟨1, 0, 0, held⟩ _ (Tab.alloc hT (.cells #[.int .i64 1, .int .i32 0, .int .i64 0, .int .i64 held] 23)) h0 h7
  have e : chk ⟨1, 0, 0, held⟩ = chkR ⟨1, 0, 0, held⟩ := by unfold chk; rw [if_neg (by simp only; omega), if_pos rfl]
  rw [e]
  clear e hT
  generalize chkR ⟨1, 0, 0, held⟩ = d at *
  unfold kyv at HW ⊢
  go_enter Tryd.func11, Tryd.ntmps11
  go_wp2_with (go_at_call 24; refine HW.mono ?_; rintro e W1 ⟨rfl, b1⟩; replace kb := kb.trans (b1.mono kb.size))
  go_ret
  exact ⟨rfl, kb⟩
set_option maxHeartbeats 4000000 in
set_option maxRecDepth 100000 in
theorem check_k2y (held : Int) (w : World) (h0 : 0 ≤ held) (h7 : held ≤ 7) (hc : (held = 0 ∨ held = 2)) :
    Calls Tryd.prog 11 #[kyv ⟨2, 0, 0, held⟩] w fun e w' => e = .returned (.bool (chk ⟨2, 0, 0, held⟩)) ∧ Below w.heap.size w w' := by
  have g0 : ¬ held < 0 := Int.not_lt.2 h0
  have g7 : ¬ 7 < held := Int.not_lt.2 h7
  have e : chk ⟨2, 0, 0, held⟩ = true := by unfold chk; rw [if_neg (by simp only; omega), if_neg (by simp), if_pos (by simp)]; exact decide_eq_true hc
  rw [e]
  clear e
  have hb : (bits BinOp.andNot IntKind.i64 held 2 == 0) = true := by rw [andNot_two held h0 h7]; exact decide_eq_true hc
  unfold kyv
  go_enter Tryd.func11, Tryd.ntmps11
  go_wp2_with fail
  all_goals go_ret
  all_goals exact ⟨rfl, (Below.refl _ _).alloc (Nat.le_refl _) _⟩
set_option maxHeartbeats 4000000 in
set_option maxRecDepth 100000 in
theorem check_k2n (held : Int) (w : World) (h0 : 0 ≤ held) (h7 : held ≤ 7) (hc : ¬ (held = 0 ∨ held = 2)) :
    Calls Tryd.prog 11 #[kyv ⟨2, 0, 0, held⟩] w fun e w' => e = .returned (.bool (chk ⟨2, 0, 0, held⟩)) ∧ Below w.heap.size w w' := by
  have g0 : ¬ held < 0 := Int.not_lt.2 h0
  have g7 : ¬ 7 < held := Int.not_lt.2 h7
  have e : chk ⟨2, 0, 0, held⟩ = false := by unfold chk; rw [if_neg (by simp only; omega), if_neg (by simp), if_pos (by simp)]; exact decide_eq_false hc
  rw [e]
  clear e
  have hb : (bits BinOp.andNot IntKind.i64 held 2 == 0) = false := by rw [andNot_two held h0 h7]; exact decide_eq_false hc
  unfold kyv
  go_enter Tryd.func11, Tryd.ntmps11
  go_wp2_with fail
  all_goals go_ret
  all_goals exact ⟨rfl, (Below.refl _ _).alloc (Nat.le_refl _) _⟩
set_option maxHeartbeats 4000000 in
set_option maxRecDepth 100000 in
theorem check_k4y (held : Int) (w : World) (h0 : 0 ≤ held) (h7 : held ≤ 7) (hc : (held = 0 ∨ held = 2)) :
    Calls Tryd.prog 11 #[kyv ⟨4, 0, 0, held⟩] w fun e w' => e = .returned (.bool (chk ⟨4, 0, 0, held⟩)) ∧ Below w.heap.size w w' := by
  have g0 : ¬ held < 0 := Int.not_lt.2 h0
  have g7 : ¬ 7 < held := Int.not_lt.2 h7
  have e : chk ⟨4, 0, 0, held⟩ = true := by unfold chk; rw [if_neg (by simp only; omega), if_neg (by simp), if_pos (by simp)]; exact decide_eq_true hc
  rw [e]
  clear e
  have hb : (bits BinOp.andNot IntKind.i64 held 2 == 0) = true := by rw [andNot_two held h0 h7]; exact decide_eq_true hc
  unfold kyv
  go_enter Tryd.func11, Tryd.ntmps11
  go_wp2_with fail
  all_goals go_ret
  all_goals exact ⟨rfl, (Below.refl _ _).alloc (Nat.le_refl _) _⟩
set_option maxHeartbeats 4000000 in
set_option maxRecDepth 100000 in
theorem check_k4n (held : Int) (w : World) (h0 : 0 ≤ held) (h7 : held ≤ 7) (hc : ¬ (held = 0 ∨ held = 2)) :
    Calls Tryd.prog 11 #[kyv ⟨4, 0, 0, held⟩] w fun e w' => e = .returned (.bool (chk ⟨4, 0, 0, held⟩)) ∧ Below w.heap.size w w' := by
  have g0 : ¬ held < 0 := Int.not_lt.2 h0
  have g7 : ¬ 7 < held := Int.not_lt.2 h7
  have e : chk ⟨4, 0, 0, held⟩ = false := by unfold chk; rw [if_neg (by simp only; omega), if_neg (by simp), if_pos (by simp)]; exact decide_eq_false hc
  rw [e]
  clear e
  have hb : (bits BinOp.andNot IntKind.i64 held 2 == 0) = false := by rw [andNot_two held h0 h7]; exact decide_eq_false hc
  unfold kyv
  go_enter Tryd.func11, Tryd.ntmps11
  go_wp2_with fail
  all_goals go_ret
  all_goals exact ⟨rfl, (Below.refl _ _).alloc (Nat.le_refl _) _⟩
set_option maxHeartbeats 4000000 in
set_option maxRecDepth 100000 in
theorem check_k3y (held : Int) (w : World) (h0 : 0 ≤ held) (h7 : held ≤ 7) (hc : (held = 0 ∨ held = 1)) :
    Calls Tryd.prog 11 #[kyv ⟨3, 0, 0, held⟩] w fun e w' => e = .returned (.bool (chk ⟨3, 0, 0, held⟩)) ∧ Below w.heap.size w w' := by
  have g0 : ¬ held < 0 := Int.not_lt.2 h0
  have g7 : ¬ 7 < held := Int.not_lt.2 h7
  have e : chk ⟨3, 0, 0, held⟩ = true := by unfold chk; rw [if_neg (by simp only; omega), if_neg (by simp), if_neg (by simp), if_pos rfl]; exact decide_eq_true hc
  rw [e]
  clear e
  have hb : (bits BinOp.andNot IntKind.i64 held 1 == 0) = true := by rw [andNot_one held h0 h7]; exact decide_eq_true hc
  unfold kyv
  go_enter Tryd.func11, Tryd.ntmps11
  go_wp2_with fail
  all_goals go_ret
  all_goals exact ⟨rfl, (Below.refl _ _).alloc (Nat.le_refl _) _⟩
set_option maxHeartbeats 4000000 in
set_option maxRecDepth 100000 in
theorem check_k3n (held : Int) (w : World) (h0 : 0 ≤ held) (h7 : held ≤ 7) (hc : ¬ (held = 0 ∨ held = 1)) :
    Calls Tryd.prog 11 #[kyv ⟨3, 0, 0, held⟩] w fun e w' => e = .returned (.bool (chk ⟨3, 0, 0, held⟩)) ∧ Below w.heap.size w w' := by
  have g0 : ¬ held < 0 := Int.not_lt.2 h0
  have g7 : ¬ 7 < held := Int.not_lt.2 h7
  have e : chk ⟨3, 0, 0, held⟩ = false := by unfold chk; rw [if_neg (by simp only; omega), if_neg (by simp), if_neg (by simp), if_pos rfl]; exact decide_eq_false hc
  rw [e]
  clear e
  have hb : (bits BinOp.andNot IntKind.i64 held 1 == 0) = false := by rw [andNot_one held h0 h7]; exact decide_eq_false hc
  unfold kyv
  go_enter Tryd.func11, Tryd.ntmps11
  go_wp2_with fail
  all_goals go_ret
  all_goals exact ⟨rfl, (Below.refl _ _).alloc (Nat.le_refl _) _⟩
set_option maxHeartbeats 4000000 in
set_option maxRecDepth 100000 in
theorem check_k5y (held : Int) (w : World) (h0 : 0 ≤ held) (h7 : held ≤ 7) (hc : held = 0) :
    Calls Tryd.prog 11 #[kyv ⟨5, 0, 0, held⟩] w fun e w' => e = .returned (.bool (chk ⟨5, 0, 0, held⟩)) ∧ Below w.heap.size w w' := by
  have g0 : ¬ held < 0 := Int.not_lt.2 h0
  have g7 : ¬ 7 < held := Int.not_lt.2 h7
  have e : chk ⟨5, 0, 0, held⟩ = true := by unfold chk; rw [if_neg (by simp only; omega), if_neg (by simp), if_neg (by simp), if_neg (by simp), if_pos rfl]; exact decide_eq_true hc
  rw [e]
  clear e
  unfold kyv
  go_enter Tryd.func11, Tryd.ntmps11
  go_wp2_with fail
  all_goals go_ret
  all_goals exact ⟨rfl, (Below.refl _ _).alloc (Nat.le_refl _) _⟩
set_option maxHeartbeats 4000000 in
set_option maxRecDepth 100000 in
theorem check_k5n (held : Int) (w : World) (h0 : 0 ≤ held) (h7 : held ≤ 7) (hc : ¬ held = 0) :
    Calls Tryd.prog 11 #[kyv ⟨5, 0, 0, held⟩] w fun e w' => e = .returned (.bool (chk ⟨5, 0, 0, held⟩)) ∧ Below w.heap.size w w' := by
  have g0 : ¬ held < 0 := Int.not_lt.2 h0
  have g7 : ¬ 7 < held := Int.not_lt.2 h7
  have e : chk ⟨5, 0, 0, held⟩ = false := by unfold chk; rw [if_neg (by simp only; omega), if_neg (by simp), if_neg (by simp), if_neg (by simp), if_pos rfl]; exact decide_eq_false hc
  rw [e]
  clear e
  have xhc : (held == 0) = false := by rw [beq_eq_false_iff_ne]; exact hc
  have yhc : (held != 0) = true := by rw [bne_iff_ne]; exact hc
  unfold kyv
  go_enter Tryd.func11, Tryd.ntmps11
  go_wp2_with fail
  all_goals go_ret
  all_goals exact ⟨rfl, (Below.refl _ _).alloc (Nat.le_refl _) _⟩
set_option maxHeartbeats 4000000 in
set_option maxRecDepth 100000 in
theorem check_o0 (kind held : Int) (w : World) (h0 : 0 ≤ held) (h7 : held ≤ 7) (a1 : ¬ kind = 1) (a2 : ¬ kind = 2) (a4 : ¬ kind = 4) (a3 : ¬ kind = 3) (a5 : ¬ kind = 5) (a15 : ¬ kind = 15) (h1 : ¬ 6 ≤ kind) :
    Calls Tryd.prog 11 #[kyv ⟨kind, 0, 0, held⟩] w fun e w' => e = .returned (.bool (chk ⟨kind, 0, 0, held⟩)) ∧ Below w.heap.size w w' := by
  have g0 : ¬ held < 0 := Int.not_lt.2 h0
  have g7 : ¬ 7 < held := Int.not_lt.2 h7
  have e : chk ⟨kind, 0, 0, held⟩ = false := by unfold chk; rw [if_neg (by simp only; omega), if_neg (by simp only; omega), if_neg (by simp only; omega), if_neg (by simp only; omega), if_neg (by simp only; omega), if_neg (by simp only; omega)]; exact decide_eq_false (by simp only; omega)
  rw [e]
  clear e
  have xa1 : (kind == 1) = false := by rw [beq_eq_false_iff_ne]; exact a1
  have ya1 : (kind != 1) = true := by rw [bne_iff_ne]; exact a1
  have xa2 : (kind == 2) = false := by rw [beq_eq_false_iff_ne]; exact a2
  have ya2 : (kind != 2) = true := by rw [bne_iff_ne]; exact a2
  have xa4 : (kind == 4) = false := by rw [beq_eq_false_iff_ne]; exact a4
  have ya4 : (kind != 4) = true := by rw [bne_iff_ne]; exact a4
  have xa3 : (kind == 3) = false := by rw [beq_eq_false_iff_ne]; exact a3
  have ya3 : (kind != 3) = true := by rw [bne_iff_ne]; exact a3
  have xa5 : (kind == 5) = false := by rw [beq_eq_false_iff_ne]; exact a5
  have ya5 : (kind != 5) = true := by rw [bne_iff_ne]; exact a5
  have xa15 : (kind == 15) = false := by rw [beq_eq_false_iff_ne]; exact a15
  have ya15 : (kind != 15) = true := by rw [bne_iff_ne]; exact a15
  unfold kyv
  go_enter Tryd.func11, Tryd.ntmps11
  go_wp2_with fail
  all_goals go_ret
  all_goals exact ⟨rfl, (Below.refl _ _).alloc (Nat.le_refl _) _⟩
set_option maxHeartbeats 4000000 in
set_option maxRecDepth 100000 in
theorem check_o1 (kind held : Int) (w : World) (h0 : 0 ≤ held) (h7 : held ≤ 7) (a1 : ¬ kind = 1) (a2 : ¬ kind = 2) (a4 : ¬ kind = 4) (a3 : ¬ kind = 3) (a5 : ¬ kind = 5) (a15 : ¬ kind = 15) (h1 : 6 ≤ kind) (h2 : kind ≤ 14) :
    Calls Tryd.prog 11 #[kyv ⟨kind, 0, 0, held⟩] w fun e w' => e = .returned (.bool (chk ⟨kind, 0, 0, held⟩)) ∧ Below w.heap.size w w' := by
  have g0 : ¬ held < 0 := Int.not_lt.2 h0
  have g7 : ¬ 7 < held := Int.not_lt.2 h7
  have e : chk ⟨kind, 0, 0, held⟩ = true := by unfold chk; rw [if_neg (by simp only; omega), if_neg (by simp only; omega), if_neg (by simp only; omega), if_neg (by simp only; omega), if_neg (by simp only; omega), if_neg (by simp only; omega)]; exact decide_eq_true (by simp only; omega)
  rw [e]
  clear e
  have xa1 : (kind == 1) = false := by rw [beq_eq_false_iff_ne]; exact a1
  have ya1 : (kind != 1) = true := by rw [bne_iff_ne]; exact a1
  have xa2 : (kind == 2) = false := by rw [beq_eq_false_iff_ne]; exact a2
  have ya2 : (kind != 2) = true := by rw [bne_iff_ne]; exact a2
  have xa4 : (kind == 4) = false := by rw [beq_eq_false_iff_ne]; exact a4
  have ya4 : (kind != 4) = true := by rw [bne_iff_ne]; exact a4
  have xa3 : (kind == 3) = false := by rw [beq_eq_false_iff_ne]; exact a3
  have ya3 : (kind != 3) = true := by rw [bne_iff_ne]; exact a3
  have xa5 : (kind == 5) = false := by rw [beq_eq_false_iff_ne]; exact a5
  have ya5 : (kind != 5) = true := by rw [bne_iff_ne]; exact a5
  have xa15 : (kind == 15) = false := by rw [beq_eq_false_iff_ne]; exact a15
  have ya15 : (kind != 15) = true := by rw [bne_iff_ne]; exact a15
  unfold kyv
  go_enter Tryd.func11, Tryd.ntmps11
  go_wp2_with fail
  all_goals go_ret
  all_goals exact ⟨rfl, (Below.refl _ _).alloc (Nat.le_refl _) _⟩
set_option maxHeartbeats 4000000 in
set_option maxRecDepth 100000 in
theorem check_o2 (kind held : Int) (w : World) (h0 : 0 ≤ held) (h7 : held ≤ 7) (a1 : ¬ kind = 1) (a2 : ¬ kind = 2) (a4 : ¬ kind = 4) (a3 : ¬ kind = 3) (a5 : ¬ kind = 5) (a15 : ¬ kind = 15) (h1 : 6 ≤ kind) (h2 : ¬ kind ≤ 14) :
    Calls Tryd.prog 11 #[kyv ⟨kind, 0, 0, held⟩] w fun e w' => e = .returned (.bool (chk ⟨kind, 0, 0, held⟩)) ∧ Below w.heap.size w w' := by
  have g0 : ¬ held < 0 := Int.not_lt.2 h0
  have g7 : ¬ 7 < held := Int.not_lt.2 h7
  have e : chk ⟨kind, 0, 0, held⟩ = false := by unfold chk; rw [if_neg (by simp only; omega), if_neg (by simp only; omega), if_neg (by simp only; omega), if_neg (by simp only; omega), if_neg (by simp only; omega), if_neg (by simp only; omega)]; exact decide_eq_false (by simp only; omega)
  rw [e]
  clear e
  have xa1 : (kind == 1) = false := by rw [beq_eq_false_iff_ne]; exact a1
  have ya1 : (kind != 1) = true := by rw [bne_iff_ne]; exact a1
  have xa2 : (kind == 2) = false := by rw [beq_eq_false_iff_ne]; exact a2
  have ya2 : (kind != 2) = true := by rw [bne_iff_ne]; exact a2
  have xa4 : (kind == 4) = false := by rw [beq_eq_false_iff_ne]; exact a4
  have ya4 : (kind != 4) = true := by rw [bne_iff_ne]; exact a4
  have xa3 : (kind == 3) = false := by rw [beq_eq_false_iff_ne]; exact a3
  have ya3 : (kind != 3) = true := by rw [bne_iff_ne]; exact a3
  have xa5 : (kind == 5) = false := by rw [beq_eq_false_iff_ne]; exact a5
  have ya5 : (kind != 5) = true := by rw [bne_iff_ne]; exact a5
  have xa15 : (kind == 15) = false := by rw [beq_eq_false_iff_ne]; exact a15
  have ya15 : (kind != 15) = true := by rw [bne_iff_ne]; exact a15
  unfold kyv
  go_enter Tryd.func11, Tryd.ntmps11
  go_wp2_with fail
  all_goals go_ret
  all_goals exact ⟨rfl, (Below.refl _ _).alloc (Nat.le_refl _) _⟩
set_option maxHeartbeats 4000000 in
set_option maxRecDepth 100000 in
theorem check_lo (k : Ky) (w : World) (h : k.held < 0) :
    Calls Tryd.prog 11 #[kyv k] w fun e w' => e = .returned (.bool false) ∧ Below w.heap.size w w' := by
  unfold kyv
  go_enter Tryd.func11, Tryd.ntmps11
  go_wp2_with fail
  go_ret
  exact ⟨rfl, (Below.refl _ _).alloc (Nat.le_refl _) _⟩
set_option maxHeartbeats 4000000 in
set_option maxRecDepth 100000 in
theorem check_hi (k : Ky) (w : World) (h : 7 < k.held) :
    Calls Tryd.prog 11 #[kyv k] w fun e w' => e = .returned (.bool false) ∧ Below w.heap.size w w' := by
  unfold kyv
  have h' : ¬ k.held < 0 := by omega
  go_enter Tryd.func11, Tryd.ntmps11
  go_wp2_with fail
  go_ret
  exact ⟨rfl, (Below.refl _ _).alloc (Nat.le_refl _) _⟩
theorem check_any (k : Ky) (w : World) (hT : Txt.Tab w) :
    Calls Tryd.prog 11 #[kyv k] w fun e w' => e = .returned (.bool (chk k)) ∧ Below w.heap.size w w' := by
  by_cases hl : k.held < 0
  · rw [show chk k = false by unfold chk; rw [if_pos (by omega)]]
    exact check_lo k w hl
  · by_cases hh : 7 < k.held
    · rw [show chk k = false by unfold chk; rw [if_pos (by omega)]]
      exact check_hi k w hh
    · obtain ⟨kind, r, n, held⟩ := k
      simp only at hl hh
      have h0 : 0 ≤ held := by omega
      have h7 : held ≤ 7 := by omega
      by_cases hr : r = 0
      · subst hr
        by_cases hn : n = 0
        · subst hn
          by_cases a1 : kind = 1
          · subst a1; exact check_r0 held w h0 h7 hT
          by_cases a2 : kind = 2
          · subst a2
            by_cases hc : held = 0 ∨ held = 2
            · exact check_k2y held w h0 h7 hc
            · exact check_k2n held w h0 h7 hc
          by_cases a4 : kind = 4
          · subst a4
            by_cases hc : held = 0 ∨ held = 2
            · exact check_k4y held w h0 h7 hc
            · exact check_k4n held w h0 h7 hc
          by_cases a3 : kind = 3
          · subst a3
            by_cases hc : held = 0 ∨ held = 1
            · exact check_k3y held w h0 h7 hc
            · exact check_k3n held w h0 h7 hc
          by_cases a5 : kind = 5
          · subst a5
            by_cases hc : held = 0
            · exact check_k5y held w h0 h7 hc
            · exact check_k5n held w h0 h7 hc
          by_cases a15 : kind = 15
          · subst a15; exact check_fz held w h0 h7
          by_cases h1 : 6 ≤ kind
          · by_cases h2 : kind ≤ 14
            · exact check_o1 kind held w h0 h7 a1 a2 a4 a3 a5 a15 h1 h2
            · exact check_o2 kind held w h0 h7 a1 a2 a4 a3 a5 a15 h1 h2
          · exact check_o0 kind held w h0 h7 a1 a2 a4 a3 a5 a15 h1
        · by_cases hk : kind = 15
          · subst hk
            by_cases h1 : 1 ≤ n
            · by_cases h2 : n ≤ 12
              · exact check_f1 n held w h0 h7 hn h1 h2
              · exact check_f2 n held w h0 h7 hn h1 h2
            · exact check_f0 n held w h0 h7 hn h1
          · exact check_nk kind n held w h0 h7 hn hk
      · by_cases hk : kind = 1
        · subst hk
          by_cases hn : n = 0
          · subst hn; exact check_rr r held w h0 h7 hr hT
          · exact check_rn r n held w h0 h7 hr hn
        · exact check_rk kind r n held w h0 h7 hr hk
end Kys
end Go.Proofs.YtjilgapoioploaaDoor
