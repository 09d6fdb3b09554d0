/- Package keys: Check. (Written by gen_keyschk.py.) -/
import Derived.Test.YtjilgapoioploaaDoorKeysB
import Derived.Test.YtjilgapoioploaaDoorTextWidth
import Derived.Laws.Tables
import Derived.WalkSmall
namespace Go.Proofs.YtjilgapoioploaaDoor
open Go.ChangeShapes Go.WideShapes Go.ChangeAt Go.RowKit
namespace Kys
open Txt (wd)
def kyv (k : Ky) : Value := .agg #[.int .i64 k.kind, .int .i32 k.r, .int .i64 k.n, .int .i64 k.held]
theorem ret_bool {a b : Bool} (h : a = b) : Ending.returned (.bool a) = .returned (.bool b) := by rw [h]
theorem Tab.alloc {w : World} (h : Txt.Tab w) (o : Obj) : Txt.Tab (w.alloc o) := h.below ((Below.refl _ _).alloc (Nat.le_refl _) o) h.pos
set_option maxHeartbeats 4000000 in
set_option maxRecDepth 100000 in
theorem checkRune_0 (kind r n : Int) (w : World) (hT : Txt.Tab w) :
    Calls Tryd.prog 24 #[kyv ⟨kind, r, n, 0⟩] w fun e w' => e = .returned (.bool (chkR ⟨kind, r, n, 0⟩)) ∧ Below w.heap.size w w' := by
  have kb : Below w.heap.size w (w.alloc (.cells #[.int .i64 kind, .int .i32 r, .int .i64 n, .int .i64 0] 23)) := (Below.refl _ _).alloc (Nat.le_refl _) _
  have HW := Txt.width_any r _ (Tab.alloc hT (.cells #[.int .i64 kind, .int .i32 r, .int .i64 n, .int .i64 0] 23))
  clear hT
  unfold kyv chkR
  simp only
  generalize wd r = d at *
  have hb1 : bits BinOp.and IntKind.i64 0 1 = 0 := by kernel_rfl
  have hb2 : bits BinOp.and IntKind.i64 0 2 = 0 := by kernel_rfl
  have hb4 : bits BinOp.and IntKind.i64 0 4 = 0 := by kernel_rfl
  go_enter Tryd.func24, Tryd.ntmps24
  go_wp2_with (go_at_call 41; refine HW.mono ?_; rintro e W1 ⟨rfl, b1⟩; replace kb := kb.trans (b1.mono kb.size))
  all_goals go_ret
  all_goals refine ⟨ret_bool ?_, by first | exact (Below.refl _ _).alloc (Nat.le_refl _) _ | exact kb⟩
  all_goals simp_all
  all_goals first | rfl | omega | (have h5 : (r != 109) = !decide (r = 109) := rfl; simp_all)
set_option maxHeartbeats 4000000 in
set_option maxRecDepth 100000 in
theorem checkRune_1 (kind r n : Int) (w : World) (hT : Txt.Tab w) :
    Calls Tryd.prog 24 #[kyv ⟨kind, r, n, 1⟩] w fun e w' => e = .returned (.bool (chkR ⟨kind, r, n, 1⟩)) ∧ Below w.heap.size w w' := by
  have kb : Below w.heap.size w (w.alloc (.cells #[.int .i64 kind, .int .i32 r, .int .i64 n, .int .i64 1] 23)) := (Below.refl _ _).alloc (Nat.le_refl _) _
  have HW := Txt.width_any r _ (Tab.alloc hT (.cells #[.int .i64 kind, .int .i32 r, .int .i64 n, .int .i64 1] 23))
  clear hT
  unfold kyv chkR
  simp only
  generalize wd r = d at *
  have hb1 : bits BinOp.and IntKind.i64 1 1 = 1 := by kernel_rfl
  have hb2 : bits BinOp.and IntKind.i64 1 2 = 0 := by kernel_rfl
  have hb4 : bits BinOp.and IntKind.i64 1 4 = 0 := by kernel_rfl
  go_enter Tryd.func24, Tryd.ntmps24
  go_wp2_with (go_at_call 41; refine HW.mono ?_; rintro e W1 ⟨rfl, b1⟩; replace kb := kb.trans (b1.mono kb.size))
  all_goals go_ret
  all_goals refine ⟨ret_bool ?_, by first | exact (Below.refl _ _).alloc (Nat.le_refl _) _ | exact kb⟩
  all_goals simp_all
  all_goals first | rfl | omega | (have h5 : (r != 109) = !decide (r = 109) := rfl; simp_all)
set_option maxHeartbeats 4000000 in
set_option maxRecDepth 100000 in
theorem checkRune_2 (kind r n : Int) (w : World) (hT : Txt.Tab w) :
    Calls Tryd.prog 24 #[kyv ⟨kind, r, n, 2⟩] w fun e w' => e = .returned (.bool (chkR ⟨kind, r, n, 2⟩)) ∧ Below w.heap.size w w' := by
  have kb : Below w.heap.size w (w.alloc (.cells #[.int .i64 kind, .int .i32 r, .int .i64 n, .int .i64 2] 23)) := (Below.refl _ _).alloc (Nat.le_refl _) _
  have HW := Txt.width_any r _ (Tab.alloc hT (.cells #[.int .i64 kind, .int .i32 r, .int .i64 n, .int .i64 2] 23))
  clear hT
  unfold kyv chkR
  simp only
  generalize wd r = d at *
  have hb1 : bits BinOp.and IntKind.i64 2 1 = 0 := by kernel_rfl
  have hb2 : bits BinOp.and IntKind.i64 2 2 = 2 := by kernel_rfl
  have hb4 : bits BinOp.and IntKind.i64 2 4 = 0 := by kernel_rfl
  go_enter Tryd.func24, Tryd.ntmps24
  go_wp2_with (go_at_call 41; refine HW.mono ?_; rintro e W1 ⟨rfl, b1⟩; replace kb := kb.trans (b1.mono kb.size))
  all_goals go_ret
  all_goals refine ⟨ret_bool ?_, by first | exact (Below.refl _ _).alloc (Nat.le_refl _) _ | exact kb⟩
  all_goals simp_all
  all_goals first | rfl | omega | (have h5 : (r != 109) = !decide (r = 109) := rfl; simp_all)
set_option maxHeartbeats 4000000 in
set_option maxRecDepth 100000 in
theorem checkRune_3 (kind r n : Int) (w : World) (hT : Txt.Tab w) :
    Calls Tryd.prog 24 #[kyv ⟨kind, r, n, 3⟩] w fun e w' => e = .returned (.bool (chkR ⟨kind, r, n, 3⟩)) ∧ Below w.heap.size w w' := by
  have kb : Below w.heap.size w (w.alloc (.cells #[.int .i64 kind, .int .i32 r, .int .i64 n, .int .i64 3] 23)) := (Below.refl _ _).alloc (Nat.le_refl _) _
  have HW := Txt.width_any r _ (Tab.alloc hT (.cells #[.int .i64 kind, .int .i32 r, .int .i64 n, .int .i64 3] 23))
  clear hT
  unfold kyv chkR
  simp only
  generalize wd r = d at *
  have hb1 : bits BinOp.and IntKind.i64 3 1 = 1 := by kernel_rfl
  have hb2 : bits BinOp.and IntKind.i64 3 2 = 2 := by kernel_rfl
  have hb4 : bits BinOp.and IntKind.i64 3 4 = 0 := by kernel_rfl
  go_enter Tryd.func24, Tryd.ntmps24
  go_wp2_with (go_at_call 41; refine HW.mono ?_; rintro e W1 ⟨rfl, b1⟩; replace kb := kb.trans (b1.mono kb.size))
  all_goals go_ret
  all_goals refine ⟨ret_bool ?_, by first | exact (Below.refl _ _).alloc (Nat.le_refl _) _ | exact kb⟩
  all_goals simp_all
  all_goals first | rfl | omega | (have h5 : (r != 109) = !decide (r = 109) := rfl; simp_all)
set_option maxHeartbeats 4000000 in
set_option maxRecDepth 100000 in
theorem checkRune_4 (kind r n : Int) (w : World) (hT : Txt.Tab w) :
    Calls Tryd.prog 24 #[kyv ⟨kind, r, n, 4⟩] w fun e w' => e = .returned (.bool (chkR ⟨kind, r, n, 4⟩)) ∧ Below w.heap.size w w' := by
  have kb : Below w.heap.size w (w.alloc (.cells #[.int .i64 kind, .int .i32 r, .int .i64 n, .int .i64 4] 23)) := (Below.refl _ _).alloc (Nat.le_refl _) _
  have HW := Txt.width_any r _ (Tab.alloc hT (.cells #[.int .i64 kind, .int .i32 r, .int .i64 n, .int .i64 4] 23))
  clear hT
  unfold kyv chkR
  simp only
  generalize wd r = d at *
  have hb1 : bits BinOp.and IntKind.i64 4 1 = 0 := by kernel_rfl
  have hb2 : bits BinOp.and IntKind.i64 4 2 = 0 := by kernel_rfl
  have hb4 : bits BinOp.and IntKind.i64 4 4 = 4 := by kernel_rfl
  go_enter Tryd.func24, Tryd.ntmps24
  go_wp2_with (go_at_call 41; refine HW.mono ?_; rintro e W1 ⟨rfl, b1⟩; replace kb := kb.trans (b1.mono kb.size))
  all_goals go_ret
  all_goals refine ⟨ret_bool ?_, by first | exact (Below.refl _ _).alloc (Nat.le_refl _) _ | exact kb⟩
  all_goals simp_all
  all_goals first | rfl | omega | (have h5 : (r != 109) = !decide (r = 109) := rfl; simp_all)
set_option maxHeartbeats 4000000 in
set_option maxRecDepth 100000 in
theorem checkRune_5 (kind r n : Int) (w : World) (hT : Txt.Tab w) :
    Calls Tryd.prog 24 #[kyv ⟨kind, r, n, 5⟩] w fun e w' => e = .returned (.bool (chkR ⟨kind, r, n, 5⟩)) ∧ Below w.heap.size w w' := by
  have kb : Below w.heap.size w (w.alloc (.cells #[.int .i64 kind, .int .i32 r, .int .i64 n, .int .i64 5] 23)) := (Below.refl _ _).alloc (Nat.le_refl _) _
  have HW := Txt.width_any r _ (Tab.alloc hT (.cells #[.int .i64 kind, .int .i32 r, .int .i64 n, .int .i64 5] 23))
  clear hT
  unfold kyv chkR
  simp only
  generalize wd r = d at *
  have hb1 : bits BinOp.and IntKind.i64 5 1 = 1 := by kernel_rfl
  have hb2 : bits BinOp.and IntKind.i64 5 2 = 0 := by kernel_rfl
  have hb4 : bits BinOp.and IntKind.i64 5 4 = 4 := by kernel_rfl
  go_enter Tryd.func24, Tryd.ntmps24
  go_wp2_with (go_at_call 41; refine HW.mono ?_; rintro e W1 ⟨rfl, b1⟩; replace kb := kb.trans (b1.mono kb.size))
  all_goals go_ret
  all_goals refine ⟨ret_bool ?_, by first | exact (Below.refl _ _).alloc (Nat.le_refl _) _ | exact kb⟩
  all_goals simp_all
  all_goals first | rfl | omega | (have h5 : (r != 109) = !decide (r = 109) := rfl; simp_all)
set_option maxHeartbeats 4000000 in
set_option maxRecDepth 100000 in
theorem checkRune_6 (kind r n : Int) (w : World) (hT : Txt.Tab w) :
    Calls Tryd.prog 24 #[kyv ⟨kind, r, n, 6⟩] w fun e w' => e = .returned (.bool (chkR ⟨kind, r, n, 6⟩)) ∧ Below w.heap.size w w' := by
  have kb : Below w.heap.size w (w.alloc (.cells #[.int .i64 kind, .int .i32 r, .int .i64 n, .int .i64 6] 23)) := (Below.refl _ _).alloc (Nat.le_refl _) _
  have HW := Txt.width_any r _ (Tab.alloc hT (.cells #[.int .i64 kind, .int .i32 r, .int .i64 n, .int .i64 6] 23))
  clear hT
  unfold kyv chkR
  simp only
  generalize wd r = d at *
  have hb1 : bits BinOp.and IntKind.i64 6 1 = 0 := by kernel_rfl
  have hb2 : bits BinOp.and IntKind.i64 6 2 = 2 := by kernel_rfl
  have hb4 : bits BinOp.and IntKind.i64 6 4 = 4 := by kernel_rfl
  go_enter Tryd.func24, Tryd.ntmps24
  go_wp2_with (go_at_call 41; refine HW.mono ?_; rintro e W1 ⟨rfl, b1⟩; replace kb := kb.trans (b1.mono kb.size))
  all_goals go_ret
  all_goals refine ⟨ret_bool ?_, by first | exact (Below.refl _ _).alloc (Nat.le_refl _) _ | exact kb⟩
  all_goals simp_all
  all_goals first | rfl | omega | (have h5 : (r != 109) = !decide (r = 109) := rfl; simp_all)
set_option maxHeartbeats 4000000 in
set_option maxRecDepth 100000 in
theorem checkRune_7 (kind r n : Int) (w : World) (hT : Txt.Tab w) :
    Calls Tryd.prog 24 #[kyv ⟨kind, r, n, 7⟩] w fun e w' => e = .returned (.bool (chkR ⟨kind, r, n, 7⟩)) ∧ Below w.heap.size w w' := by
  have kb : Below w.heap.size w (w.alloc (.cells #[.int .i64 kind, .int .i32 r, .int .i64 n, .int .i64 7] 23)) := (Below.refl _ _).alloc (Nat.le_refl _) _
  have HW := Txt.width_any r _ (Tab.alloc hT (.cells #[.int .i64 kind, .int .i32 r, .int .i64 n, .int .i64 7] 23))
  clear hT
  unfold kyv chkR
  simp only
  generalize wd r = d at *
  have hb1 : bits BinOp.and IntKind.i64 7 1 = 1 := by kernel_rfl
  have hb2 : bits BinOp.and IntKind.i64 7 2 = 2 := by kernel_rfl
  have hb4 : bits BinOp.and IntKind.i64 7 4 = 4 := by kernel_rfl
  go_enter Tryd.func24, Tryd.ntmps24
  go_wp2_with (go_at_call 41; refine HW.mono ?_; rintro e W1 ⟨rfl, b1⟩; replace kb := kb.trans (b1.mono kb.size))
  all_goals go_ret
  all_goals refine ⟨ret_bool ?_, by first | exact (Below.refl _ _).alloc (Nat.le_refl _) _ | exact kb⟩
  all_goals simp_all
  all_goals first | rfl | omega | (have h5 : (r != 109) = !decide (r = 109) := rfl; simp_all)
end Kys
end Go.Proofs.YtjilgapoioploaaDoor
