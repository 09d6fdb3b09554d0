/- Package keys: Write. -/
import Derived.Test.YtdmooeoklcjplaaDoorPartH
import Derived.Test.YtdmooeoklcjplaaDoorPartF
import Derived.Test.YtdmooeoklcjplaaDoorPartG
import Derived.Lib.SmallJoins
import Derived.Test.YtdmooeoklcjplaaDoorPartD
import Derived.DeepKeys4
import Derived.Maps.OwnOps
import Derived.Maps.Views
import Derived.Maps.StringElems
namespace Go.Proofs.YtdmooeoklcjplaaDoor
open Go.ChangeShapes Go.WideShapes Go.ChangeAt Go.RowKit
open Go.Sort
namespace Kys
open Txt (wd bs)
theorem idx1 (w : World) : (Instr.index 43 (.agg wsA) (.int .i64 1)).run Tryd.prog w = .ok (.func (.func 31) #[] #[]) w := by
  unfold wsA
  simp [Instr.index, run_underlying und_ws, asIntOf, go_sem]
theorem idx2 (w : World) : (Instr.index 43 (.agg wsA) (.int .i64 2)).run Tryd.prog w = .ok (.func (.func 32) #[] #[]) w := by
  unfold wsA
  simp [Instr.index, run_underlying und_ws, asIntOf, go_sem]
theorem idx3 (w : World) : (Instr.index 43 (.agg wsA) (.int .i64 3)).run Tryd.prog w = .ok (.func (.func 33) #[] #[]) w := by
  unfold wsA
  simp [Instr.index, run_underlying und_ws, asIntOf, go_sem]
theorem idx4 (w : World) : (Instr.index 43 (.agg wsA) (.int .i64 4)).run Tryd.prog w = .ok (.func (.func 34) #[] #[]) w := by
  unfold wsA
  simp [Instr.index, run_underlying und_ws, asIntOf, go_sem]
theorem idx5 (w : World) : (Instr.index 43 (.agg wsA) (.int .i64 5)).run Tryd.prog w = .ok (.func (.func 35) #[] #[]) w := by
  unfold wsA
  simp [Instr.index, run_underlying und_ws, asIntOf, go_sem]
theorem idx7 (w : World) : (Instr.index 43 (.agg wsA) (.int .i64 7)).run Tryd.prog w = .ok (.func (.func 36) #[] #[]) w := by
  unfold wsA
  simp [Instr.index, run_underlying und_ws, asIntOf, go_sem]
theorem idx8 (w : World) : (Instr.index 43 (.agg wsA) (.int .i64 8)).run Tryd.prog w = .ok (.func (.func 36) #[] #[]) w := by
  unfold wsA
  simp [Instr.index, run_underlying und_ws, asIntOf, go_sem]
theorem idx9 (w : World) : (Instr.index 43 (.agg wsA) (.int .i64 9)).run Tryd.prog w = .ok (.func (.func 36) #[] #[]) w := by
  unfold wsA
  simp [Instr.index, run_underlying und_ws, asIntOf, go_sem]
theorem idx10 (w : World) : (Instr.index 43 (.agg wsA) (.int .i64 10)).run Tryd.prog w = .ok (.func (.func 36) #[] #[]) w := by
  unfold wsA
  simp [Instr.index, run_underlying und_ws, asIntOf, go_sem]
theorem idx11 (w : World) : (Instr.index 43 (.agg wsA) (.int .i64 11)).run Tryd.prog w = .ok (.func (.func 36) #[] #[]) w := by
  unfold wsA
  simp [Instr.index, run_underlying und_ws, asIntOf, go_sem]
theorem idx12 (w : World) : (Instr.index 43 (.agg wsA) (.int .i64 12)).run Tryd.prog w = .ok (.func (.func 37) #[] #[]) w := by
  unfold wsA
  simp [Instr.index, run_underlying und_ws, asIntOf, go_sem]
theorem idx13 (w : World) : (Instr.index 43 (.agg wsA) (.int .i64 13)).run Tryd.prog w = .ok (.func (.func 37) #[] #[]) w := by
  unfold wsA
  simp [Instr.index, run_underlying und_ws, asIntOf, go_sem]
theorem idx14 (w : World) : (Instr.index 43 (.agg wsA) (.int .i64 14)).run Tryd.prog w = .ok (.func (.func 37) #[] #[]) w := by
  unfold wsA
  simp [Instr.index, run_underlying und_ws, asIntOf, go_sem]
theorem idx15 (w : World) : (Instr.index 43 (.agg wsA) (.int .i64 15)).run Tryd.prog w = .ok (.func (.func 37) #[] #[]) w := by
  unfold wsA
  simp [Instr.index, run_underlying und_ws, asIntOf, go_sem]
set_option maxHeartbeats 4000000 in
theorem write_1 (r n held : Int) (kp : Bool) (w : World) (hT : Txt.Tab w) (hk : chk ⟨1, r, n, held⟩ = true) (hh : held = 0 ∨ held = 2 ∨ (held = 4 ∨ held = 6) ∧ 97 ≤ r ∧ r ≤ 122) : Calls Tryd.prog 6 #[kyv ⟨1, r, n, held⟩, .bool kp] w fun e w' => e = .returned (.tuple #[.string (bs (wr ⟨1, r, n, held⟩ kp)), .int .i64 0]) ∧ Below w.heap.size w w' := by
  have kb : Below w.heap.size w (w.alloc (.cells #[.int .i64 1, .int .i32 r, .int .i64 n, .int .i64 held] 23)) := (Below.refl _ _).alloc (Nat.le_refl _) _
  have HC := check_any ⟨1, r, n, held⟩ _ (Tab.alloc hT (.cells #[.int .i64 1, .int .i32 r, .int .i64 n, .int .i64 held] 23))
  rw [hk] at HC
  clear hk hT
  rw [show wr ⟨1, r, n, held⟩ kp = altA held ++ Lib.encodeRune (wrR ⟨1, r, n, held⟩) from rfl]
  have HF := fun W => writeRune_any ⟨1, r, n, held⟩ kp hh W
  generalize bs (altA held ++ Lib.encodeRune (wrR ⟨1, r, n, held⟩)) = res at *
  unfold kyv at HC HF ⊢
  go_enter Tryd.func6, Tryd.ntmps6
  go_wp2_with (go_at_call 9; refine HC.mono ?_; rintro e W1 ⟨rfl, b1⟩)
  have z1 := held_block b1
  have k1 := kb.trans (b1.mono kb.size)
  clear b1 kb HC
  obtain ⟨⟨c0, c1, c2, c3⟩, _⟩ := four_cells z1
  have g0 := fun d os => cell_regrown c0 d os
  have g1 := fun d os => cell_regrown c1 d os
  have g2 := fun d os => cell_regrown c2 d os
  have g3 := fun d os => cell_regrown c3 d os
  have HWr := fun d os => Calls.regrown_of (writers_any (grow (redrawn W1 d) os))
  have HFr := fun d os => Calls.regrown_of (HF (grow (redrawn W1 d) os))
  have hix := idx1
  clear HF c0 c1 c2 c3 z1
  refine wp_region_quiet_below (by kernel_rfl) (by kernel_rfl) ?_
  repeat (first | go_big_quiet_skip | quiet_step (first | (go_at_call 17; exact HWr _ _) | (go_at_call 31; exact HFr _ _)))
  refine wpQuiet_nil ?_
  intro _ hw'
  obtain ⟨⟨dq, os⟩, hw''⟩ := hw'
  subst hw''
  have kR := below_regrown W1 dq os
  have kw := k1.trans (kR.mono k1.size)
  clear g0 g1 g2 g3 HWr HFr kR
  generalize grow (redrawn W1 dq) os = V at *
  go_wp2_with fail
  go_ret2
  exact ⟨rfl, kw⟩
set_option maxHeartbeats 4000000 in
theorem write_2 (r n held : Int) (kp : Bool) (w : World) (hT : Txt.Tab w) (hk : chk ⟨2, r, n, held⟩ = true) (hh : held = 0 ∨ held = 2) : Calls Tryd.prog 6 #[kyv ⟨2, r, n, held⟩, .bool kp] w fun e w' => e = .returned (.tuple #[.string (bs (wr ⟨2, r, n, held⟩ kp)), .int .i64 0]) ∧ Below w.heap.size w w' := by
  have kb : Below w.heap.size w (w.alloc (.cells #[.int .i64 2, .int .i32 r, .int .i64 n, .int .i64 held] 23)) := (Below.refl _ _).alloc (Nat.le_refl _) _
  have HC := check_any ⟨2, r, n, held⟩ _ (Tab.alloc hT (.cells #[.int .i64 2, .int .i32 r, .int .i64 n, .int .i64 held] 23))
  rw [hk] at HC
  clear hk hT
  rw [show wr ⟨2, r, n, held⟩ kp = altA held ++ [13] from rfl]
  have HF := fun W => writeEnter_any ⟨2, r, n, held⟩ kp hh W
  generalize bs (altA held ++ [13]) = res at *
  unfold kyv at HC HF ⊢
  go_enter Tryd.func6, Tryd.ntmps6
  go_wp2_with (go_at_call 9; refine HC.mono ?_; rintro e W1 ⟨rfl, b1⟩)
  have z1 := held_block b1
  have k1 := kb.trans (b1.mono kb.size)
  clear b1 kb HC
  obtain ⟨⟨c0, c1, c2, c3⟩, _⟩ := four_cells z1
  have g0 := fun d os => cell_regrown c0 d os
  have g1 := fun d os => cell_regrown c1 d os
  have g2 := fun d os => cell_regrown c2 d os
  have g3 := fun d os => cell_regrown c3 d os
  have HWr := fun d os => Calls.regrown_of (writers_any (grow (redrawn W1 d) os))
  have HFr := fun d os => Calls.regrown_of (HF (grow (redrawn W1 d) os))
  have hix := idx2
  clear HF c0 c1 c2 c3 z1
  refine wp_region_quiet_below (by kernel_rfl) (by kernel_rfl) ?_
  repeat (first | go_big_quiet_skip | quiet_step (first | (go_at_call 17; exact HWr _ _) | (go_at_call 32; exact HFr _ _)))
  refine wpQuiet_nil ?_
  intro _ hw'
  obtain ⟨⟨dq, os⟩, hw''⟩ := hw'
  subst hw''
  have kR := below_regrown W1 dq os
  have kw := k1.trans (kR.mono k1.size)
  clear g0 g1 g2 g3 HWr HFr kR
  generalize grow (redrawn W1 dq) os = V at *
  go_wp2_with fail
  go_ret2
  exact ⟨rfl, kw⟩
set_option maxHeartbeats 4000000 in
theorem write_3 (r n held : Int) (kp : Bool) (w : World) (hT : Txt.Tab w) (hk : chk ⟨3, r, n, held⟩ = true) : Calls Tryd.prog 6 #[kyv ⟨3, r, n, held⟩, .bool kp] w fun e w' => e = .returned (.tuple #[.string (bs (wr ⟨3, r, n, held⟩ kp)), .int .i64 0]) ∧ Below w.heap.size w w' := by
  have kb : Below w.heap.size w (w.alloc (.cells #[.int .i64 3, .int .i32 r, .int .i64 n, .int .i64 held] 23)) := (Below.refl _ _).alloc (Nat.le_refl _) _
  have HC := check_any ⟨3, r, n, held⟩ _ (Tab.alloc hT (.cells #[.int .i64 3, .int .i32 r, .int .i64 n, .int .i64 held] 23))
  rw [hk] at HC
  clear hk hT
  rw [show wr ⟨3, r, n, held⟩ kp = if held ≠ 0 then [27, 91, 90] else [9] from rfl]
  have HF := fun W => writeTab_any ⟨3, r, n, held⟩ kp W
  generalize bs (if held ≠ 0 then [27, 91, 90] else [9]) = res at *
  unfold kyv at HC HF ⊢
  go_enter Tryd.func6, Tryd.ntmps6
  go_wp2_with (go_at_call 9; refine HC.mono ?_; rintro e W1 ⟨rfl, b1⟩)
  have z1 := held_block b1
  have k1 := kb.trans (b1.mono kb.size)
  clear b1 kb HC
  obtain ⟨⟨c0, c1, c2, c3⟩, _⟩ := four_cells z1
  have g0 := fun d os => cell_regrown c0 d os
  have g1 := fun d os => cell_regrown c1 d os
  have g2 := fun d os => cell_regrown c2 d os
  have g3 := fun d os => cell_regrown c3 d os
  have HWr := fun d os => Calls.regrown_of (writers_any (grow (redrawn W1 d) os))
  have HFr := fun d os => Calls.regrown_of (HF (grow (redrawn W1 d) os))
  have hix := idx3
  clear HF c0 c1 c2 c3 z1
  refine wp_region_quiet_below (by kernel_rfl) (by kernel_rfl) ?_
  repeat (first | go_big_quiet_skip | quiet_step (first | (go_at_call 17; exact HWr _ _) | (go_at_call 33; exact HFr _ _)))
  refine wpQuiet_nil ?_
  intro _ hw'
  obtain ⟨⟨dq, os⟩, hw''⟩ := hw'
  subst hw''
  have kR := below_regrown W1 dq os
  have kw := k1.trans (kR.mono k1.size)
  clear g0 g1 g2 g3 HWr HFr kR
  generalize grow (redrawn W1 dq) os = V at *
  go_wp2_with fail
  go_ret2
  exact ⟨rfl, kw⟩
set_option maxHeartbeats 4000000 in
theorem write_4 (r n held : Int) (kp : Bool) (w : World) (hT : Txt.Tab w) (hk : chk ⟨4, r, n, held⟩ = true) (hh : held = 0 ∨ held = 2) : Calls Tryd.prog 6 #[kyv ⟨4, r, n, held⟩, .bool kp] w fun e w' => e = .returned (.tuple #[.string (bs (wr ⟨4, r, n, held⟩ kp)), .int .i64 0]) ∧ Below w.heap.size w w' := by
  have kb : Below w.heap.size w (w.alloc (.cells #[.int .i64 4, .int .i32 r, .int .i64 n, .int .i64 held] 23)) := (Below.refl _ _).alloc (Nat.le_refl _) _
  have HC := check_any ⟨4, r, n, held⟩ _ (Tab.alloc hT (.cells #[.int .i64 4, .int .i32 r, .int .i64 n, .int .i64 held] 23))
  rw [hk] at HC
  clear hk hT
  rw [show wr ⟨4, r, n, held⟩ kp = altA held ++ [127] from rfl]
  have HF := fun W => writeBack_any ⟨4, r, n, held⟩ kp hh W
  generalize bs (altA held ++ [127]) = res at *
  unfold kyv at HC HF ⊢
  go_enter Tryd.func6, Tryd.ntmps6
  go_wp2_with (go_at_call 9; refine HC.mono ?_; rintro e W1 ⟨rfl, b1⟩)
  have z1 := held_block b1
  have k1 := kb.trans (b1.mono kb.size)
  clear b1 kb HC
  obtain ⟨⟨c0, c1, c2, c3⟩, _⟩ := four_cells z1
  have g0 := fun d os => cell_regrown c0 d os
  have g1 := fun d os => cell_regrown c1 d os
  have g2 := fun d os => cell_regrown c2 d os
  have g3 := fun d os => cell_regrown c3 d os
  have HWr := fun d os => Calls.regrown_of (writers_any (grow (redrawn W1 d) os))
  have HFr := fun d os => Calls.regrown_of (HF (grow (redrawn W1 d) os))
  have hix := idx4
  clear HF c0 c1 c2 c3 z1
  refine wp_region_quiet_below (by kernel_rfl) (by kernel_rfl) ?_
  repeat (first | go_big_quiet_skip | quiet_step (first | (go_at_call 17; exact HWr _ _) | (go_at_call 34; exact HFr _ _)))
  refine wpQuiet_nil ?_
  intro _ hw'
  obtain ⟨⟨dq, os⟩, hw''⟩ := hw'
  subst hw''
  have kR := below_regrown W1 dq os
  have kw := k1.trans (kR.mono k1.size)
  clear g0 g1 g2 g3 HWr HFr kR
  generalize grow (redrawn W1 dq) os = V at *
  go_wp2_with fail
  go_ret2
  exact ⟨rfl, kw⟩
set_option maxHeartbeats 4000000 in
theorem write_5 (r n held : Int) (kp : Bool) (w : World) (hT : Txt.Tab w) (hk : chk ⟨5, r, n, held⟩ = true) : Calls Tryd.prog 6 #[kyv ⟨5, r, n, held⟩, .bool kp] w fun e w' => e = .returned (.tuple #[.string (bs (wr ⟨5, r, n, held⟩ kp)), .int .i64 0]) ∧ Below w.heap.size w w' := by
  have kb : Below w.heap.size w (w.alloc (.cells #[.int .i64 5, .int .i32 r, .int .i64 n, .int .i64 held] 23)) := (Below.refl _ _).alloc (Nat.le_refl _) _
  have HC := check_any ⟨5, r, n, held⟩ _ (Tab.alloc hT (.cells #[.int .i64 5, .int .i32 r, .int .i64 n, .int .i64 held] 23))
  rw [hk] at HC
  clear hk hT
  rw [show wr ⟨5, r, n, held⟩ kp = [27] from rfl]
  have HF := fun W => writeEsc_any ⟨5, r, n, held⟩ kp W
  generalize bs [27] = res at *
  unfold kyv at HC HF ⊢
  go_enter Tryd.func6, Tryd.ntmps6
  go_wp2_with (go_at_call 9; refine HC.mono ?_; rintro e W1 ⟨rfl, b1⟩)
  have z1 := held_block b1
  have k1 := kb.trans (b1.mono kb.size)
  clear b1 kb HC
  obtain ⟨⟨c0, c1, c2, c3⟩, _⟩ := four_cells z1
  have g0 := fun d os => cell_regrown c0 d os
  have g1 := fun d os => cell_regrown c1 d os
  have g2 := fun d os => cell_regrown c2 d os
  have g3 := fun d os => cell_regrown c3 d os
  have HWr := fun d os => Calls.regrown_of (writers_any (grow (redrawn W1 d) os))
  have HFr := fun d os => Calls.regrown_of (HF (grow (redrawn W1 d) os))
  have hix := idx5
  clear HF c0 c1 c2 c3 z1
  refine wp_region_quiet_below (by kernel_rfl) (by kernel_rfl) ?_
  repeat (first | go_big_quiet_skip | quiet_step (first | (go_at_call 17; exact HWr _ _) | (go_at_call 35; exact HFr _ _)))
  refine wpQuiet_nil ?_
  intro _ hw'
  obtain ⟨⟨dq, os⟩, hw''⟩ := hw'
  subst hw''
  have kR := below_regrown W1 dq os
  have kw := k1.trans (kR.mono k1.size)
  clear g0 g1 g2 g3 HWr HFr kR
  generalize grow (redrawn W1 dq) os = V at *
  go_wp2_with fail
  go_ret2
  exact ⟨rfl, kw⟩
set_option maxHeartbeats 4000000 in
theorem write_7 (r n held : Int) (kp : Bool) (w : World) (hT : Txt.Tab w) (hk : chk ⟨7, r, n, held⟩ = true) (h0 : 0 ≤ held) (h7 : held ≤ 7) : Calls Tryd.prog 6 #[kyv ⟨7, r, n, held⟩, .bool kp] w fun e w' => e = .returned (.tuple #[.string (bs (wr ⟨7, r, n, held⟩ kp)), .int .i64 0]) ∧ Below w.heap.size w w' := by
  have kb : Below w.heap.size w (w.alloc (.cells #[.int .i64 7, .int .i32 r, .int .i64 n, .int .i64 held] 23)) := (Below.refl _ _).alloc (Nat.le_refl _) _
  have HC := check_any ⟨7, r, n, held⟩ _ (Tab.alloc hT (.cells #[.int .i64 7, .int .i32 r, .int .i64 n, .int .i64 held] 23))
  rw [hk] at HC
  clear hk hT
  have HF := fun W => writeLetter_7 r n held kp h0 h7 W
  generalize bs (wr ⟨7, r, n, held⟩ kp) = res at *
  unfold kyv at HC HF ⊢
  go_enter Tryd.func6, Tryd.ntmps6
  go_wp2_with (go_at_call 9; refine HC.mono ?_; rintro e W1 ⟨rfl, b1⟩)
  have z1 := held_block b1
  have k1 := kb.trans (b1.mono kb.size)
  clear b1 kb HC
  obtain ⟨⟨c0, c1, c2, c3⟩, _⟩ := four_cells z1
  have g0 := fun d os => cell_regrown c0 d os
  have g1 := fun d os => cell_regrown c1 d os
  have g2 := fun d os => cell_regrown c2 d os
  have g3 := fun d os => cell_regrown c3 d os
  have HWr := fun d os => Calls.regrown_of (writers_any (grow (redrawn W1 d) os))
  have HFr := fun d os => Calls.regrown_of (HF (grow (redrawn W1 d) os))
  have hix := idx7
  clear HF c0 c1 c2 c3 z1
  refine wp_region_quiet_below (by kernel_rfl) (by kernel_rfl) ?_
  repeat (first | go_big_quiet_skip | quiet_step (first | (go_at_call 17; exact HWr _ _) | (go_at_call 36; exact HFr _ _)))
  refine wpQuiet_nil ?_
  intro _ hw'
  obtain ⟨⟨dq, os⟩, hw''⟩ := hw'
  subst hw''
  have kR := below_regrown W1 dq os
  have kw := k1.trans (kR.mono k1.size)
  clear g0 g1 g2 g3 HWr HFr kR
  generalize grow (redrawn W1 dq) os = V at *
  go_wp2_with fail
  go_ret2
  exact ⟨rfl, kw⟩
set_option maxHeartbeats 4000000 in
theorem write_8 (r n held : Int) (kp : Bool) (w : World) (hT : Txt.Tab w) (hk : chk ⟨8, r, n, held⟩ = true) (h0 : 0 ≤ held) (h7 : held ≤ 7) : Calls Tryd.prog 6 #[kyv ⟨8, r, n, held⟩, .bool kp] w fun e w' => e = .returned (.tuple #[.string (bs (wr ⟨8, r, n, held⟩ kp)), .int .i64 0]) ∧ Below w.heap.size w w' := by
  have kb : Below w.heap.size w (w.alloc (.cells #[.int .i64 8, .int .i32 r, .int .i64 n, .int .i64 held] 23)) := (Below.refl _ _).alloc (Nat.le_refl _) _
  have HC := check_any ⟨8, r, n, held⟩ _ (Tab.alloc hT (.cells #[.int .i64 8, .int .i32 r, .int .i64 n, .int .i64 held] 23))
  rw [hk] at HC
  clear hk hT
  have HF := fun W => writeLetter_8 r n held kp h0 h7 W
  generalize bs (wr ⟨8, r, n, held⟩ kp) = res at *
  unfold kyv at HC HF ⊢
  go_enter Tryd.func6, Tryd.ntmps6
  go_wp2_with (go_at_call 9; refine HC.mono ?_; rintro e W1 ⟨rfl, b1⟩)
  have z1 := held_block b1
  have k1 := kb.trans (b1.mono kb.size)
  clear b1 kb HC
  obtain ⟨⟨c0, c1, c2, c3⟩, _⟩ := four_cells z1
  have g0 := fun d os => cell_regrown c0 d os
  have g1 := fun d os => cell_regrown c1 d os
  have g2 := fun d os => cell_regrown c2 d os
  have g3 := fun d os => cell_regrown c3 d os
  have HWr := fun d os => Calls.regrown_of (writers_any (grow (redrawn W1 d) os))
  have HFr := fun d os => Calls.regrown_of (HF (grow (redrawn W1 d) os))
  have hix := idx8
  clear HF c0 c1 c2 c3 z1
  refine wp_region_quiet_below (by kernel_rfl) (by kernel_rfl) ?_
  repeat (first | go_big_quiet_skip | quiet_step (first | (go_at_call 17; exact HWr _ _) | (go_at_call 36; exact HFr _ _)))
  refine wpQuiet_nil ?_
  intro _ hw'
  obtain ⟨⟨dq, os⟩, hw''⟩ := hw'
  subst hw''
  have kR := below_regrown W1 dq os
  have kw := k1.trans (kR.mono k1.size)
  clear g0 g1 g2 g3 HWr HFr kR
  generalize grow (redrawn W1 dq) os = V at *
  go_wp2_with fail
  go_ret2
  exact ⟨rfl, kw⟩
set_option maxHeartbeats 4000000 in
theorem write_9 (r n held : Int) (kp : Bool) (w : World) (hT : Txt.Tab w) (hk : chk ⟨9, r, n, held⟩ = true) (h0 : 0 ≤ held) (h7 : held ≤ 7) : Calls Tryd.prog 6 #[kyv ⟨9, r, n, held⟩, .bool kp] w fun e w' => e = .returned (.tuple #[.string (bs (wr ⟨9, r, n, held⟩ kp)), .int .i64 0]) ∧ Below w.heap.size w w' := by
  have kb : Below w.heap.size w (w.alloc (.cells #[.int .i64 9, .int .i32 r, .int .i64 n, .int .i64 held] 23)) := (Below.refl _ _).alloc (Nat.le_refl _) _
  have HC := check_any ⟨9, r, n, held⟩ _ (Tab.alloc hT (.cells #[.int .i64 9, .int .i32 r, .int .i64 n, .int .i64 held] 23))
  rw [hk] at HC
  clear hk hT
  have HF := fun W => writeLetter_9 r n held kp h0 h7 W
  generalize bs (wr ⟨9, r, n, held⟩ kp) = res at *
  unfold kyv at HC HF ⊢
  go_enter Tryd.func6, Tryd.ntmps6
  go_wp2_with (go_at_call 9; refine HC.mono ?_; rintro e W1 ⟨rfl, b1⟩)
  have z1 := held_block b1
  have k1 := kb.trans (b1.mono kb.size)
  clear b1 kb HC
  obtain ⟨⟨c0, c1, c2, c3⟩, _⟩ := four_cells z1
  have g0 := fun d os => cell_regrown c0 d os
  have g1 := fun d os => cell_regrown c1 d os
  have g2 := fun d os => cell_regrown c2 d os
  have g3 := fun d os => cell_regrown c3 d os
  have HWr := fun d os => Calls.regrown_of (writers_any (grow (redrawn W1 d) os))
  have HFr := fun d os => Calls.regrown_of (HF (grow (redrawn W1 d) os))
  have hix := idx9
  clear HF c0 c1 c2 c3 z1
  refine wp_region_quiet_below (by kernel_rfl) (by kernel_rfl) ?_
  repeat (first | go_big_quiet_skip | quiet_step (first | (go_at_call 17; exact HWr _ _) | (go_at_call 36; exact HFr _ _)))
  refine wpQuiet_nil ?_
  intro _ hw'
  obtain ⟨⟨dq, os⟩, hw''⟩ := hw'
  subst hw''
  have kR := below_regrown W1 dq os
  have kw := k1.trans (kR.mono k1.size)
  clear g0 g1 g2 g3 HWr HFr kR
  generalize grow (redrawn W1 dq) os = V at *
  go_wp2_with fail
  go_ret2
  exact ⟨rfl, kw⟩
set_option maxHeartbeats 4000000 in
theorem write_10 (r n held : Int) (kp : Bool) (w : World) (hT : Txt.Tab w) (hk : chk ⟨10, r, n, held⟩ = true) (h0 : 0 ≤ held) (h7 : held ≤ 7) : Calls Tryd.prog 6 #[kyv ⟨10, r, n, held⟩, .bool kp] w fun e w' => e = .returned (.tuple #[.string (bs (wr ⟨10, r, n, held⟩ kp)), .int .i64 0]) ∧ Below w.heap.size w w' := by
  have kb : Below w.heap.size w (w.alloc (.cells #[.int .i64 10, .int .i32 r, .int .i64 n, .int .i64 held] 23)) := (Below.refl _ _).alloc (Nat.le_refl _) _
  have HC := check_any ⟨10, r, n, held⟩ _ (Tab.alloc hT (.cells #[.int .i64 10, .int .i32 r, .int .i64 n, .int .i64 held] 23))
  rw [hk] at HC
  clear hk hT
  have HF := fun W => writeLetter_10 r n held kp h0 h7 W
  generalize bs (wr ⟨10, r, n, held⟩ kp) = res at *
  unfold kyv at HC HF ⊢
  go_enter Tryd.func6, Tryd.ntmps6
  go_wp2_with (go_at_call 9; refine HC.mono ?_; rintro e W1 ⟨rfl, b1⟩)
  have z1 := held_block b1
  have k1 := kb.trans (b1.mono kb.size)
  clear b1 kb HC
  obtain ⟨⟨c0, c1, c2, c3⟩, _⟩ := four_cells z1
  have g0 := fun d os => cell_regrown c0 d os
  have g1 := fun d os => cell_regrown c1 d os
  have g2 := fun d os => cell_regrown c2 d os
  have g3 := fun d os => cell_regrown c3 d os
  have HWr := fun d os => Calls.regrown_of (writers_any (grow (redrawn W1 d) os))
  have HFr := fun d os => Calls.regrown_of (HF (grow (redrawn W1 d) os))
  have hix := idx10
  clear HF c0 c1 c2 c3 z1
  refine wp_region_quiet_below (by kernel_rfl) (by kernel_rfl) ?_
  repeat (first | go_big_quiet_skip | quiet_step (first | (go_at_call 17; exact HWr _ _) | (go_at_call 36; exact HFr _ _)))
  refine wpQuiet_nil ?_
  intro _ hw'
  obtain ⟨⟨dq, os⟩, hw''⟩ := hw'
  subst hw''
  have kR := below_regrown W1 dq os
  have kw := k1.trans (kR.mono k1.size)
  clear g0 g1 g2 g3 HWr HFr kR
  generalize grow (redrawn W1 dq) os = V at *
  go_wp2_with fail
  go_ret2
  exact ⟨rfl, kw⟩
set_option maxHeartbeats 4000000 in
theorem write_11 (r n held : Int) (kp : Bool) (w : World) (hT : Txt.Tab w) (hk : chk ⟨11, r, n, held⟩ = true) (h0 : 0 ≤ held) (h7 : held ≤ 7) : Calls Tryd.prog 6 #[kyv ⟨11, r, n, held⟩, .bool kp] w fun e w' => e = .returned (.tuple #[.string (bs (wr ⟨11, r, n, held⟩ kp)), .int .i64 0]) ∧ Below w.heap.size w w' := by
  have kb : Below w.heap.size w (w.alloc (.cells #[.int .i64 11, .int .i32 r, .int .i64 n, .int .i64 held] 23)) := (Below.refl _ _).alloc (Nat.le_refl _) _
  have HC := check_any ⟨11, r, n, held⟩ _ (Tab.alloc hT (.cells #[.int .i64 11, .int .i32 r, .int .i64 n, .int .i64 held] 23))
  rw [hk] at HC
  clear hk hT
  have HF := fun W => writeLetter_11 r n held kp h0 h7 W
  generalize bs (wr ⟨11, r, n, held⟩ kp) = res at *
  unfold kyv at HC HF ⊢
  go_enter Tryd.func6, Tryd.ntmps6
  go_wp2_with (go_at_call 9; refine HC.mono ?_; rintro e W1 ⟨rfl, b1⟩)
  have z1 := held_block b1
  have k1 := kb.trans (b1.mono kb.size)
  clear b1 kb HC
  obtain ⟨⟨c0, c1, c2, c3⟩, _⟩ := four_cells z1
  have g0 := fun d os => cell_regrown c0 d os
  have g1 := fun d os => cell_regrown c1 d os
  have g2 := fun d os => cell_regrown c2 d os
  have g3 := fun d os => cell_regrown c3 d os
  have HWr := fun d os => Calls.regrown_of (writers_any (grow (redrawn W1 d) os))
  have HFr := fun d os => Calls.regrown_of (HF (grow (redrawn W1 d) os))
  have hix := idx11
  clear HF c0 c1 c2 c3 z1
  refine wp_region_quiet_below (by kernel_rfl) (by kernel_rfl) ?_
  repeat (first | go_big_quiet_skip | quiet_step (first | (go_at_call 17; exact HWr _ _) | (go_at_call 36; exact HFr _ _)))
  refine wpQuiet_nil ?_
  intro _ hw'
  obtain ⟨⟨dq, os⟩, hw''⟩ := hw'
  subst hw''
  have kR := below_regrown W1 dq os
  have kw := k1.trans (kR.mono k1.size)
  clear g0 g1 g2 g3 HWr HFr kR
  generalize grow (redrawn W1 dq) os = V at *
  go_wp2_with fail
  go_ret2
  exact ⟨rfl, kw⟩
set_option maxHeartbeats 4000000 in
theorem write_12 (n held : Int) (kp : Bool) (w : World) (hT : Txt.Tab w) (hk : chk ⟨12, 0, n, held⟩ = true) (hm : (12, n) ∈ numKeys) (h0 : 0 ≤ held) (h7 : held ≤ 7) (hN : NumTab w) : Calls Tryd.prog 6 #[kyv ⟨12, 0, n, held⟩, .bool kp] w fun e w' => e = .returned (.tuple #[.string (bs (wr ⟨12, 0, n, held⟩ kp)), .int .i64 0]) ∧ Below w.heap.size w w' := by
  have kb : Below w.heap.size w (w.alloc (.cells #[.int .i64 12, .int .i32 0, .int .i64 n, .int .i64 held] 23)) := (Below.refl _ _).alloc (Nat.le_refl _) _
  have HC := check_any ⟨12, 0, n, held⟩ _ (Tab.alloc hT (.cells #[.int .i64 12, .int .i32 0, .int .i64 n, .int .i64 held] 23))
  rw [hk] at HC
  clear hk hT
  rw [show wr ⟨12, 0, n, held⟩ kp = [27, 91] ++ digB (numOf 12 n) ++ heldB held ++ [126] from rfl]
  have HF := fun W (h : NumTab W) => writeNumber_any 12 n held kp hm h0 h7 W h
  generalize bs ([27, 91] ++ digB (numOf 12 n) ++ heldB held ++ [126]) = res at *
  unfold kyv at HC HF ⊢
  go_enter Tryd.func6, Tryd.ntmps6
  go_wp2_with (go_at_call 9; refine HC.mono ?_; rintro e W1 ⟨rfl, b1⟩)
  have z1 := held_block b1
  have k1 := kb.trans (b1.mono kb.size)
  clear b1 kb HC
  obtain ⟨⟨c0, c1, c2, c3⟩, _⟩ := four_cells z1
  have g0 := fun d os => cell_regrown c0 d os
  have g1 := fun d os => cell_regrown c1 d os
  have g2 := fun d os => cell_regrown c2 d os
  have g3 := fun d os => cell_regrown c3 d os
  have HWr := fun d os => Calls.regrown_of (writers_any (grow (redrawn W1 d) os))
  have hN1 := hN.below k1
  have HFr := fun d os => Calls.regrown_of (HF (grow (redrawn W1 d) os) (hN1.below (below_regrown W1 d os)))
  have hix := idx12
  clear HF c0 c1 c2 c3 z1
  refine wp_region_quiet_below (by kernel_rfl) (by kernel_rfl) ?_
  repeat (first | go_big_quiet_skip | quiet_step (first | (go_at_call 17; exact HWr _ _) | (go_at_call 37; exact HFr _ _)))
  refine wpQuiet_nil ?_
  intro _ hw'
  obtain ⟨⟨dq, os⟩, hw''⟩ := hw'
  subst hw''
  have kR := below_regrown W1 dq os
  have kw := k1.trans (kR.mono k1.size)
  clear g0 g1 g2 g3 HWr HFr kR
  generalize grow (redrawn W1 dq) os = V at *
  go_wp2_with fail
  go_ret2
  exact ⟨rfl, kw⟩
set_option maxHeartbeats 4000000 in
theorem write_13 (n held : Int) (kp : Bool) (w : World) (hT : Txt.Tab w) (hk : chk ⟨13, 0, n, held⟩ = true) (hm : (13, n) ∈ numKeys) (h0 : 0 ≤ held) (h7 : held ≤ 7) (hN : NumTab w) : Calls Tryd.prog 6 #[kyv ⟨13, 0, n, held⟩, .bool kp] w fun e w' => e = .returned (.tuple #[.string (bs (wr ⟨13, 0, n, held⟩ kp)), .int .i64 0]) ∧ Below w.heap.size w w' := by
  have kb : Below w.heap.size w (w.alloc (.cells #[.int .i64 13, .int .i32 0, .int .i64 n, .int .i64 held] 23)) := (Below.refl _ _).alloc (Nat.le_refl _) _
  have HC := check_any ⟨13, 0, n, held⟩ _ (Tab.alloc hT (.cells #[.int .i64 13, .int .i32 0, .int .i64 n, .int .i64 held] 23))
  rw [hk] at HC
  clear hk hT
  rw [show wr ⟨13, 0, n, held⟩ kp = [27, 91] ++ digB (numOf 13 n) ++ heldB held ++ [126] from rfl]
  have HF := fun W (h : NumTab W) => writeNumber_any 13 n held kp hm h0 h7 W h
  generalize bs ([27, 91] ++ digB (numOf 13 n) ++ heldB held ++ [126]) = res at *
  unfold kyv at HC HF ⊢
  go_enter Tryd.func6, Tryd.ntmps6
  go_wp2_with (go_at_call 9; refine HC.mono ?_; rintro e W1 ⟨rfl, b1⟩)
  have z1 := held_block b1
  have k1 := kb.trans (b1.mono kb.size)
  clear b1 kb HC
  obtain ⟨⟨c0, c1, c2, c3⟩, _⟩ := four_cells z1
  have g0 := fun d os => cell_regrown c0 d os
  have g1 := fun d os => cell_regrown c1 d os
  have g2 := fun d os => cell_regrown c2 d os
  have g3 := fun d os => cell_regrown c3 d os
  have HWr := fun d os => Calls.regrown_of (writers_any (grow (redrawn W1 d) os))
  have hN1 := hN.below k1
  have HFr := fun d os => Calls.regrown_of (HF (grow (redrawn W1 d) os) (hN1.below (below_regrown W1 d os)))
  have hix := idx13
  clear HF c0 c1 c2 c3 z1
  refine wp_region_quiet_below (by kernel_rfl) (by kernel_rfl) ?_
  repeat (first | go_big_quiet_skip | quiet_step (first | (go_at_call 17; exact HWr _ _) | (go_at_call 37; exact HFr _ _)))
  refine wpQuiet_nil ?_
  intro _ hw'
  obtain ⟨⟨dq, os⟩, hw''⟩ := hw'
  subst hw''
  have kR := below_regrown W1 dq os
  have kw := k1.trans (kR.mono k1.size)
  clear g0 g1 g2 g3 HWr HFr kR
  generalize grow (redrawn W1 dq) os = V at *
  go_wp2_with fail
  go_ret2
  exact ⟨rfl, kw⟩
set_option maxHeartbeats 4000000 in
theorem write_14 (n held : Int) (kp : Bool) (w : World) (hT : Txt.Tab w) (hk : chk ⟨14, 0, n, held⟩ = true) (hm : (14, n) ∈ numKeys) (h0 : 0 ≤ held) (h7 : held ≤ 7) (hN : NumTab w) : Calls Tryd.prog 6 #[kyv ⟨14, 0, n, held⟩, .bool kp] w fun e w' => e = .returned (.tuple #[.string (bs (wr ⟨14, 0, n, held⟩ kp)), .int .i64 0]) ∧ Below w.heap.size w w' := by
  have kb : Below w.heap.size w (w.alloc (.cells #[.int .i64 14, .int .i32 0, .int .i64 n, .int .i64 held] 23)) := (Below.refl _ _).alloc (Nat.le_refl _) _
  have HC := check_any ⟨14, 0, n, held⟩ _ (Tab.alloc hT (.cells #[.int .i64 14, .int .i32 0, .int .i64 n, .int .i64 held] 23))
  rw [hk] at HC
  clear hk hT
  rw [show wr ⟨14, 0, n, held⟩ kp = [27, 91] ++ digB (numOf 14 n) ++ heldB held ++ [126] from rfl]
  have HF := fun W (h : NumTab W) => writeNumber_any 14 n held kp hm h0 h7 W h
  generalize bs ([27, 91] ++ digB (numOf 14 n) ++ heldB held ++ [126]) = res at *
  unfold kyv at HC HF ⊢
  go_enter Tryd.func6, Tryd.ntmps6
  go_wp2_with (go_at_call 9; refine HC.mono ?_; rintro e W1 ⟨rfl, b1⟩)
  have z1 := held_block b1
  have k1 := kb.trans (b1.mono kb.size)
  clear b1 kb HC
  obtain ⟨⟨c0, c1, c2, c3⟩, _⟩ := four_cells z1
  have g0 := fun d os => cell_regrown c0 d os
  have g1 := fun d os => cell_regrown c1 d os
  have g2 := fun d os => cell_regrown c2 d os
  have g3 := fun d os => cell_regrown c3 d os
  have HWr := fun d os => Calls.regrown_of (writers_any (grow (redrawn W1 d) os))
  have hN1 := hN.below k1
  have HFr := fun d os => Calls.regrown_of (HF (grow (redrawn W1 d) os) (hN1.below (below_regrown W1 d os)))
  have hix := idx14
  clear HF c0 c1 c2 c3 z1
  refine wp_region_quiet_below (by kernel_rfl) (by kernel_rfl) ?_
  repeat (first | go_big_quiet_skip | quiet_step (first | (go_at_call 17; exact HWr _ _) | (go_at_call 37; exact HFr _ _)))
  refine wpQuiet_nil ?_
  intro _ hw'
  obtain ⟨⟨dq, os⟩, hw''⟩ := hw'
  subst hw''
  have kR := below_regrown W1 dq os
  have kw := k1.trans (kR.mono k1.size)
  clear g0 g1 g2 g3 HWr HFr kR
  generalize grow (redrawn W1 dq) os = V at *
  go_wp2_with fail
  go_ret2
  exact ⟨rfl, kw⟩
set_option maxHeartbeats 4000000 in
theorem write_15 (n held : Int) (kp : Bool) (w : World) (hT : Txt.Tab w) (hk : chk ⟨15, 0, n, held⟩ = true) (hm : (15, n) ∈ numKeys) (h0 : 0 ≤ held) (h7 : held ≤ 7) (hN : NumTab w) : Calls Tryd.prog 6 #[kyv ⟨15, 0, n, held⟩, .bool kp] w fun e w' => e = .returned (.tuple #[.string (bs (wr ⟨15, 0, n, held⟩ kp)), .int .i64 0]) ∧ Below w.heap.size w w' := by
  have kb : Below w.heap.size w (w.alloc (.cells #[.int .i64 15, .int .i32 0, .int .i64 n, .int .i64 held] 23)) := (Below.refl _ _).alloc (Nat.le_refl _) _
  have HC := check_any ⟨15, 0, n, held⟩ _ (Tab.alloc hT (.cells #[.int .i64 15, .int .i32 0, .int .i64 n, .int .i64 held] 23))
  rw [hk] at HC
  clear hk hT
  rw [show wr ⟨15, 0, n, held⟩ kp = [27, 91] ++ digB (numOf 15 n) ++ heldB held ++ [126] from rfl]
  have HF := fun W (h : NumTab W) => writeNumber_any 15 n held kp hm h0 h7 W h
  generalize bs ([27, 91] ++ digB (numOf 15 n) ++ heldB held ++ [126]) = res at *
  unfold kyv at HC HF ⊢
  go_enter Tryd.func6, Tryd.ntmps6
  go_wp2_with (go_at_call 9; refine HC.mono ?_; rintro e W1 ⟨rfl, b1⟩)
  have z1 := held_block b1
  have k1 := kb.trans (b1.mono kb.size)
  clear b1 kb HC
  obtain ⟨⟨c0, c1, c2, c3⟩, _⟩ := four_cells z1
  have g0 := fun d os => cell_regrown c0 d os
  have g1 := fun d os => cell_regrown c1 d os
  have g2 := fun d os => cell_regrown c2 d os
  have g3 := fun d os => cell_regrown c3 d os
  have HWr := fun d os => Calls.regrown_of (writers_any (grow (redrawn W1 d) os))
  have hN1 := hN.below k1
  have HFr := fun d os => Calls.regrown_of (HF (grow (redrawn W1 d) os) (hN1.below (below_regrown W1 d os)))
  have hix := idx15
  clear HF c0 c1 c2 c3 z1
  refine wp_region_quiet_below (by kernel_rfl) (by kernel_rfl) ?_
  repeat (first | go_big_quiet_skip | quiet_step (first | (go_at_call 17; exact HWr _ _) | (go_at_call 37; exact HFr _ _)))
  refine wpQuiet_nil ?_
  intro _ hw'
  obtain ⟨⟨dq, os⟩, hw''⟩ := hw'
  subst hw''
  have kR := below_regrown W1 dq os
  have kw := k1.trans (kR.mono k1.size)
  clear g0 g1 g2 g3 HWr HFr kR
  generalize grow (redrawn W1 dq) os = V at *
  go_wp2_with fail
  go_ret2
  exact ⟨rfl, kw⟩
set_option maxHeartbeats 4000000 in
theorem write_no (k : Ky) (kp : Bool) (w : World) (hT : Txt.Tab w) (hk : chk k = false) : Calls Tryd.prog 6 #[kyv k, .bool kp] w fun e w' => e = .returned (.tuple #[.string ⟨#[]⟩, .int .i64 5]) ∧ Below w.heap.size w w' := by
  have kb : Below w.heap.size w (w.alloc (.cells #[.int .i64 k.kind, .int .i32 k.r, .int .i64 k.n, .int .i64 k.held] 23)) := (Below.refl _ _).alloc (Nat.le_refl _) _
  have HC := check_any k _ (Tab.alloc hT (.cells #[.int .i64 k.kind, .int .i32 k.r, .int .i64 k.n, .int .i64 k.held] 23))
  rw [hk] at HC
  clear hk hT
  unfold kyv at HC ⊢
  go_enter Tryd.func6, Tryd.ntmps6
  go_wp2_with (go_at_call 9; refine HC.mono ?_; rintro e W1 ⟨rfl, b1⟩)
  go_ret2
  exact ⟨rfl, kb.trans (b1.mono kb.size)⟩
theorem plain_kinds : ∀ k ∈ plainKeys, 0 ≤ k.held ∧ k.held ≤ 7 ∧ k.r = 0 ∧ (k.kind = 2 ∧ (k.held = 0 ∨ k.held = 2) ∨ k.kind = 3 ∨ k.kind = 4 ∧ (k.held = 0 ∨ k.held = 2) ∨ k.kind = 5 ∨ k.kind = 6 ∨ k.kind = 7 ∨ k.kind = 8 ∨ k.kind = 9 ∨ k.kind = 10 ∨ k.kind = 11 ∨ (k.kind = 12 ∨ k.kind = 13 ∨ k.kind = 14 ∨ k.kind = 15) ∧ (k.kind, k.n) ∈ numKeys) := by decide +kernel
theorem ctrl_kinds : ∀ k ∈ ctrlKeys, k.kind = 1 ∧ (k.held = 4 ∨ k.held = 6) ∧ 97 ≤ k.r ∧ k.r ≤ 122 := by decide +kernel
theorem write_any (k : Ky) (kp : Bool) (w : World) (hT : Txt.Tab w) (hN : NumTab w) (hk : chk k = true) : Calls Tryd.prog 6 #[kyv k, .bool kp] w fun e w' => e = .returned (.tuple #[.string (bs (wr k kp)), .int .i64 0]) ∧ Below w.heap.size w w' := by
  rcases chk_cases k hk with h1 | ⟨h1, h2⟩ | ⟨h1, h2, h3, h4⟩
  · obtain ⟨h0, h7, hr, hc⟩ := plain_kinds k h1
    obtain ⟨kind, r, n, held⟩ := k
    simp only at h0 h7 hr hc
    subst hr
    rcases hc with ⟨rfl, hh⟩ | rfl | ⟨rfl, hh⟩ | rfl | rfl | rfl | rfl | rfl | rfl | rfl | ⟨rfl | rfl | rfl | rfl, hm⟩
    · exact write_2 0 n held kp w hT hk hh
    · exact write_3 0 n held kp w hT hk
    · exact write_4 0 n held kp w hT hk hh
    · exact write_5 0 n held kp w hT hk
    · exact write_6 0 n held kp w hT hk h0 h7
    · exact write_7 0 n held kp w hT hk h0 h7
    · exact write_8 0 n held kp w hT hk h0 h7
    · exact write_9 0 n held kp w hT hk h0 h7
    · exact write_10 0 n held kp w hT hk h0 h7
    · exact write_11 0 n held kp w hT hk h0 h7
    · exact write_12 n held kp w hT hk hm h0 h7 hN
    · exact write_13 n held kp w hT hk hm h0 h7 hN
    · exact write_14 n held kp w hT hk hm h0 h7 hN
    · exact write_15 n held kp w hT hk hm h0 h7 hN
  · obtain ⟨g1, g2, g3, g4⟩ := ctrl_kinds k h1
    obtain ⟨kind, r, n, held⟩ := k
    simp only at g1 g2 g3 g4
    subst g1
    exact write_1 r n held kp w hT hk (.inr (.inr ⟨g2, g3, g4⟩))
  · obtain ⟨kind, r, n, held⟩ := k
    simp only at h1 h4
    subst h1
    exact write_1 r n held kp w hT hk (by rcases h4 with h | h; exact .inl h; exact .inr (.inl h.1))
end Kys
end Go.Proofs.YtdmooeoklcjplaaDoor

/- Package keys: Name. -/
namespace Go.Proofs.YtdmooeoklcjplaaDoor
open Go.ChangeShapes Go.WideShapes Go.ChangeAt Go.RowKit
namespace Kys
open Txt (wd bs)
def nameCells : Array Value := (namesL.map fun l => Value.string (bs l)).toArray
def NameTab (w : World) : Prop := ∃ (t : TypeId) (fr : Nat × Nat), w.heap[1]? = some (.cells nameCells t fr)
theorem NameTab.below {w w' : World} (h : NameTab w) (hb : Below w.heap.size w w') : NameTab w' := by
  obtain ⟨t, fr, h⟩ := h
  exact ⟨t, fr, by_block h hb⟩
def holdCells : Array Value := #[.int .i64 4, .string (bs [67, 45]), .int .i64 2, .string (bs [77, 45]), .int .i64 1, .string (bs [83, 45])]
def HoldTab (w : World) : Prop := ∃ (t : TypeId) (fr : Nat × Nat), w.heap[0]? = some (.cells holdCells t fr)
theorem HoldTab.below {w w' : World} (h : HoldTab w) (hb : Below w.heap.size w w') : HoldTab w' := by
  obtain ⟨t, fr, h⟩ := h
  exact ⟨t, fr, by_block h hb⟩
theorem name_cells : ∀ m, m < 15 → nameCells[m]? = some (.string (bs (namesL.getD m []))) := by
  intro m hm
  have : m = 0 ∨ m = 1 ∨ m = 2 ∨ m = 3 ∨ m = 4 ∨ m = 5 ∨ m = 6 ∨ m = 7 ∨ m = 8 ∨ m = 9 ∨ m = 10 ∨ m = 11 ∨ m = 12 ∨ m = 13 ∨ m = 14 := by omega
  rcases this with rfl | rfl | rfl | rfl | rfl | rfl | rfl | rfl | rfl | rfl | rfl | rfl | rfl | rfl | rfl <;> rfl
theorem NameTab.cell {w : World} (h : NameTab w) (m : Nat) (hm : m < 15) : w.cell? ⟨1, m, none⟩ = some (.string (bs (namesL.getD m []))) := by
  obtain ⟨t, fr, h⟩ := h
  unfold World.cell?
  rw [h]
  exact name_cells m hm
theorem dig12 : ∀ j ∈ List.range 13, Lib.decDigits j = digB j ∧ (digB j).length ≤ 2 := by decide +kernel
set_option maxHeartbeats 4000000 in
theorem bareName_any (k : Ky) (hk : chk k = true) (w : World) (hN : NameTab w) : Calls Tryd.prog 27 #[kyv k] w fun e w' => e = .returned (.string (bs (bareN k))) ∧ Below w.heap.size w w' := by
  have hc := chk_cases k hk
  obtain ⟨kind, r, n, held⟩ := k
  have kb : Below w.heap.size w (w.alloc (.cells #[.int .i64 kind, .int .i32 r, .int .i64 n, .int .i64 held] 23)) := (Below.refl _ _).alloc (Nat.le_refl _) _
  have hN1 := hN.below kb
  unfold kyv
  simp only
  by_cases h15 : kind = 15
  · subst h15
    have hn : 1 ≤ n ∧ n ≤ 12 := by
      unfold chk at hk
      simp only at hk
      split at hk
      · cases hk
      · simp at hk
        exact hk
    obtain ⟨j, hj, rfl⟩ : ∃ j : Nat, j < 13 ∧ n = (j : Int) := ⟨n.toNat, by omega, by omega⟩
    obtain ⟨d1, d2⟩ := dig12 j (List.mem_range.2 hj)
    have HI := Tryd.strconv_Itoa_small j (by omega) (w.alloc (.cells #[.int .i64 15, .int .i32 r, .int .i64 (j : Int), .int .i64 held] 23))
    rw [d1] at HI
    have e : bs (bareN ⟨15, r, (j : Int), held⟩) = ⟨#[70]⟩ ++ bs (digB j) := by
      unfold bareN
      rw [if_pos rfl]
      exact (Txt.bs_append [70] (digB j)).symm
    rw [e]
    rw [show (⟨(digB j).toArray⟩ : ByteArray) = bs (digB j) from rfl] at HI
    have hs : (bs (digB j)).size ≤ 2 := by rw [bs_size]; exact d2
    have hs2 : ¬ 9223372036854775807 < 1 + (bs (digB j)).size := by omega
    clear e d1 d2 hc hk hN1 hN hn
    generalize bs (digB j) = t at *
    go_enter Tryd.func27, Tryd.ntmps27
    go_wp2_with (go_at_call 23; refine HI.mono ?_; rintro e W1 ⟨rfl, hW⟩; subst hW)
    go_ret
    exact ⟨rfl, kb⟩
  · have b15 : (kind == 15) = false := by rw [beq_eq_false_iff_ne]; exact h15
    by_cases h1 : kind = 1
    · subst h1
      by_cases h32 : r = 32
      · subst h32
        clear hc hk hN1 hN
        go_enter Tryd.func27, Tryd.ntmps27
        go_wp2_with fail
        go_ret
        exact ⟨rfl, kb⟩
      · have b32 : (r == 32) = false := by rw [beq_eq_false_iff_ne]; exact h32
        have e : bs (bareN ⟨1, r, n, held⟩) = Utf8.encode r := by rw [encode_eq]; simp [bareN, h32]
        rw [e]
        clear e hc hk hN1 hN
        go_enter Tryd.func27, Tryd.ntmps27
        go_wp2_with fail
        go_ret
        exact ⟨rfl, kb⟩
    · have hr : 2 ≤ kind ∧ kind ≤ 14 := by
        rcases hc with hc | ⟨hc, _⟩ | ⟨hc, _⟩
        · have hp := plain_kinds _ hc
          simp only at hp
          omega
        · exact absurd (ctrl_kinds _ hc).1 h1
        · exact absurd hc h1
      obtain ⟨m, hm, rfl⟩ : ∃ m : Nat, m < 15 ∧ kind = (m : Int) := ⟨kind.toNat, by omega, by omega⟩
      have c0 := hN1.cell m hm
      have b1 : ((m : Int) != 1) = true := by rw [bne_iff_ne]; exact h1
      have e : bs (bareN ⟨(m : Int), r, n, held⟩) = bs (namesL.getD m []) := by
        unfold bareN
        rw [if_neg h15, if_pos h1, Int.toNat_natCast]
      rw [e]
      have i1 : (m : Int) < 15 := by omega
      have i0 : (0 : Int) ≤ (m : Int) := by omega
      clear e hc hk hN1 hN hr
      generalize bs (namesL.getD m []) = t at *
      go_enter Tryd.func27, Tryd.ntmps27
      go_wp2_with fail
      go_ret
      exact ⟨rfl, kb⟩
theorem hold_idx (i : Nat) (hi : i < 3) : ∃ (b : Int) (l : List UInt8), (i = 0 ∧ b = 4 ∧ l = [67, 45] ∨ i = 1 ∧ b = 2 ∧ l = [77, 45] ∨ i = 2 ∧ b = 1 ∧ l = [83, 45]) ∧ ∀ wr : World, (Instr.index 57 (.agg holdCells) (.int .i64 (i : Int))).run Tryd.prog wr = .ok (.agg #[.int .i64 b, .string (bs l)]) wr := by
  have : i = 0 ∨ i = 1 ∨ i = 2 := by omega
  rcases this with rfl | rfl | rfl
  · exact ⟨4, [67, 45], .inl ⟨rfl, rfl, rfl⟩, fun wr => by kernel_rfl⟩
  · exact ⟨2, [77, 45], .inr (.inl ⟨rfl, rfl, rfl⟩), fun wr => by kernel_rfl⟩
  · exact ⟨1, [83, 45], .inr (.inr ⟨rfl, rfl, rfl⟩), fun wr => by kernel_rfl⟩
theorem and_bit (h b : Int) (h0 : 0 ≤ h) (h7 : h ≤ 7) (hb : b = 4 ∨ b = 2 ∨ b = 1) : (bits BinOp.and IntKind.i64 h b != 0) = decide (h / b % 2 = 1) := by
  obtain ⟨j, hj, rfl⟩ := held_cases (h := h) h0 h7
  have : j = 0 ∨ j = 1 ∨ j = 2 ∨ j = 3 ∨ j = 4 ∨ j = 5 ∨ j = 6 ∨ j = 7 := by omega
  rcases this with rfl | rfl | rfl | rfl | rfl | rfl | rfl | rfl <;> rcases hb with rfl | rfl | rfl <;> decide +kernel
/-- The first i signs of what is held. -/
def hN (h : Int) : Nat → List UInt8
  | 0 => []
  | 1 => sgn h 4 [67, 45]
  | 2 => sgn h 4 [67, 45] ++ sgn h 2 [77, 45]
  | _ => holdsN h
theorem hN_succ (h : Int) (i : Nat) (b : Int) (l : List UInt8) (hh : i = 0 ∧ b = 4 ∧ l = [67, 45] ∨ i = 1 ∧ b = 2 ∧ l = [77, 45] ∨ i = 2 ∧ b = 1 ∧ l = [83, 45]) : hN h (i + 1) = hN h i ++ sgn h b l := by
  rcases hh with ⟨rfl, rfl, rfl⟩ | ⟨rfl, rfl, rfl⟩ | ⟨rfl, rfl, rfl⟩
  · rfl
  · rfl
  · rfl
theorem hN_len (h : Int) : ∀ i, (hN h i).length ≤ 6 := by
  have hs : ∀ b l, (sgn h b l).length ≤ l.length := fun b l => by unfold sgn; split <;> simp
  have a := hs 4 [67, 45]
  have b := hs 2 [77, 45]
  have c := hs 1 [83, 45]
  simp at a b c
  intro i
  match i with
  | 0 => simp [hN]
  | 1 => simp [hN]; omega
  | 2 => simp [hN]; omega
  | k + 3 => simp [hN, holdsN]; omega
set_option maxHeartbeats 4000000 in
set_option maxRecDepth 100000 in
theorem name_any (k : Ky) (hk : chk k = true) (w : World) (hT : Txt.Tab w) (hNm : NameTab w) (hH : HoldTab w) : Calls Tryd.prog 14 #[kyv k] w fun e w' => e = .returned (.tuple #[.string (bs (nameL k)), .int .i64 0]) ∧ Below w.heap.size w w' := by
  have hd : 0 ≤ k.held ∧ k.held ≤ 7 := by
    unfold chk at hk
    split at hk
    · cases hk
    · omega
  have hln := (named_name k hk).2
  have HBN := fun W (h : NameTab W) => bareName_any k hk W h
  obtain ⟨kind, r, n, held⟩ := k
  simp only at hd
  have kb : Below w.heap.size w (w.alloc (.cells #[.int .i64 kind, .int .i32 r, .int .i64 n, .int .i64 held] 23)) := (Below.refl _ _).alloc (Nat.le_refl _) _
  have HC := check_any ⟨kind, r, n, held⟩ _ (Tab.alloc hT (.cells #[.int .i64 kind, .int .i32 r, .int .i64 n, .int .i64 held] 23))
  rw [hk] at HC
  have hH1 := hH.below kb
  have hN1 := hNm.below kb
  obtain ⟨res, hres⟩ : ∃ res, bs (nameL ⟨kind, r, n, held⟩) = res := ⟨_, rfl⟩
  have HR : Hid (bs (hN held 3) ++ bs (bareN ⟨kind, r, n, held⟩) = res) := by
    unfold Hid
    rw [← hres, Txt.bs_append]
    rfl
  have hsz : (bs (hN held 3)).size + (bs (bareN ⟨kind, r, n, held⟩)).size ≤ 16 := by
    rw [bs_size, bs_size]
    unfold nameL at hln
    rw [List.length_append] at hln
    exact hln
  rw [hres]
  clear hres hln hk hT hNm hH
  generalize bs (bareN ⟨kind, r, n, held⟩) = tb at *
  unfold kyv at HC HBN ⊢
  simp only at HC HBN ⊢
  go_enter Tryd.func14, Tryd.ntmps14
  go_wp2_with (first | (go_at_call 9; refine HC.mono ?_; rintro e W1 ⟨rfl, b1⟩; have z1 := held_block b1; have k1 := kb.trans (b1.mono kb.size); obtain ⟨tt, fr, h1⟩ := hH1.below b1; have N1 := hN1.below b1) | (refine wpList_load_row rfl 57 (.global 0) rfl 0 rfl _ holdCells _ _ h1 Tryd.underlying57 rfl (by kernel_rfl) ?_))
  clear b1 HC hH1 hN1 kb h1
  go_loopg [4, 11] 3 (fun g v4 v11 wr => ∃ i : Nat, i ≤ 3 ∧ 3 - i ≤ g ∧ v11 = .int .i64 (i : Int) ∧ v4 = .string (bs (hN held i)) ∧ Below W1.heap.size W1 wr)
  case atStart => exact ⟨0, by omega, by omega, rfl, rfl, Below.refl _ _⟩
  case round =>
    obtain ⟨i, hi, hg, rfl, rfl, hb⟩ := hrel
    have zr := by_block z1 hb
    obtain ⟨⟨c0, c1, c2, c3⟩, _⟩ := four_cells zr
    have hsz2 := hb.size
    have zlt : w.heap.size < wr.heap.size := (Array.getElem?_eq_some_iff.1 zr).1
    have hne : ¬ w.heap.size = wr.heap.size := by omega
    have hl6 := hN_len held i
    by_cases h3 : i < 3
    · have i3 : (i : Int) < 3 := by omega
      obtain ⟨b, l, hbl, hix⟩ := hold_idx i h3
      have hbit := and_bit held b hd.1 hd.2 (by omega)
      have hsu := hN_succ held i b l hbl
      have hw : wrap64 ((i : Int) + 1) = (i : Int) + 1 := by unfold wrap64; omega
      have hll : l.length = 2 := by rcases hbl with ⟨_, _, rfl⟩ | ⟨_, _, rfl⟩ | ⟨_, _, rfl⟩ <;> rfl
      by_cases hq : held / b % 2 = 1
      · rw [decide_eq_true hq] at hbit
        have e : bs (hN held (i + 1)) = bs (hN held i) ++ bs l := by rw [hsu, ← Txt.bs_append]; unfold sgn; rw [if_pos hq]
        have hs1 : ¬ 9223372036854775807 < (bs (hN held i)).size + (bs l).size := by rw [bs_size, bs_size]; omega
        have HE : Hid (bs (hN held (i + 1)) = bs (hN held i) ++ bs l) := e
        clear e hsu hbl hq
        generalize bs (hN held i) = ta at *
        generalize bs l = tl at *
        clear hd hl6 hll HR hsz HBN
        have hix := hix wr
        go_wp2_with fail
        go_roundg (3 - (i + 1))
        case measure => omega
        case rel => exact ⟨i + 1, by omega, by omega, by go_num, congrArg Value.string HE.out.symm, hb.alloc hsz2 _⟩
      · rw [decide_eq_false hq] at hbit
        have e : bs (hN held (i + 1)) = bs (hN held i) := by rw [hsu]; unfold sgn; rw [if_neg hq, List.append_nil]
        have HE : Hid (bs (hN held (i + 1)) = bs (hN held i)) := e
        clear e hsu hbl hq
        generalize bs (hN held i) = ta at *
        generalize bs l = tl at *
        clear hd hl6 hll HR hsz HBN
        have hix := hix wr
        go_wp2_with fail
        go_roundg (3 - (i + 1))
        case measure => omega
        case rel => exact ⟨i + 1, by omega, by omega, by go_num, congrArg Value.string HE.out.symm, hb.alloc hsz2 _⟩
    · have e3 : i = 3 := by omega
      subst e3
      have HB := HBN wr (N1.below hb)
      have hs1 : ¬ 9223372036854775807 < (bs (hN held 3)).size + tb.size := by omega
      go_wp2_with (go_at_call 27; refine HB.mono ?_; rintro e W2 ⟨rfl, b2⟩)
      go_ret2
      have k2 := k1.trans (hb.mono k1.size)
      exact ⟨by rw [← HR.out]; rfl, k2.trans (b2.mono k2.size)⟩
end Kys
end Go.Proofs.YtdmooeoklcjplaaDoor

/- What the rows list besides: the names and signs of package keys; a key that is handed in. -/
namespace Go.Proofs.YtdmooeoklcjplaaDoor
open Go.ChangeShapes Go.WideShapes Go.ChangeAt Go.RowKit
namespace Kys
open Txt (bs)
theorem slices1 : ∀ (l : List (List UInt8)) (cs : List Value), cs.length = l.length → (∀ i x, l[i]? = some x → (cs.drop (i * 1)).take 1 = [Value.string (bs x)]) → cs = l.map fun x => Value.string (bs x)
  | [], cs, hl, _ => by simpa using hl
  | x :: t, cs, hl, h => by
    have h0 := h 0 x rfl
    have ht := slices1 t (cs.drop 1) (by simp only [List.length_drop, List.length_cons] at hl ⊢; omega) (fun i y hy => by
      have := h (i + 1) y (by simpa using hy)
      rw [List.drop_drop]
      rwa [show 1 + i * 1 = (i + 1) * 1 from by omega])
    simp only [Nat.zero_mul, List.drop_zero] at h0
    rw [List.map_cons, ← ht, ← List.singleton_append, ← h0, List.take_append_drop]
theorem laid_nm {H : Type} : (Rows.laid_trellis_keys_names : DataW H) = .agg (namesL.map fun x => .lit (.string x)) := rfl
theorem name_of_reads {w : World} (h : Lib.VarReads Tryd.prog w "trellis/keys.names" Rows.laid_trellis_keys_names) : NameTab w := by
  obtain ⟨g, t, cs, fuel, p, hg, hty, hvar, hd⟩ := h
  obtain rfl := Option.some.inj ((show Tryd.prog.globalNamed "trellis/keys.names" = some 1 by kernel_rfl).symm.trans hg)
  obtain rfl := Option.some.inj ((show (Tryd.prog.globals[1]?).map (fun x => x.type) = some 75 by kernel_rfl).symm.trans hty)
  have hlen : cs.toList.length = 15 := by
    obtain ⟨xs, m, _, _, hl, _, _⟩ := DataW.trod_array Tryd.underlying75 hd
    rw [hl]; kernel_rfl
  rw [laid_nm] at hd
  have hcs : cs.toList = namesL.map fun x => Value.string (bs x) := by
    refine slices1 namesL cs.toList (by rw [hlen]; rfl) (fun i x hx => ?_)
    have hi : i < 15 := (List.getElem?_eq_some_iff.1 hx).1
    obtain ⟨fuel', d, q, hdi, he⟩ := Lib.array_elem Tryd.underlying75 hd i hi
    rw [List.getElem?_map, hx] at hdi
    obtain rfl := Option.some.inj hdi
    rw [show Tryd.prog.cellsOf 9 = 1 by kernel_rfl] at he
    obtain ⟨s, k, hs, _⟩ := DataW.trod_string Tryd.underlying9 he
    rw [k]
    simp at hs
    rw [hs.1]
    rfl
  obtain ⟨tt, fr, hh⟩ := var_cells hg hvar
  have hc : cs = nameCells := by unfold nameCells; rw [← hcs]
  exact ⟨tt, fr, by rw [hh, hc]⟩
theorem trod_struct2 {H : Type} {enc : TypeId × Value → H} {W : World} {P : Program} {base : Nat} {spare : Nat → Bool} {held : Bool} {t : TypeId} {f0 f1 : Field} {fuel : Nat} {cs : List Value} {x : DataW H × List MemPlace} (ht : P.underlying t = some (.struct #[f0, f1])) (h : DataW.trod enc P W base spare held fuel t cs = some x) :
    ∃ y0 y1 n, x.1 = .agg [y0.1, y1.1] ∧ cs.length = P.cellsOf t ∧ DataW.trod enc P W base spare held n f0.type ((cs.drop f0.offset).take (P.cellsOf f0.type)) = some y0 ∧
      DataW.trod enc P W base spare held n f1.type ((cs.drop f1.offset).take (P.cellsOf f1.type)) = some y1 := by
  obtain ⟨xs, n, _, rfl, hl, hlen, hf⟩ := DataW.trod_struct ht h
  match xs, hlen with
  | [y0, y1], _ => exact ⟨y0, y1, n, by simp, hl, by simpa using hf 0 f0 rfl, by simpa using hf 1 f1 rfl⟩
theorem hold_of_reads {w : World} (h : Lib.VarReads Tryd.prog w "trellis/keys.holds" Rows.laid_trellis_keys_holds) : HoldTab w := by
  obtain ⟨g, t, cs, fuel, p, hg, hty, hvar, hd⟩ := h
  obtain rfl := Option.some.inj ((show Tryd.prog.globalNamed "trellis/keys.holds" = some 0 by kernel_rfl).symm.trans hg)
  obtain rfl := Option.some.inj ((show (Tryd.prog.globals[0]?).map (fun x => x.type) = some 57 by kernel_rfl).symm.trans hty)
  have hlen : cs.toList.length = 6 := by
    obtain ⟨xs, m, _, _, hl, _, _⟩ := DataW.trod_array Tryd.underlying57 hd
    rw [hl]; kernel_rfl
  rw [show (Rows.laid_trellis_keys_holds : DataW Unit) = .agg [.agg [.lit (.int .i64 4), .lit (.string [67, 45])], .agg [.lit (.int .i64 2), .lit (.string [77, 45])], .agg [.lit (.int .i64 1), .lit (.string [83, 45])]] from rfl] at hd
  have key : ∀ i (b : Int) (l : List UInt8), i < 3 → ([.agg [.lit (.int .i64 4), .lit (.string [67, 45])], .agg [.lit (.int .i64 2), .lit (.string [77, 45])], .agg [.lit (.int .i64 1), .lit (.string [83, 45])]] : List (DataW Unit))[i]? = some (.agg [.lit (.int .i64 b), .lit (.string l)]) → (cs.toList.drop (i * 2)).take 2 = [.int .i64 b, .string (bs l)] := by
    intro i b l hi hx
    obtain ⟨fuel', d, q, hdi, he⟩ := Lib.array_elem Tryd.underlying57 hd i hi
    rw [hx] at hdi
    obtain rfl := Option.some.inj hdi
    rw [show Tryd.prog.cellsOf 56 = 2 by kernel_rfl] at he
    obtain ⟨y0, y1, n, hy, hl, e0, e1⟩ := trod_struct2 Tryd.underlying56 he
    rw [show Tryd.prog.cellsOf 56 = 2 by kernel_rfl] at hl
    generalize (cs.toList.drop (i * 2)).take 2 = c2 at *
    simp only [DataW.agg.injEq, List.cons.injEq, and_true] at hy
    obtain ⟨g0, g1⟩ := hy
    simp only [show Tryd.prog.cellsOf 3 = 1 by kernel_rfl, show Tryd.prog.cellsOf 9 = 1 by kernel_rfl] at e0 e1
    obtain ⟨z0, k0, rfl, _⟩ := DataW.trod_int Tryd.underlying3 e0
    obtain ⟨z1, k1, rfl, _⟩ := DataW.trod_string Tryd.underlying9 e1
    match c2, hl with
    | [a, c], _ =>
      simp at k0 k1 g0 g1
      subst k0 k1 g0 g1
      rfl
  have h0 := key 0 4 [67, 45] (by decide) rfl
  have h1 := key 1 2 [77, 45] (by decide) rfl
  have h2 := key 2 1 [83, 45] (by decide) rfl
  obtain ⟨tt, fr, hh⟩ := var_cells hg hvar
  have hc : cs = holdCells := by
    apply Array.toList_inj.1
    generalize cs.toList = L at *
    match L, hlen with
    | [a, b, c, d, e, f], _ =>
      simp at h0 h1 h2
      obtain ⟨rfl, rfl⟩ := h0
      obtain ⟨rfl, rfl⟩ := h1
      obtain ⟨rfl, rfl⟩ := h2
      rfl
  exact ⟨tt, fr, by rw [hh, hc]⟩
set_option maxRecDepth 100000 in
theorem open_key {H : Type} {enc : TypeId × Value → H} {W : World} {r : Reach} {b0 : Nat} {v : Value} {d : DataW H} {p : List MemPlace} (hv : Value.okWide Tryd.prog W r b0 23 v) (h : DataW.Trod enc Tryd.prog W 0 (fun _ => true) true 23 v d p) :
    ∃ (a b c e : Int), v = .agg #[.int .i64 a, .int .i32 b, .int .i64 c, .int .i64 e] := by
  obtain ⟨e0, e1, e2, e3, y0, y1, y2, y3, n, rfl, hd, _, t0, t1, t2, t3⟩ := Joins.open_agg4 Tryd.underlying23 (by kernel_rfl) (by kernel_rfl) hv h
  obtain ⟨a, k0, _, w0⟩ := DataW.trod_int Tryd.underlying3 t0
  obtain ⟨b, k1, _, w1⟩ := DataW.trod_int Tryd.underlying21 t1
  obtain ⟨c, k2, _, w2⟩ := DataW.trod_int Tryd.underlying3 t2
  obtain ⟨e, k3, _, w3⟩ := DataW.trod_int Tryd.underlying3 t3
  obtain rfl : e0 = _ := by simpa using k0
  obtain rfl : e1 = _ := by simpa using k1
  obtain rfl : e2 = _ := by simpa using k2
  obtain rfl : e3 = _ := by simpa using k3
  exact ⟨a, b, c, e, rfl⟩
end Kys
end Go.Proofs.YtdmooeoklcjplaaDoor

/- Plain mathematics: keys, as the reference tells them: a table of sequences. -/
namespace Go.Proofs.YtdmooeoklcjplaaDoor
namespace Kys
open Txt (dec wd okRune)
/-- All keys that are told by a sequence, in the order in which they are stored. -/
def seqT : List (Ky × List UInt8) :=
  [(⟨6, 0, 0, 0⟩, [65]), (⟨7, 0, 0, 0⟩, [66]), (⟨8, 0, 0, 0⟩, [67]), (⟨9, 0, 0, 0⟩, [68]), (⟨11, 0, 0, 0⟩, [70]), (⟨10, 0, 0, 0⟩, [72]),
   (⟨14, 0, 0, 0⟩, [51, 126]), (⟨12, 0, 0, 0⟩, [53, 126]), (⟨13, 0, 0, 0⟩, [54, 126]),
   (⟨15, 0, 1, 0⟩, [49, 49, 126]), (⟨15, 0, 2, 0⟩, [49, 50, 126]), (⟨15, 0, 3, 0⟩, [49, 51, 126]), (⟨15, 0, 4, 0⟩, [49, 52, 126]), (⟨15, 0, 5, 0⟩, [49, 53, 126]),
   (⟨15, 0, 6, 0⟩, [49, 55, 126]), (⟨15, 0, 7, 0⟩, [49, 56, 126]), (⟨15, 0, 8, 0⟩, [49, 57, 126]), (⟨15, 0, 9, 0⟩, [50, 48, 126]), (⟨15, 0, 10, 0⟩, [50, 49, 126]),
   (⟨15, 0, 11, 0⟩, [50, 51, 126]), (⟨15, 0, 12, 0⟩, [50, 52, 126])]
def lookS (l : List (Ky × List UInt8)) (k : Ky) : List UInt8 := l.foldl (fun c p => if k = p.1 then p.2 else c) []
/-- What a key without what is held is told by; nothing of others. -/
def sq (k : Ky) : List UInt8 := lookS seqT { k with held := 0 }
def isSq (k : Ky) : Prop := k.r = 0 ∧ (k.n = 0 ∧ 6 ≤ k.kind ∧ k.kind ≤ 14 ∨ k.kind = 15 ∧ 1 ≤ k.n ∧ k.n ≤ 12)
instance (k : Ky) : Decidable (isSq k) := by unfold isSq; infer_instance
theorem look_miss : ∀ (l : List (Ky × List UInt8)) (k : Ky) (c : List UInt8), (∀ p ∈ l, k ≠ p.1) → l.foldl (fun c p => if k = p.1 then p.2 else c) c = c
  | [], _, _, _ => rfl
  | p :: l, k, c, h => by
    rw [List.foldl_cons, if_neg (h p (by simp))]
    exact look_miss l k c (fun q hq => h q (by simp [hq]))
def sqKeys : List (Int × Int) := ((List.range 9).map fun i : Nat => (6 + (i : Int), 0)) ++ ((List.range 12).map fun i : Nat => (15, 1 + (i : Int)))
theorem isSq_mem (k : Ky) (h : isSq k) : (k.kind, k.n) ∈ sqKeys ∧ k.r = 0 := by
  obtain ⟨kind, r, n, held⟩ := k
  obtain ⟨hr, h⟩ := h
  simp only at hr h ⊢
  refine ⟨?_, hr⟩
  unfold sqKeys
  rw [List.mem_append]
  rcases h with ⟨hn, h1, h2⟩ | ⟨hk, h1, h2⟩
  · refine .inl (List.mem_map.2 ⟨(kind - 6).toNat, List.mem_range.2 (by omega), ?_⟩)
    subst hn
    exact congrArg (fun z => (z, (0 : Int))) (by omega)
  · refine .inr (List.mem_map.2 ⟨(n - 1).toNat, List.mem_range.2 (by omega), ?_⟩)
    subst hk
    exact congrArg (fun z => ((15 : Int), z)) (by omega)
theorem sq_no (k : Ky) (h : ¬ isSq k) : sq k = [] := by
  unfold sq lookS
  refine look_miss _ _ _ fun p hp e => h ?_
  obtain ⟨kind, r, n, held⟩ := k
  have : ∀ p ∈ seqT, isSq p.1 := by decide +kernel
  have := this p hp
  rw [← e] at this
  exact this
theorem sq_yes : ∀ p ∈ sqKeys, sq ⟨p.1, 0, p.2, 0⟩ = (if p.1 ≤ 11 then [letB p.1] else digB (numOf p.1 p.2) ++ [126]) := by decide +kernel
theorem sq_held (k : Ky) (h : Int) : sq { k with held := h } = sq k := rfl
theorem sq_is (k : Ky) (h : isSq k) : sq k = (if k.kind ≤ 11 then [letB k.kind] else digB (numOf k.kind k.n) ++ [126]) := by
  obtain ⟨h1, h2⟩ := isSq_mem k h
  obtain ⟨kind, r, n, held⟩ := k
  simp only at h1 h2 ⊢
  subst h2
  exact sq_yes (kind, n) h1
theorem sq_ne (k : Ky) (h : isSq k) : sq k ≠ [] := by
  rw [sq_is k h]
  split
  · simp
  · simp
/-- Whether a key can be told, as the reference has it. -/
theorem chk_sq (k : Ky) (h : isSq k) (h0 : 0 ≤ k.held) (h7 : k.held ≤ 7) : chk k = true := by
  obtain ⟨kind, r, n, held⟩ := k
  obtain ⟨hr, h⟩ := h
  simp only at hr h h0 h7
  unfold chk
  simp only
  rw [if_neg (by omega), if_neg (by omega), if_neg (by omega), if_neg (by omega), if_neg (by omega)]
  split
  · exact decide_eq_true (by omega)
  · exact decide_eq_true (by omega)
theorem chk_out (k : Ky) (h : k.held < 0 ∨ 7 < k.held) : chk k = false := by
  unfold chk
  rw [if_pos (by omega)]
theorem chk_no1 (k : Ky) (h : ¬ isSq k) (h1 : k.n ≠ 0 ∨ k.kind ≠ 1 ∧ k.r ≠ 0) : chk k = false := by
  obtain ⟨kind, r, n, held⟩ := k
  unfold isSq at h
  unfold chk
  simp only at h h1 ⊢
  split
  · rfl
  · rw [if_neg (by omega), if_neg (by omega), if_neg (by omega), if_neg (by omega)]
    split
    · exact decide_eq_false (by omega)
    · exact decide_eq_false (by omega)
theorem chk_else (k : Ky) (h : ¬ isSq k) (h1 : k.n = 0) (h2 : k.kind = 1 ∨ k.r = 0) (h0 : 0 ≤ k.held) (h7 : k.held ≤ 7) (hk : ¬ (1 ≤ k.kind ∧ k.kind ≤ 5)) : chk k = false := by
  obtain ⟨kind, r, n, held⟩ := k
  unfold isSq at h
  unfold chk
  simp only at *
  rw [if_neg (by omega), if_neg (by omega), if_neg (by omega), if_neg (by omega), if_neg (by omega)]
  split
  · exact decide_eq_false (by omega)
  · exact decide_eq_false (by omega)
end Kys
end Go.Proofs.YtdmooeoklcjplaaDoor

/- The reference's table of sequences: a map by keys, made by stores. -/
namespace Go.Proofs.YtdmooeoklcjplaaDoor
open Go.ChangeShapes Go.WideShapes Go.ChangeAt Go.RowKit Go.Maps
namespace Kys
open Txt (wd bs)
theorem ky_out : laidOutB Tryd.prog = true := by kernel_rfl
theorem ky_row : (23 : TypeId) < Tryd.prog.types.size := of_decide_eq_true (by kernel_rfl)
set_option maxRecDepth 100000 in
theorem ky_law : Keyed Tryd.prog 23 := Keyed.of_law (deep_law_laid ky_out (m := 3) (by omega) ky_row (by kernel_rfl) (by kernel_rfl))
theorem ky_cells : Tryd.prog.cellsOf 23 = 4 := by kernel_rfl
theorem ky_c3 : Tryd.prog.cellsOf 3 = 1 := by kernel_rfl
theorem ky_c21 : Tryd.prog.cellsOf 21 = 1 := by kernel_rfl
theorem ky_type : Tryd.prog.keyType 23 = true := by kernel_rfl
theorem ky_int : Tryd.prog.underlying 3 = some (.int .i64) := by kernel_rfl
theorem ky_i32 : Tryd.prog.underlying 21 = some (.int .i32) := by kernel_rfl
theorem ky_string : Tryd.prog.underlying 9 = some .string := by kernel_rfl
theorem ky_map : Tryd.prog.underlying 45 = some (.map 23 9) := by kernel_rfl
theorem ky_zero (w : World) : (zeroValue 9).run Tryd.prog w = .ok (.string ⟨#[]⟩) w := by kernel_rfl
/-- Numbers that their kinds hold. -/
def Wf (k : Ky) : Prop := (-9223372036854775808 ≤ k.kind ∧ k.kind ≤ 9223372036854775807) ∧ (-2147483648 ≤ k.r ∧ k.r ≤ 2147483647) ∧ (-9223372036854775808 ≤ k.n ∧ k.n ≤ 9223372036854775807) ∧ (-9223372036854775808 ≤ k.held ∧ k.held ≤ 9223372036854775807)
instance (k : Ky) : Decidable (Wf k) := by unfold Wf; infer_instance
open Classical in
noncomputable def klOf (k : Ky) : Lit := if h : ∃ l, keyOf Tryd.prog 23 (kyv k) = some l then Classical.choose h else .bool false
theorem wf32 {a : Int} (h : -2147483648 ≤ a ∧ a ≤ 2147483647) : (Lit.int .i32 a).wf = true := by
  have e1 : IntKind.i32.min = -2147483648 := by decide
  have e2 : IntKind.i32.max = 2147483647 := by decide
  simp [Lit.wf, e1, e2]
  omega
theorem key_mk (k : Ky) (h : Wf k) : keyOf Tryd.prog 23 (kyv k) = some (klOf k) := by
  have : ∃ kl, keyOf Tryd.prog 23 (kyv k) = some kl := by
    obtain ⟨h1, h2, h3, h4⟩ := h
    have hu := Tryd.underlying23
    have ht : ∃ m, Tryd.prog.types.size + 1 = m + 2 := ⟨Tryd.prog.types.size - 1, by have h : (23 : Nat) < Tryd.prog.types.size := ky_row; omega⟩
    obtain ⟨m, hm⟩ := ht
    unfold keyOf kyv
    rw [hu]
    simp only [ky_type, hm]
    unfold Program.keyLits
    rw [hu]
    simp [Value.formed, hu, ky_cells, Value.cells, Program.keyLits, ky_c3, ky_c21, WalkArith.wf_i64 h1, wf32 h2, WalkArith.wf_i64 h3, WalkArith.wf_i64 h4]
  unfold klOf
  rw [dif_pos this]
  exact Classical.choose_spec this
theorem kyv_inj {a b : Ky} (h : kyv a = kyv b) : a = b := by
  obtain ⟨a0, a1, a2, a3⟩ := a
  obtain ⟨b0, b1, b2, b3⟩ := b
  simp only [kyv, Value.agg.injEq, Array.mk.injEq, List.cons.injEq, Value.int.injEq, true_and, and_true] at h
  obtain ⟨rfl, rfl, rfl, rfl⟩ := h
  rfl
theorem kl_inj {a b : Ky} (ha : Wf a) (hb : Wf b) (h : klOf a = klOf b) : a = b :=
  kyv_inj (ky_law.inj (key_mk a ha) (by rw [h]; exact key_mk b hb))
theorem kl_key (k : Ky) (h : Wf k) : WideAt.IsKeyLit (klOf k) := by
  have h1 := key_mk k h
  generalize klOf k = l at *
  exact ky_law.key h1
noncomputable def putS (D : DataW Unit) (p : Ky × List UInt8) : DataW Unit := D.put (klOf p.1) (.lit (.string p.2))
noncomputable def litsS (l : List (Ky × List UInt8)) : DataW Unit := l.foldl putS (.map [])
theorem litsS_at : ∀ (l : List (Ky × List UInt8)) (D : DataW Unit) (c : List UInt8) (k : Ky), (∀ p ∈ l, Wf p.1) → Wf k → IsMap D → D.atKey (klOf k) (.lit (.string [])) = .lit (.string c) →
    (l.foldl putS D).atKey (klOf k) (.lit (.string [])) = .lit (.string (l.foldl (fun c p => if k = p.1 then p.2 else c) c))
  | [], D, c, k, _, _, _, h => h
  | p :: l, D, c, k, hl, hk, hD, h => by
    refine litsS_at l _ _ k (fun q hq => hl q (by simp [hq])) hk (hD.put _ _) ?_
    unfold putS
    show (D.put (klOf p.1) (.lit (.string p.2))).atKey (klOf k) (.lit (.string [])) = .lit (.string (if k = p.1 then p.2 else c))
    by_cases hn : k = p.1
    · rw [if_pos hn, hn]
      have hw := kl_key p.1 (hl p (by simp))
      generalize klOf p.1 = l' at *
      exact atKey_put_same hD hw _ _
    · rw [if_neg hn, atKey_put_other (fun e => hn (kl_inj hk (hl p (by simp)) e)), h]
theorem litsS_look (l : List (Ky × List UInt8)) (hl : ∀ p ∈ l, Wf p.1) (k : Ky) (hk : Wf k) : (litsS l).atKey (klOf k) (.lit (.string [])) = .lit (.string (lookS l k)) :=
  litsS_at l (.map []) [] k hl hk isMap_empty rfl
/-- A block that holds these keys and texts. -/
def SeqAt (w : World) (b : Nat) (l : List (Ky × List UInt8)) : Prop := ∃ n, n ≤ l.length ∧ w.ownsMap Tryd.prog 23 (plainElem (H := Unit) Tryd.prog 9) b n (litsS l)
theorem SeqAt.below {w w' : World} {b N : Nat} {l : List (Ky × List UInt8)} (h : SeqAt w b l) (hb : Below N w w') (hlt : b < N) : SeqAt w' b l := by
  obtain ⟨n, hn, es, clock, hh, F⟩ := h
  exact ⟨n, hn, es, clock, (hb.block b hlt).trans hh, F⟩
theorem SeqAt.lookup {w : World} {b : Nat} {l : List (Ky × List UInt8)} (h : SeqAt w b l) (hl : ∀ p ∈ l, Wf p.1) (k : Ky) (hk : Wf k) :
    (Instr.lookup 45 (.map (some b)) (kyv k) false).run Tryd.prog w = .ok (.string (bs (lookS l k))) w := by
  obtain ⟨n, _, h⟩ := h
  obtain ⟨v, ps, hrun, hat⟩ := h.lookup ky_law ky_map (ky_zero w) (plainElem_string ky_string (s := ⟨#[]⟩) (by decide)) (key_mk k hk)
  obtain ⟨s, rfl, hz, _⟩ := plainElem_string_inv ky_string hat
  rw [show (⟨#[]⟩ : ByteArray).data.toList = [] from rfl, litsS_look l hl k hk] at hz
  simp only [Prod.mk.injEq, DataW.lit.injEq, Lit.string.injEq] at hz
  rw [hrun, hz.1]
  rfl
theorem seq_made (w : World) : SeqAt (w.alloc (.map #[] 0)) w.heap.size [] := ⟨0, Nat.le_refl _, World.ownsMap_made _ _ _ _⟩
theorem SeqAt.put {w : World} {b : Nat} {l : List (Ky × List UInt8)} (h : SeqAt w b l) (hn : l.length < 100) (k : Ky) (hk : Wf k) (t : List UInt8) (ht : t.length < 100) :
    ∃ w', Sem.run Tryd.prog (Instr.mapUpdate 45 (.map (some b)) (kyv k) (.string (bs t))) w = .ok () w' ∧ SeqAt w' b (l ++ [(k, t)]) ∧ w.grownBy w' (some b) := by
  obtain ⟨n, hn', h⟩ := h
  obtain ⟨w', hrun, r1, r2⟩ := h.update (t := 45) ky_law ky_map (by unfold maxLen; omega) (key_mk k hk) (plainElem_string (s := bs t) ky_string (by unfold maxLen; show t.length ≤ _; omega))
  refine ⟨w', hrun, ⟨n + 1, by simp; omega, ?_⟩, r2⟩
  unfold litsS at r1 ⊢
  rw [List.foldl_append]
  exact r1
end Kys
end Go.Proofs.YtdmooeoklcjplaaDoor

/- A key that came in: its numbers are those that their kinds hold. -/
namespace Go.Proofs.YtdmooeoklcjplaaDoor
open Go.ChangeShapes Go.WideShapes Go.ChangeAt Go.RowKit
namespace Kys
theorem in64 {x : Int} (h : (Lit.int .i64 x).wf = true) : -9223372036854775808 ≤ x ∧ x ≤ 9223372036854775807 := by
  have e1 : IntKind.i64.min = -9223372036854775808 := by decide
  have e2 : IntKind.i64.max = 9223372036854775807 := by decide
  simpa [Lit.wf, e1, e2] using h
theorem in32 {x : Int} (h : (Lit.int .i32 x).wf = true) : -2147483648 ≤ x ∧ x ≤ 2147483647 := by
  have e1 : IntKind.i32.min = -2147483648 := by decide
  have e2 : IntKind.i32.max = 2147483647 := by decide
  simpa [Lit.wf, e1, e2] using h
set_option maxRecDepth 100000 in
theorem open_keyw {H : Type} {enc : TypeId × Value → H} {W : World} {r : Reach} {b0 : Nat} {v : Value} {d : DataW H} {p : List MemPlace} (hv : Value.okWide Tryd.prog W r b0 23 v) (h : DataW.Trod enc Tryd.prog W 0 (fun _ => true) true 23 v d p) :
    ∃ (a b c e : Int), v = .agg #[.int .i64 a, .int .i32 b, .int .i64 c, .int .i64 e] ∧ Wf ⟨a, b, c, e⟩ := by
  obtain ⟨e0, e1, e2, e3, y0, y1, y2, y3, n, rfl, hd, _, t0, t1, t2, t3⟩ := Joins.open_agg4 Tryd.underlying23 (by kernel_rfl) (by kernel_rfl) hv h
  obtain ⟨a, k0, _, w0⟩ := DataW.trod_int Tryd.underlying3 t0
  obtain ⟨b, k1, _, w1⟩ := DataW.trod_int Tryd.underlying21 t1
  obtain ⟨c, k2, _, w2⟩ := DataW.trod_int Tryd.underlying3 t2
  obtain ⟨e, k3, _, w3⟩ := DataW.trod_int Tryd.underlying3 t3
  obtain rfl : e0 = _ := by simpa using k0
  obtain rfl : e1 = _ := by simpa using k1
  obtain rfl : e2 = _ := by simpa using k2
  obtain rfl : e3 = _ := by simpa using k3
  exact ⟨a, b, c, e, rfl, in64 w0, in32 w1, in64 w2, in64 w3⟩
end Kys
end Go.Proofs.YtdmooeoklcjplaaDoor

/- The reference's table of sequences, made. (Written by gen_keysrefs.py.) -/
namespace Go.Proofs.YtdmooeoklcjplaaDoor
open Go.ChangeShapes Go.WideShapes Go.ChangeAt Go.RowKit Go.Maps
namespace Kys
open Txt (wd bs)
theorem heap_grown {w w' : World} {b j : Nat} {o : Obj} (h : w.heap[j]? = some o) (hg : w.grownBy w' (some b)) (hne : j ≠ b) : w'.heap[j]? = some o :=
  (hg.block j (Array.getElem?_eq_some_iff.1 h).1 (by simp [hne])).trans h
theorem cell_of {w : World} {b i : Nat} {xs : Array Value} {t : TypeId} {f : Nat × Nat} {v : Value} (h : w.heap[b]? = some (.cells xs t f)) (hv : xs[i]? = some v) : w.cell? ⟨b, i, none⟩ = some v := by
  unfold World.cell?
  rw [h]
  exact hv
def S1 (w wr : World) (l : List (Ky × List UInt8)) : Prop := SeqAt wr w.heap.size l ∧ Below w.heap.size w wr ∧ w.heap.size + 1 ≤ wr.heap.size
theorem S1.put {w wr : World} {l : List (Ky × List UInt8)} (h : S1 w wr l) (hn : l.length < 100) (k : Ky) (hk : Wf k) (t : List UInt8) (ht : t.length < 100) :
    ∃ w', Sem.run Tryd.prog (Instr.mapUpdate 45 (.map (some w.heap.size)) (kyv k) (.string (bs t))) wr = .ok () w' ∧ S1 w w' (l ++ [(k, t)]) ∧ wr.grownBy w' (some w.heap.size) := by
  obtain ⟨h1, h2, h3⟩ := h
  obtain ⟨w', hr, hs, hg⟩ := h1.put hn k hk t ht
  exact ⟨w', hr, ⟨hs, h2.grown hg h2.size (fun j hj => by cases hj; exact Nat.le_refl _), Nat.le_trans h3 hg.size⟩, hg⟩
theorem S1.alloc {w wr : World} {l : List (Ky × List UInt8)} (h : S1 w wr l) (o : Obj) : S1 w (wr.alloc o) l := by
  obtain ⟨⟨n, hn, h1⟩, h2, h3⟩ := h
  exact ⟨⟨n, hn, h1.alloc o⟩, h2.alloc h2.size o, by rw [World.size_alloc]; omega⟩
theorem S1.start (w : World) : S1 w (w.alloc (.map #[] 0)) [] := ⟨seq_made w, (Below.refl _ _).alloc (Nat.le_refl _) _, by rw [World.size_alloc]; omega⟩
def c1 : Array Value := #[.int .i64 6, .int .i64 7, .int .i64 8, .int .i64 9, .int .i64 11, .int .i64 10]
def c2 : Array Value := #[.int .i64 11, .int .i64 12, .int .i64 13, .int .i64 14, .int .i64 15, .int .i64 17, .int .i64 18, .int .i64 19, .int .i64 20, .int .i64 21, .int .i64 23, .int .i64 24]
set_option maxHeartbeats 4000000 in
set_option maxRecDepth 100000 in
theorem sequences_any (w : World) : Calls Tryd.prog 18 #[] w fun e w' => e = .returned (.map (some w.heap.size)) ∧ SeqAt w' w.heap.size seqT ∧ Below w.heap.size w w' ∧ w.heap.size < w'.heap.size := by
  have hmm := @run_makeMap Tryd.prog
  go_enter Tryd.func18, Tryd.ntmps18
  go_wp2_with fail
  obtain ⟨W0, hW0⟩ : ∃ W0, (w.alloc (.map #[] 0)).alloc (.cells #[.int .i64 6, .int .i64 7, .int .i64 8, .int .i64 9, .int .i64 11, .int .i64 10] 3) = W0 := ⟨_, rfl⟩
  have hs0 : S1 w W0 (seqT.take 0) := by rw [← hW0]; exact (S1.start w).alloc _
  have z0 : W0.heap[w.heap.size + 1]? = some (.cells #[.int .i64 6, .int .i64 7, .int .i64 8, .int .i64 9, .int .i64 11, .int .i64 10] 3 (0, 0)) := by
    rw [← hW0, show w.heap.size + 1 = (w.alloc (.map #[] 0)).heap.size by simp]
    exact heap_alloc_new _ _
  rw [hW0]
  clear hmm hW0
  go_loopg [9] 6 (fun g v wr => ∃ i : Nat, i ≤ 6 ∧ 6 - i ≤ g ∧ v = .int .i64 (i : Int) ∧ S1 w wr (seqT.take i) ∧ wr.heap[w.heap.size + 1]? = some (.cells #[.int .i64 6, .int .i64 7, .int .i64 8, .int .i64 9, .int .i64 11, .int .i64 10] 3 (0, 0)))
  case atStart => exact ⟨0, Nat.zero_le _, by omega, rfl, hs0, z0⟩
  case round =>
    obtain ⟨i, hi, hg, rfl, hs, hz⟩ := hrel
    have hc := fun j v (h : _ = some v) => cell_of (i := j) hz h
    have h6 : i = 0 ∨ i = 1 ∨ i = 2 ∨ i = 3 ∨ i = 4 ∨ i = 5 ∨ i = 6 := by omega
    clear hs0 z0
    rcases h6 with rfl | rfl | rfl | rfl | rfl | rfl | rfl
    · have c0 := hc 0 _ rfl
      clear hc
      obtain ⟨V, rV, sV, gV⟩ := hs.put (by decide) ⟨6, 0, 0, 0⟩ (by decide) [65] (by decide)
      rw [show kyv ⟨6, 0, 0, 0⟩ = .agg #[.int .i64 6, .int .i32 0, .int .i64 0, .int .i64 0] from rfl, show bs [65] = (⟨#[65, 66, 67, 68, 70, 72]⟩ : ByteArray).extract 0 1 by kernel_rfl] at rV
      go_wp2_with fail
      go_roundg 5
      case measure => omega
      case rel => exact ⟨1, by omega, by omega, by go_num, sV, heap_grown hz gV (by omega)⟩
    · have c0 := hc 1 _ rfl
      clear hc
      obtain ⟨V, rV, sV, gV⟩ := hs.put (by decide) ⟨7, 0, 0, 0⟩ (by decide) [66] (by decide)
      rw [show kyv ⟨7, 0, 0, 0⟩ = .agg #[.int .i64 7, .int .i32 0, .int .i64 0, .int .i64 0] from rfl, show bs [66] = (⟨#[65, 66, 67, 68, 70, 72]⟩ : ByteArray).extract 1 2 by kernel_rfl] at rV
      go_wp2_with fail
      go_roundg 4
      case measure => omega
      case rel => exact ⟨2, by omega, by omega, by go_num, sV, heap_grown hz gV (by omega)⟩
    · have c0 := hc 2 _ rfl
      clear hc
      obtain ⟨V, rV, sV, gV⟩ := hs.put (by decide) ⟨8, 0, 0, 0⟩ (by decide) [67] (by decide)
      rw [show kyv ⟨8, 0, 0, 0⟩ = .agg #[.int .i64 8, .int .i32 0, .int .i64 0, .int .i64 0] from rfl, show bs [67] = (⟨#[65, 66, 67, 68, 70, 72]⟩ : ByteArray).extract 2 3 by kernel_rfl] at rV
      go_wp2_with fail
      go_roundg 3
      case measure => omega
      case rel => exact ⟨3, by omega, by omega, by go_num, sV, heap_grown hz gV (by omega)⟩
    · have c0 := hc 3 _ rfl
      clear hc
      obtain ⟨V, rV, sV, gV⟩ := hs.put (by decide) ⟨9, 0, 0, 0⟩ (by decide) [68] (by decide)
      rw [show kyv ⟨9, 0, 0, 0⟩ = .agg #[.int .i64 9, .int .i32 0, .int .i64 0, .int .i64 0] from rfl, show bs [68] = (⟨#[65, 66, 67, 68, 70, 72]⟩ : ByteArray).extract 3 4 by kernel_rfl] at rV
      go_wp2_with fail
      go_roundg 2
      case measure => omega
      case rel => exact ⟨4, by omega, by omega, by go_num, sV, heap_grown hz gV (by omega)⟩
    · have c0 := hc 4 _ rfl
      clear hc
      obtain ⟨V, rV, sV, gV⟩ := hs.put (by decide) ⟨11, 0, 0, 0⟩ (by decide) [70] (by decide)
      rw [show kyv ⟨11, 0, 0, 0⟩ = .agg #[.int .i64 11, .int .i32 0, .int .i64 0, .int .i64 0] from rfl, show bs [70] = (⟨#[65, 66, 67, 68, 70, 72]⟩ : ByteArray).extract 4 5 by kernel_rfl] at rV
      go_wp2_with fail
      go_roundg 1
      case measure => omega
      case rel => exact ⟨5, by omega, by omega, by go_num, sV, heap_grown hz gV (by omega)⟩
    · have c0 := hc 5 _ rfl
      clear hc
      obtain ⟨V, rV, sV, gV⟩ := hs.put (by decide) ⟨10, 0, 0, 0⟩ (by decide) [72] (by decide)
      rw [show kyv ⟨10, 0, 0, 0⟩ = .agg #[.int .i64 10, .int .i32 0, .int .i64 0, .int .i64 0] from rfl, show bs [72] = (⟨#[65, 66, 67, 68, 70, 72]⟩ : ByteArray).extract 5 6 by kernel_rfl] at rV
      go_wp2_with fail
      go_roundg 0
      case measure => omega
      case rel => exact ⟨6, by omega, by omega, by go_num, sV, heap_grown hz gV (by omega)⟩
    · clear hc hz
      obtain ⟨V1, rV1, sV1, gV1⟩ := hs.put (by decide) ⟨14, 0, 0, 0⟩ (by decide) [51, 126] (by decide)
      rw [show kyv ⟨14, 0, 0, 0⟩ = .agg #[.int .i64 14, .int .i32 0, .int .i64 0, .int .i64 0] from rfl, show bs [51, 126] = ⟨#[51, 126]⟩ by kernel_rfl] at rV1
      obtain ⟨V2, rV2, sV2, gV2⟩ := sV1.put (by decide) ⟨12, 0, 0, 0⟩ (by decide) [53, 126] (by decide)
      rw [show kyv ⟨12, 0, 0, 0⟩ = .agg #[.int .i64 12, .int .i32 0, .int .i64 0, .int .i64 0] from rfl, show bs [53, 126] = ⟨#[53, 126]⟩ by kernel_rfl] at rV2
      obtain ⟨V3, rV3, sV3, gV3⟩ := sV2.put (by decide) ⟨13, 0, 0, 0⟩ (by decide) [54, 126] (by decide)
      rw [show kyv ⟨13, 0, 0, 0⟩ = .agg #[.int .i64 13, .int .i32 0, .int .i64 0, .int .i64 0] from rfl, show bs [54, 126] = ⟨#[54, 126]⟩ by kernel_rfl] at rV3
      go_wp2_with fail
      have hs3 : S1 w (V3.alloc (.cells #[.int .i64 11, .int .i64 12, .int .i64 13, .int .i64 14, .int .i64 15, .int .i64 17, .int .i64 18, .int .i64 19, .int .i64 20, .int .i64 21, .int .i64 23, .int .i64 24] 3)) (seqT.take 9) := S1.alloc sV3 _
      have z3 : (V3.alloc (.cells #[.int .i64 11, .int .i64 12, .int .i64 13, .int .i64 14, .int .i64 15, .int .i64 17, .int .i64 18, .int .i64 19, .int .i64 20, .int .i64 21, .int .i64 23, .int .i64 24] 3)).heap[V3.heap.size]? = some (.cells #[.int .i64 11, .int .i64 12, .int .i64 13, .int .i64 14, .int .i64 15, .int .i64 17, .int .i64 18, .int .i64 19, .int .i64 20, .int .i64 21, .int .i64 23, .int .i64 24] 3 (0, 0)) := heap_alloc_new _ _
      have hne : V3.heap.size ≠ w.heap.size := by have := sV3.2.2; omega
      generalize V3.heap.size = B at *
      clear rV1 rV2 rV3 gV1 gV2 gV3 sV1 sV2 sV3 hs
      generalize V3.alloc (.cells #[.int .i64 11, .int .i64 12, .int .i64 13, .int .i64 14, .int .i64 15, .int .i64 17, .int .i64 18, .int .i64 19, .int .i64 20, .int .i64 21, .int .i64 23, .int .i64 24] 3) = W3 at *
      go_loopg [30] 12 (fun g v wr => ∃ i : Nat, i ≤ 12 ∧ 12 - i ≤ g ∧ v = .int .i64 (i : Int) ∧ S1 w wr (seqT.take (9 + i)) ∧ wr.heap[B]? = some (.cells #[.int .i64 11, .int .i64 12, .int .i64 13, .int .i64 14, .int .i64 15, .int .i64 17, .int .i64 18, .int .i64 19, .int .i64 20, .int .i64 21, .int .i64 23, .int .i64 24] 3 (0, 0)))
      case atStart => exact ⟨0, Nat.zero_le _, by omega, rfl, hs3, z3⟩
      case round =>
        obtain ⟨i, hi, hg, rfl, hs, hz⟩ := hrel
        have hc := fun j v (h : _ = some v) => cell_of (i := j) hz h
        have h6 : i = 0 ∨ i = 1 ∨ i = 2 ∨ i = 3 ∨ i = 4 ∨ i = 5 ∨ i = 6 ∨ i = 7 ∨ i = 8 ∨ i = 9 ∨ i = 10 ∨ i = 11 ∨ i = 12 := by omega
        clear hs3 z3
        rcases h6 with rfl | rfl | rfl | rfl | rfl | rfl | rfl | rfl | rfl | rfl | rfl | rfl | rfl
        · have c0 := hc 0 _ rfl
          clear hc
          have HI := Tryd.strconv_Itoa_small 11 (by omega) wr
          rw [show (Lib.decDigits 11) = [49, 49] by rw [Lib.decDigits_two (by omega) (by omega)]; rfl] at HI
          obtain ⟨V, rV, sV, gV⟩ := hs.put (by decide) ⟨15, 0, 1, 0⟩ (by decide) [49, 49, 126] (by decide)
          rw [show kyv ⟨15, 0, 1, 0⟩ = .agg #[.int .i64 15, .int .i32 0, .int .i64 1, .int .i64 0] from rfl, show bs [49, 49, 126] = (⟨#[49, 49]⟩ ++ ⟨#[126]⟩ : ByteArray) by kernel_rfl] at rV
          go_wp2_with (go_at_call 23; refine HI.mono ?_; rintro e W ⟨rfl, hW⟩; subst hW)
          go_roundg 11
          case measure => omega
          case rel => exact ⟨1, by omega, by omega, by go_num, sV, heap_grown hz gV hne⟩
        · have c0 := hc 1 _ rfl
          clear hc
          have HI := Tryd.strconv_Itoa_small 12 (by omega) wr
          rw [show (Lib.decDigits 12) = [49, 50] by rw [Lib.decDigits_two (by omega) (by omega)]; rfl] at HI
          obtain ⟨V, rV, sV, gV⟩ := hs.put (by decide) ⟨15, 0, 2, 0⟩ (by decide) [49, 50, 126] (by decide)
          rw [show kyv ⟨15, 0, 2, 0⟩ = .agg #[.int .i64 15, .int .i32 0, .int .i64 2, .int .i64 0] from rfl, show bs [49, 50, 126] = (⟨#[49, 50]⟩ ++ ⟨#[126]⟩ : ByteArray) by kernel_rfl] at rV
          go_wp2_with (go_at_call 23; refine HI.mono ?_; rintro e W ⟨rfl, hW⟩; subst hW)
          go_roundg 10
          case measure => omega
          case rel => exact ⟨2, by omega, by omega, by go_num, sV, heap_grown hz gV hne⟩
        · have c0 := hc 2 _ rfl
          clear hc
          have HI := Tryd.strconv_Itoa_small 13 (by omega) wr
          rw [show (Lib.decDigits 13) = [49, 51] by rw [Lib.decDigits_two (by omega) (by omega)]; rfl] at HI
          obtain ⟨V, rV, sV, gV⟩ := hs.put (by decide) ⟨15, 0, 3, 0⟩ (by decide) [49, 51, 126] (by decide)
          rw [show kyv ⟨15, 0, 3, 0⟩ = .agg #[.int .i64 15, .int .i32 0, .int .i64 3, .int .i64 0] from rfl, show bs [49, 51, 126] = (⟨#[49, 51]⟩ ++ ⟨#[126]⟩ : ByteArray) by kernel_rfl] at rV
          go_wp2_with (go_at_call 23; refine HI.mono ?_; rintro e W ⟨rfl, hW⟩; subst hW)
          go_roundg 9
          case measure => omega
          case rel => exact ⟨3, by omega, by omega, by go_num, sV, heap_grown hz gV hne⟩
        · have c0 := hc 3 _ rfl
          clear hc
          have HI := Tryd.strconv_Itoa_small 14 (by omega) wr
          rw [show (Lib.decDigits 14) = [49, 52] by rw [Lib.decDigits_two (by omega) (by omega)]; rfl] at HI
          obtain ⟨V, rV, sV, gV⟩ := hs.put (by decide) ⟨15, 0, 4, 0⟩ (by decide) [49, 52, 126] (by decide)
          rw [show kyv ⟨15, 0, 4, 0⟩ = .agg #[.int .i64 15, .int .i32 0, .int .i64 4, .int .i64 0] from rfl, show bs [49, 52, 126] = (⟨#[49, 52]⟩ ++ ⟨#[126]⟩ : ByteArray) by kernel_rfl] at rV
          go_wp2_with (go_at_call 23; refine HI.mono ?_; rintro e W ⟨rfl, hW⟩; subst hW)
          go_roundg 8
          case measure => omega
          case rel => exact ⟨4, by omega, by omega, by go_num, sV, heap_grown hz gV hne⟩
        · have c0 := hc 4 _ rfl
          clear hc
          have HI := Tryd.strconv_Itoa_small 15 (by omega) wr
          rw [show (Lib.decDigits 15) = [49, 53] by rw [Lib.decDigits_two (by omega) (by omega)]; rfl] at HI
          obtain ⟨V, rV, sV, gV⟩ := hs.put (by decide) ⟨15, 0, 5, 0⟩ (by decide) [49, 53, 126] (by decide)
          rw [show kyv ⟨15, 0, 5, 0⟩ = .agg #[.int .i64 15, .int .i32 0, .int .i64 5, .int .i64 0] from rfl, show bs [49, 53, 126] = (⟨#[49, 53]⟩ ++ ⟨#[126]⟩ : ByteArray) by kernel_rfl] at rV
          go_wp2_with (go_at_call 23; refine HI.mono ?_; rintro e W ⟨rfl, hW⟩; subst hW)
          go_roundg 7
          case measure => omega
          case rel => exact ⟨5, by omega, by omega, by go_num, sV, heap_grown hz gV hne⟩
        · have c0 := hc 5 _ rfl
          clear hc
          have HI := Tryd.strconv_Itoa_small 17 (by omega) wr
          rw [show (Lib.decDigits 17) = [49, 55] by rw [Lib.decDigits_two (by omega) (by omega)]; rfl] at HI
          obtain ⟨V, rV, sV, gV⟩ := hs.put (by decide) ⟨15, 0, 6, 0⟩ (by decide) [49, 55, 126] (by decide)
          rw [show kyv ⟨15, 0, 6, 0⟩ = .agg #[.int .i64 15, .int .i32 0, .int .i64 6, .int .i64 0] from rfl, show bs [49, 55, 126] = (⟨#[49, 55]⟩ ++ ⟨#[126]⟩ : ByteArray) by kernel_rfl] at rV
          go_wp2_with (go_at_call 23; refine HI.mono ?_; rintro e W ⟨rfl, hW⟩; subst hW)
          go_roundg 6
          case measure => omega
          case rel => exact ⟨6, by omega, by omega, by go_num, sV, heap_grown hz gV hne⟩
        · have c0 := hc 6 _ rfl
          clear hc
          have HI := Tryd.strconv_Itoa_small 18 (by omega) wr
          rw [show (Lib.decDigits 18) = [49, 56] by rw [Lib.decDigits_two (by omega) (by omega)]; rfl] at HI
          obtain ⟨V, rV, sV, gV⟩ := hs.put (by decide) ⟨15, 0, 7, 0⟩ (by decide) [49, 56, 126] (by decide)
          rw [show kyv ⟨15, 0, 7, 0⟩ = .agg #[.int .i64 15, .int .i32 0, .int .i64 7, .int .i64 0] from rfl, show bs [49, 56, 126] = (⟨#[49, 56]⟩ ++ ⟨#[126]⟩ : ByteArray) by kernel_rfl] at rV
          go_wp2_with (go_at_call 23; refine HI.mono ?_; rintro e W ⟨rfl, hW⟩; subst hW)
          go_roundg 5
          case measure => omega
          case rel => exact ⟨7, by omega, by omega, by go_num, sV, heap_grown hz gV hne⟩
        · have c0 := hc 7 _ rfl
          clear hc
          have HI := Tryd.strconv_Itoa_small 19 (by omega) wr
          rw [show (Lib.decDigits 19) = [49, 57] by rw [Lib.decDigits_two (by omega) (by omega)]; rfl] at HI
          obtain ⟨V, rV, sV, gV⟩ := hs.put (by decide) ⟨15, 0, 8, 0⟩ (by decide) [49, 57, 126] (by decide)
          rw [show kyv ⟨15, 0, 8, 0⟩ = .agg #[.int .i64 15, .int .i32 0, .int .i64 8, .int .i64 0] from rfl, show bs [49, 57, 126] = (⟨#[49, 57]⟩ ++ ⟨#[126]⟩ : ByteArray) by kernel_rfl] at rV
          go_wp2_with (go_at_call 23; refine HI.mono ?_; rintro e W ⟨rfl, hW⟩; subst hW)
          go_roundg 4
          case measure => omega
          case rel => exact ⟨8, by omega, by omega, by go_num, sV, heap_grown hz gV hne⟩
        · have c0 := hc 8 _ rfl
          clear hc
          have HI := Tryd.strconv_Itoa_small 20 (by omega) wr
          rw [show (Lib.decDigits 20) = [50, 48] by rw [Lib.decDigits_two (by omega) (by omega)]; rfl] at HI
          obtain ⟨V, rV, sV, gV⟩ := hs.put (by decide) ⟨15, 0, 9, 0⟩ (by decide) [50, 48, 126] (by decide)
          rw [show kyv ⟨15, 0, 9, 0⟩ = .agg #[.int .i64 15, .int .i32 0, .int .i64 9, .int .i64 0] from rfl, show bs [50, 48, 126] = (⟨#[50, 48]⟩ ++ ⟨#[126]⟩ : ByteArray) by kernel_rfl] at rV
          go_wp2_with (go_at_call 23; refine HI.mono ?_; rintro e W ⟨rfl, hW⟩; subst hW)
          go_roundg 3
          case measure => omega
          case rel => exact ⟨9, by omega, by omega, by go_num, sV, heap_grown hz gV hne⟩
        · have c0 := hc 9 _ rfl
          clear hc
          have HI := Tryd.strconv_Itoa_small 21 (by omega) wr
          rw [show (Lib.decDigits 21) = [50, 49] by rw [Lib.decDigits_two (by omega) (by omega)]; rfl] at HI
          obtain ⟨V, rV, sV, gV⟩ := hs.put (by decide) ⟨15, 0, 10, 0⟩ (by decide) [50, 49, 126] (by decide)
          rw [show kyv ⟨15, 0, 10, 0⟩ = .agg #[.int .i64 15, .int .i32 0, .int .i64 10, .int .i64 0] from rfl, show bs [50, 49, 126] = (⟨#[50, 49]⟩ ++ ⟨#[126]⟩ : ByteArray) by kernel_rfl] at rV
          go_wp2_with (go_at_call 23; refine HI.mono ?_; rintro e W ⟨rfl, hW⟩; subst hW)
          go_roundg 2
          case measure => omega
          case rel => exact ⟨10, by omega, by omega, by go_num, sV, heap_grown hz gV hne⟩
        · have c0 := hc 10 _ rfl
          clear hc
          have HI := Tryd.strconv_Itoa_small 23 (by omega) wr
          rw [show (Lib.decDigits 23) = [50, 51] by rw [Lib.decDigits_two (by omega) (by omega)]; rfl] at HI
          obtain ⟨V, rV, sV, gV⟩ := hs.put (by decide) ⟨15, 0, 11, 0⟩ (by decide) [50, 51, 126] (by decide)
          rw [show kyv ⟨15, 0, 11, 0⟩ = .agg #[.int .i64 15, .int .i32 0, .int .i64 11, .int .i64 0] from rfl, show bs [50, 51, 126] = (⟨#[50, 51]⟩ ++ ⟨#[126]⟩ : ByteArray) by kernel_rfl] at rV
          go_wp2_with (go_at_call 23; refine HI.mono ?_; rintro e W ⟨rfl, hW⟩; subst hW)
          go_roundg 1
          case measure => omega
          case rel => exact ⟨11, by omega, by omega, by go_num, sV, heap_grown hz gV hne⟩
        · have c0 := hc 11 _ rfl
          clear hc
          have HI := Tryd.strconv_Itoa_small 24 (by omega) wr
          rw [show (Lib.decDigits 24) = [50, 52] by rw [Lib.decDigits_two (by omega) (by omega)]; rfl] at HI
          obtain ⟨V, rV, sV, gV⟩ := hs.put (by decide) ⟨15, 0, 12, 0⟩ (by decide) [50, 52, 126] (by decide)
          rw [show kyv ⟨15, 0, 12, 0⟩ = .agg #[.int .i64 15, .int .i32 0, .int .i64 12, .int .i64 0] from rfl, show bs [50, 52, 126] = (⟨#[50, 52]⟩ ++ ⟨#[126]⟩ : ByteArray) by kernel_rfl] at rV
          go_wp2_with (go_at_call 23; refine HI.mono ?_; rintro e W ⟨rfl, hW⟩; subst hW)
          go_roundg 0
          case measure => omega
          case rel => exact ⟨12, by omega, by omega, by go_num, sV, heap_grown hz gV hne⟩
        · clear hc hz
          go_wp2_with fail
          go_ret
          exact ⟨rfl, hs.1, hs.2.1, hs.2.2⟩
end Kys
end Go.Proofs.YtdmooeoklcjplaaDoor
