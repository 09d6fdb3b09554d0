/- Package keys: Write. -/
import Derived.Test.YtjilgapoioploaaDoorKeysWr3
namespace Go.Proofs.YtjilgapoioploaaDoor
open Go.ChangeShapes Go.WideShapes Go.ChangeAt Go.RowKit
open Go.Sort
namespace Kys
open Txt (wd bs)
theorem idx1 (w : World) : (Instr.index 44 (.agg wsA) (.int .i64 1)).run Tryd.prog w = .ok (.func (.func 33) #[] #[]) w := by
  unfold wsA
  simp [Instr.index, run_underlying und_ws, asIntOf, go_sem]
theorem idx2 (w : World) : (Instr.index 44 (.agg wsA) (.int .i64 2)).run Tryd.prog w = .ok (.func (.func 34) #[] #[]) w := by
  unfold wsA
  simp [Instr.index, run_underlying und_ws, asIntOf, go_sem]
theorem idx3 (w : World) : (Instr.index 44 (.agg wsA) (.int .i64 3)).run Tryd.prog w = .ok (.func (.func 35) #[] #[]) w := by
  unfold wsA
  simp [Instr.index, run_underlying und_ws, asIntOf, go_sem]
theorem idx4 (w : World) : (Instr.index 44 (.agg wsA) (.int .i64 4)).run Tryd.prog w = .ok (.func (.func 36) #[] #[]) w := by
  unfold wsA
  simp [Instr.index, run_underlying und_ws, asIntOf, go_sem]
theorem idx5 (w : World) : (Instr.index 44 (.agg wsA) (.int .i64 5)).run Tryd.prog w = .ok (.func (.func 37) #[] #[]) w := by
  unfold wsA
  simp [Instr.index, run_underlying und_ws, asIntOf, go_sem]
theorem idx7 (w : World) : (Instr.index 44 (.agg wsA) (.int .i64 7)).run Tryd.prog w = .ok (.func (.func 38) #[] #[]) w := by
  unfold wsA
  simp [Instr.index, run_underlying und_ws, asIntOf, go_sem]
theorem idx8 (w : World) : (Instr.index 44 (.agg wsA) (.int .i64 8)).run Tryd.prog w = .ok (.func (.func 38) #[] #[]) w := by
  unfold wsA
  simp [Instr.index, run_underlying und_ws, asIntOf, go_sem]
theorem idx9 (w : World) : (Instr.index 44 (.agg wsA) (.int .i64 9)).run Tryd.prog w = .ok (.func (.func 38) #[] #[]) w := by
  unfold wsA
  simp [Instr.index, run_underlying und_ws, asIntOf, go_sem]
theorem idx10 (w : World) : (Instr.index 44 (.agg wsA) (.int .i64 10)).run Tryd.prog w = .ok (.func (.func 38) #[] #[]) w := by
  unfold wsA
  simp [Instr.index, run_underlying und_ws, asIntOf, go_sem]
theorem idx11 (w : World) : (Instr.index 44 (.agg wsA) (.int .i64 11)).run Tryd.prog w = .ok (.func (.func 38) #[] #[]) w := by
  unfold wsA
  simp [Instr.index, run_underlying und_ws, asIntOf, go_sem]
theorem idx12 (w : World) : (Instr.index 44 (.agg wsA) (.int .i64 12)).run Tryd.prog w = .ok (.func (.func 39) #[] #[]) w := by
  unfold wsA
  simp [Instr.index, run_underlying und_ws, asIntOf, go_sem]
theorem idx13 (w : World) : (Instr.index 44 (.agg wsA) (.int .i64 13)).run Tryd.prog w = .ok (.func (.func 39) #[] #[]) w := by
  unfold wsA
  simp [Instr.index, run_underlying und_ws, asIntOf, go_sem]
theorem idx14 (w : World) : (Instr.index 44 (.agg wsA) (.int .i64 14)).run Tryd.prog w = .ok (.func (.func 39) #[] #[]) w := by
  unfold wsA
  simp [Instr.index, run_underlying und_ws, asIntOf, go_sem]
theorem idx15 (w : World) : (Instr.index 44 (.agg wsA) (.int .i64 15)).run Tryd.prog w = .ok (.func (.func 39) #[] #[]) w := by
  unfold wsA
  simp [Instr.index, run_underlying und_ws, asIntOf, go_sem]
set_option maxHeartbeats 4000000 in
theorem write_1 (r n held : Int) (kp : Bool) (w : World) (hT : Txt.Tab w) (hk : chk ⟨1, r, n, held⟩ = true) (hh : held = 0 ∨ held = 2 ∨ (held = 4 ∨ held = 6) ∧ 97 ≤ r ∧ r ≤ 122) : Calls Tryd.prog 8 #[kyv ⟨1, r, n, held⟩, .bool kp] w fun e w' => e = .returned (.tuple #[.string (bs (wr ⟨1, r, n, held⟩ kp)), .int .i64 0]) ∧ Below w.heap.size w w' := by
  have kb : Below w.heap.size w (w.alloc (.cells #[.int .i64 1, .int .i32 r, .int .i64 n, .int .i64 held] 23)) := (Below.refl _ _).alloc (Nat.le_refl _) _
  have HC := check_any ⟨1, r, n, held⟩ _ (Tab.alloc hT (.cells #[.int .i64 1, .int .i32 r, .int .i64 n, .int .i64 held] 23))
  rw [hk] at HC
  clear hk hT
  rw [show wr ⟨1, r, n, held⟩ kp = altA held ++ Lib.encodeRune (wrR ⟨1, r, n, held⟩) from rfl]
  have HF := fun W => writeRune_any ⟨1, r, n, held⟩ kp hh W
  generalize bs (altA held ++ Lib.encodeRune (wrR ⟨1, r, n, held⟩)) = res at *
  unfold kyv at HC HF ⊢
  go_enter Tryd.func8, Tryd.ntmps8
  go_wp2_with (go_at_call 11; refine HC.mono ?_; rintro e W1 ⟨rfl, b1⟩)
  have z1 := held_block b1
  have k1 := kb.trans (b1.mono kb.size)
  clear b1 kb HC
  obtain ⟨⟨c0, c1, c2, c3⟩, _⟩ := four_cells z1
  have g0 := fun d os => cell_regrown c0 d os
  have g1 := fun d os => cell_regrown c1 d os
  have g2 := fun d os => cell_regrown c2 d os
  have g3 := fun d os => cell_regrown c3 d os
  have HWr := fun d os => Calls.regrown_of (writers_any (grow (redrawn W1 d) os))
  have HFr := fun d os => Calls.regrown_of (HF (grow (redrawn W1 d) os))
  have hix := idx1
  clear HF c0 c1 c2 c3 z1
  refine wp_region_quiet_below (by kernel_rfl) (by kernel_rfl) ?_
  repeat (first | go_big_quiet_skip | quiet_step (first | (go_at_call 19; exact HWr _ _) | (go_at_call 33; exact HFr _ _)))
  refine wpQuiet_nil ?_
  intro _ hw'
  obtain ⟨⟨dq, os⟩, hw''⟩ := hw'
  subst hw''
  have kR := below_regrown W1 dq os
  have kw := k1.trans (kR.mono k1.size)
  clear g0 g1 g2 g3 HWr HFr kR
  generalize grow (redrawn W1 dq) os = V at *
  go_wp2_with fail
  go_ret2
  exact ⟨rfl, kw⟩
set_option maxHeartbeats 4000000 in
theorem write_2 (r n held : Int) (kp : Bool) (w : World) (hT : Txt.Tab w) (hk : chk ⟨2, r, n, held⟩ = true) (hh : held = 0 ∨ held = 2) : Calls Tryd.prog 8 #[kyv ⟨2, r, n, held⟩, .bool kp] w fun e w' => e = .returned (.tuple #[.string (bs (wr ⟨2, r, n, held⟩ kp)), .int .i64 0]) ∧ Below w.heap.size w w' := by
  have kb : Below w.heap.size w (w.alloc (.cells #[.int .i64 2, .int .i32 r, .int .i64 n, .int .i64 held] 23)) := (Below.refl _ _).alloc (Nat.le_refl _) _
  have HC := check_any ⟨2, r, n, held⟩ _ (Tab.alloc hT (.cells #[.int .i64 2, .int .i32 r, .int .i64 n, .int .i64 held] 23))
  rw [hk] at HC
  clear hk hT
  rw [show wr ⟨2, r, n, held⟩ kp = altA held ++ [13] from rfl]
  have HF := fun W => writeEnter_any ⟨2, r, n, held⟩ kp hh W
  generalize bs (altA held ++ [13]) = res at *
  unfold kyv at HC HF ⊢
  go_enter Tryd.func8, Tryd.ntmps8
  go_wp2_with (go_at_call 11; refine HC.mono ?_; rintro e W1 ⟨rfl, b1⟩)
  have z1 := held_block b1
  have k1 := kb.trans (b1.mono kb.size)
  clear b1 kb HC
  obtain ⟨⟨c0, c1, c2, c3⟩, _⟩ := four_cells z1
  have g0 := fun d os => cell_regrown c0 d os
  have g1 := fun d os => cell_regrown c1 d os
  have g2 := fun d os => cell_regrown c2 d os
  have g3 := fun d os => cell_regrown c3 d os
  have HWr := fun d os => Calls.regrown_of (writers_any (grow (redrawn W1 d) os))
  have HFr := fun d os => Calls.regrown_of (HF (grow (redrawn W1 d) os))
  have hix := idx2
  clear HF c0 c1 c2 c3 z1
  refine wp_region_quiet_below (by kernel_rfl) (by kernel_rfl) ?_
  repeat (first | go_big_quiet_skip | quiet_step (first | (go_at_call 19; exact HWr _ _) | (go_at_call 34; exact HFr _ _)))
  refine wpQuiet_nil ?_
  intro _ hw'
  obtain ⟨⟨dq, os⟩, hw''⟩ := hw'
  subst hw''
  have kR := below_regrown W1 dq os
  have kw := k1.trans (kR.mono k1.size)
  clear g0 g1 g2 g3 HWr HFr kR
  generalize grow (redrawn W1 dq) os = V at *
  go_wp2_with fail
  go_ret2
  exact ⟨rfl, kw⟩
set_option maxHeartbeats 4000000 in
theorem write_3 (r n held : Int) (kp : Bool) (w : World) (hT : Txt.Tab w) (hk : chk ⟨3, r, n, held⟩ = true) : Calls Tryd.prog 8 #[kyv ⟨3, r, n, held⟩, .bool kp] w fun e w' => e = .returned (.tuple #[.string (bs (wr ⟨3, r, n, held⟩ kp)), .int .i64 0]) ∧ Below w.heap.size w w' := by
  have kb : Below w.heap.size w (w.alloc (.cells #[.int .i64 3, .int .i32 r, .int .i64 n, .int .i64 held] 23)) := (Below.refl _ _).alloc (Nat.le_refl _) _
  have HC := check_any ⟨3, r, n, held⟩ _ (Tab.alloc hT (.cells #[.int .i64 3, .int .i32 r, .int .i64 n, .int .i64 held] 23))
  rw [hk] at HC
  clear hk hT
  rw [show wr ⟨3, r, n, held⟩ kp = if held ≠ 0 then [27, 91, 90] else [9] from rfl]
  have HF := fun W => writeTab_any ⟨3, r, n, held⟩ kp W
  generalize bs (if held ≠ 0 then [27, 91, 90] else [9]) = res at *
  unfold kyv at HC HF ⊢
  go_enter Tryd.func8, Tryd.ntmps8
  go_wp2_with (go_at_call 11; refine HC.mono ?_; rintro e W1 ⟨rfl, b1⟩)
  have z1 := held_block b1
  have k1 := kb.trans (b1.mono kb.size)
  clear b1 kb HC
  obtain ⟨⟨c0, c1, c2, c3⟩, _⟩ := four_cells z1
  have g0 := fun d os => cell_regrown c0 d os
  have g1 := fun d os => cell_regrown c1 d os
  have g2 := fun d os => cell_regrown c2 d os
  have g3 := fun d os => cell_regrown c3 d os
  have HWr := fun d os => Calls.regrown_of (writers_any (grow (redrawn W1 d) os))
  have HFr := fun d os => Calls.regrown_of (HF (grow (redrawn W1 d) os))
  have hix := idx3
  clear HF c0 c1 c2 c3 z1
  refine wp_region_quiet_below (by kernel_rfl) (by kernel_rfl) ?_
  repeat (first | go_big_quiet_skip | quiet_step (first | (go_at_call 19; exact HWr _ _) | (go_at_call 35; exact HFr _ _)))
  refine wpQuiet_nil ?_
  intro _ hw'
  obtain ⟨⟨dq, os⟩, hw''⟩ := hw'
  subst hw''
  have kR := below_regrown W1 dq os
  have kw := k1.trans (kR.mono k1.size)
  clear g0 g1 g2 g3 HWr HFr kR
  generalize grow (redrawn W1 dq) os = V at *
  go_wp2_with fail
  go_ret2
  exact ⟨rfl, kw⟩
set_option maxHeartbeats 4000000 in
theorem write_4 (r n held : Int) (kp : Bool) (w : World) (hT : Txt.Tab w) (hk : chk ⟨4, r, n, held⟩ = true) (hh : held = 0 ∨ held = 2) : Calls Tryd.prog 8 #[kyv ⟨4, r, n, held⟩, .bool kp] w fun e w' => e = .returned (.tuple #[.string (bs (wr ⟨4, r, n, held⟩ kp)), .int .i64 0]) ∧ Below w.heap.size w w' := by
  have kb : Below w.heap.size w (w.alloc (.cells #[.int .i64 4, .int .i32 r, .int .i64 n, .int .i64 held] 23)) := (Below.refl _ _).alloc (Nat.le_refl _) _
  have HC := check_any ⟨4, r, n, held⟩ _ (Tab.alloc hT (.cells #[.int .i64 4, .int .i32 r, .int .i64 n, .int .i64 held] 23))
  rw [hk] at HC
  clear hk hT
  rw [show wr ⟨4, r, n, held⟩ kp = altA held ++ [127] from rfl]
  have HF := fun W => writeBack_any ⟨4, r, n, held⟩ kp hh W
  generalize bs (altA held ++ [127]) = res at *
  unfold kyv at HC HF ⊢
  go_enter Tryd.func8, Tryd.ntmps8
  go_wp2_with (go_at_call 11; refine HC.mono ?_; rintro e W1 ⟨rfl, b1⟩)
  have z1 := held_block b1
  have k1 := kb.trans (b1.mono kb.size)
  clear b1 kb HC
  obtain ⟨⟨c0, c1, c2, c3⟩, _⟩ := four_cells z1
  have g0 := fun d os => cell_regrown c0 d os
  have g1 := fun d os => cell_regrown c1 d os
  have g2 := fun d os => cell_regrown c2 d os
  have g3 := fun d os => cell_regrown c3 d os
  have HWr := fun d os => Calls.regrown_of (writers_any (grow (redrawn W1 d) os))
  have HFr := fun d os => Calls.regrown_of (HF (grow (redrawn W1 d) os))
  have hix := idx4
  clear HF c0 c1 c2 c3 z1
  refine wp_region_quiet_below (by kernel_rfl) (by kernel_rfl) ?_
  repeat (first | go_big_quiet_skip | quiet_step (first | (go_at_call 19; exact HWr _ _) | (go_at_call 36; exact HFr _ _)))
  refine wpQuiet_nil ?_
  intro _ hw'
  obtain ⟨⟨dq, os⟩, hw''⟩ := hw'
  subst hw''
  have kR := below_regrown W1 dq os
  have kw := k1.trans (kR.mono k1.size)
  clear g0 g1 g2 g3 HWr HFr kR
  generalize grow (redrawn W1 dq) os = V at *
  go_wp2_with fail
  go_ret2
  exact ⟨rfl, kw⟩
set_option maxHeartbeats 4000000 in
theorem write_5 (r n held : Int) (kp : Bool) (w : World) (hT : Txt.Tab w) (hk : chk ⟨5, r, n, held⟩ = true) : Calls Tryd.prog 8 #[kyv ⟨5, r, n, held⟩, .bool kp] w fun e w' => e = .returned (.tuple #[.string (bs (wr ⟨5, r, n, held⟩ kp)), .int .i64 0]) ∧ Below w.heap.size w w' := by
  have kb : Below w.heap.size w (w.alloc (.cells #[.int .i64 5, .int .i32 r, .int .i64 n, .int .i64 held] 23)) := (Below.refl _ _).alloc (Nat.le_refl _) _
  have HC := check_any ⟨5, r, n, held⟩ _ (Tab.alloc hT (.cells #[.int .i64 5, .int .i32 r, .int .i64 n, .int .i64 held] 23))
  rw [hk] at HC
  clear hk hT
  rw [show wr ⟨5, r, n, held⟩ kp = [27] from rfl]
  have HF := fun W => writeEsc_any ⟨5, r, n, held⟩ kp W
  generalize bs [27] = res at *
  unfold kyv at HC HF ⊢
  go_enter Tryd.func8, Tryd.ntmps8
  go_wp2_with (go_at_call 11; refine HC.mono ?_; rintro e W1 ⟨rfl, b1⟩)
  have z1 := held_block b1
  have k1 := kb.trans (b1.mono kb.size)
  clear b1 kb HC
  obtain ⟨⟨c0, c1, c2, c3⟩, _⟩ := four_cells z1
  have g0 := fun d os => cell_regrown c0 d os
  have g1 := fun d os => cell_regrown c1 d os
  have g2 := fun d os => cell_regrown c2 d os
  have g3 := fun d os => cell_regrown c3 d os
  have HWr := fun d os => Calls.regrown_of (writers_any (grow (redrawn W1 d) os))
  have HFr := fun d os => Calls.regrown_of (HF (grow (redrawn W1 d) os))
  have hix := idx5
  clear HF c0 c1 c2 c3 z1
  refine wp_region_quiet_below (by kernel_rfl) (by kernel_rfl) ?_
  repeat (first | go_big_quiet_skip | quiet_step (first | (go_at_call 19; exact HWr _ _) | (go_at_call 37; exact HFr _ _)))
  refine wpQuiet_nil ?_
  intro _ hw'
  obtain ⟨⟨dq, os⟩, hw''⟩ := hw'
  subst hw''
  have kR := below_regrown W1 dq os
  have kw := k1.trans (kR.mono k1.size)
  clear g0 g1 g2 g3 HWr HFr kR
  generalize grow (redrawn W1 dq) os = V at *
  go_wp2_with fail
  go_ret2
  exact ⟨rfl, kw⟩
set_option maxHeartbeats 4000000 in
theorem write_7 (r n held : Int) (kp : Bool) (w : World) (hT : Txt.Tab w) (hk : chk ⟨7, r, n, held⟩ = true) (h0 : 0 ≤ held) (h7 : held ≤ 7) : Calls Tryd.prog 8 #[kyv ⟨7, r, n, held⟩, .bool kp] w fun e w' => e = .returned (.tuple #[.string (bs (wr ⟨7, r, n, held⟩ kp)), .int .i64 0]) ∧ Below w.heap.size w w' := by
  have kb : Below w.heap.size w (w.alloc (.cells #[.int .i64 7, .int .i32 r, .int .i64 n, .int .i64 held] 23)) := (Below.refl _ _).alloc (Nat.le_refl _) _
  have HC := check_any ⟨7, r, n, held⟩ _ (Tab.alloc hT (.cells #[.int .i64 7, .int .i32 r, .int .i64 n, .int .i64 held] 23))
  rw [hk] at HC
  clear hk hT
  have HF := fun W => writeLetter_7 r n held kp h0 h7 W
  generalize bs (wr ⟨7, r, n, held⟩ kp) = res at *
  unfold kyv at HC HF ⊢
  go_enter Tryd.func8, Tryd.ntmps8
  go_wp2_with (go_at_call 11; refine HC.mono ?_; rintro e W1 ⟨rfl, b1⟩)
  have z1 := held_block b1
  have k1 := kb.trans (b1.mono kb.size)
  clear b1 kb HC
  obtain ⟨⟨c0, c1, c2, c3⟩, _⟩ := four_cells z1
  have g0 := fun d os => cell_regrown c0 d os
  have g1 := fun d os => cell_regrown c1 d os
  have g2 := fun d os => cell_regrown c2 d os
  have g3 := fun d os => cell_regrown c3 d os
  have HWr := fun d os => Calls.regrown_of (writers_any (grow (redrawn W1 d) os))
  have HFr := fun d os => Calls.regrown_of (HF (grow (redrawn W1 d) os))
  have hix := idx7
  clear HF c0 c1 c2 c3 z1
  refine wp_region_quiet_below (by kernel_rfl) (by kernel_rfl) ?_
  repeat (first | go_big_quiet_skip | quiet_step (first | (go_at_call 19; exact HWr _ _) | (go_at_call 38; exact HFr _ _)))
  refine wpQuiet_nil ?_
  intro _ hw'
  obtain ⟨⟨dq, os⟩, hw''⟩ := hw'
  subst hw''
  have kR := below_regrown W1 dq os
  have kw := k1.trans (kR.mono k1.size)
  clear g0 g1 g2 g3 HWr HFr kR
  generalize grow (redrawn W1 dq) os = V at *
  go_wp2_with fail
  go_ret2
  exact ⟨rfl, kw⟩
set_option maxHeartbeats 4000000 in
theorem write_8 (r n held : Int) (kp : Bool) (w : World) (hT : Txt.Tab w) (hk : chk ⟨8, r, n, held⟩ = true) (h0 : 0 ≤ held) (h7 : held ≤ 7) : Calls Tryd.prog 8 #[kyv ⟨8, r, n, held⟩, .bool kp] w fun e w' => e = .returned (.tuple #[.string (bs (wr ⟨8, r, n, held⟩ kp)), .int .i64 0]) ∧ Below w.heap.size w w' := by
  have kb : Below w.heap.size w (w.alloc (.cells #[.int .i64 8, .int .i32 r, .int .i64 n, .int .i64 held] 23)) := (Below.refl _ _).alloc (Nat.le_refl _) _
  have HC := check_any ⟨8, r, n, held⟩ _ (Tab.alloc hT (.cells #[.int .i64 8, .int .i32 r, .int .i64 n, .int .i64 held] 23))
  rw [hk] at HC
  clear hk hT
  have HF := fun W => writeLetter_8 r n held kp h0 h7 W
  generalize bs (wr ⟨8, r, n, held⟩ kp) = res at *
  unfold kyv at HC HF ⊢
  go_enter Tryd.func8, Tryd.ntmps8
  go_wp2_with (go_at_call 11; refine HC.mono ?_; rintro e W1 ⟨rfl, b1⟩)
  have z1 := held_block b1
  have k1 := kb.trans (b1.mono kb.size)
  clear b1 kb HC
  obtain ⟨⟨c0, c1, c2, c3⟩, _⟩ := four_cells z1
  have g0 := fun d os => cell_regrown c0 d os
  have g1 := fun d os => cell_regrown c1 d os
  have g2 := fun d os => cell_regrown c2 d os
  have g3 := fun d os => cell_regrown c3 d os
  have HWr := fun d os => Calls.regrown_of (writers_any (grow (redrawn W1 d) os))
  have HFr := fun d os => Calls.regrown_of (HF (grow (redrawn W1 d) os))
  have hix := idx8
  clear HF c0 c1 c2 c3 z1
  refine wp_region_quiet_below (by kernel_rfl) (by kernel_rfl) ?_
  repeat (first | go_big_quiet_skip | quiet_step (first | (go_at_call 19; exact HWr _ _) | (go_at_call 38; exact HFr _ _)))
  refine wpQuiet_nil ?_
  intro _ hw'
  obtain ⟨⟨dq, os⟩, hw''⟩ := hw'
  subst hw''
  have kR := below_regrown W1 dq os
  have kw := k1.trans (kR.mono k1.size)
  clear g0 g1 g2 g3 HWr HFr kR
  generalize grow (redrawn W1 dq) os = V at *
  go_wp2_with fail
  go_ret2
  exact ⟨rfl, kw⟩
set_option maxHeartbeats 4000000 in
theorem write_9 (r n held : Int) (kp : Bool) (w : World) (hT : Txt.Tab w) (hk : chk ⟨9, r, n, held⟩ = true) (h0 : 0 ≤ held) (h7 : held ≤ 7) : Calls Tryd.prog 8 #[kyv ⟨9, r, n, held⟩, .bool kp] w fun e w' => e = .returned (.tuple #[.string (bs (wr ⟨9, r, n, held⟩ kp)), .int .i64 0]) ∧ Below w.heap.size w w' := by
  have kb : Below w.heap.size w (w.alloc (.cells #[.int .i64 9, .int .i32 r, .int .i64 n, .int .i64 held] 23)) := (Below.refl _ _).alloc (Nat.le_refl _) _
  have HC := check_any ⟨9, r, n, held⟩ _ (Tab.alloc hT (.cells #[.int .i64 9, .int .i32 r, .int .i64 n, .int .i64 held] 23))
  rw [hk] at HC
  clear hk hT
  have HF := fun W => writeLetter_9 r n held kp h0 h7 W
  generalize bs (wr ⟨9, r, n, held⟩ kp) = res at *
  unfold kyv at HC HF ⊢
  go_enter Tryd.func8, Tryd.ntmps8
  go_wp2_with (go_at_call 11; refine HC.mono ?_; rintro e W1 ⟨rfl, b1⟩)
  have z1 := held_block b1
  have k1 := kb.trans (b1.mono kb.size)
  clear b1 kb HC
  obtain ⟨⟨c0, c1, c2, c3⟩, _⟩ := four_cells z1
  have g0 := fun d os => cell_regrown c0 d os
  have g1 := fun d os => cell_regrown c1 d os
  have g2 := fun d os => cell_regrown c2 d os
  have g3 := fun d os => cell_regrown c3 d os
  have HWr := fun d os => Calls.regrown_of (writers_any (grow (redrawn W1 d) os))
  have HFr := fun d os => Calls.regrown_of (HF (grow (redrawn W1 d) os))
  have hix := idx9
  clear HF c0 c1 c2 c3 z1
  refine wp_region_quiet_below (by kernel_rfl) (by kernel_rfl) ?_
  repeat (first | go_big_quiet_skip | quiet_step (first | (go_at_call 19; exact HWr _ _) | (go_at_call 38; exact HFr _ _)))
  refine wpQuiet_nil ?_
  intro _ hw'
  obtain ⟨⟨dq, os⟩, hw''⟩ := hw'
  subst hw''
  have kR := below_regrown W1 dq os
  have kw := k1.trans (kR.mono k1.size)
  clear g0 g1 g2 g3 HWr HFr kR
  generalize grow (redrawn W1 dq) os = V at *
  go_wp2_with fail
  go_ret2
  exact ⟨rfl, kw⟩
set_option maxHeartbeats 4000000 in
theorem write_10 (r n held : Int) (kp : Bool) (w : World) (hT : Txt.Tab w) (hk : chk ⟨10, r, n, held⟩ = true) (h0 : 0 ≤ held) (h7 : held ≤ 7) : Calls Tryd.prog 8 #[kyv ⟨10, r, n, held⟩, .bool kp] w fun e w' => e = .returned (.tuple #[.string (bs (wr ⟨10, r, n, held⟩ kp)), .int .i64 0]) ∧ Below w.heap.size w w' := by
  have kb : Below w.heap.size w (w.alloc (.cells #[.int .i64 10, .int .i32 r, .int .i64 n, .int .i64 held] 23)) := (Below.refl _ _).alloc (Nat.le_refl _) _
  have HC := check_any ⟨10, r, n, held⟩ _ (Tab.alloc hT (.cells #[.int .i64 10, .int .i32 r, .int .i64 n, .int .i64 held] 23))
  rw [hk] at HC
  clear hk hT
  have HF := fun W => writeLetter_10 r n held kp h0 h7 W
  generalize bs (wr ⟨10, r, n, held⟩ kp) = res at *
  unfold kyv at HC HF ⊢
  go_enter Tryd.func8, Tryd.ntmps8
  go_wp2_with (go_at_call 11; refine HC.mono ?_; rintro e W1 ⟨rfl, b1⟩)
  have z1 := held_block b1
  have k1 := kb.trans (b1.mono kb.size)
  clear b1 kb HC
  obtain ⟨⟨c0, c1, c2, c3⟩, _⟩ := four_cells z1
  have g0 := fun d os => cell_regrown c0 d os
  have g1 := fun d os => cell_regrown c1 d os
  have g2 := fun d os => cell_regrown c2 d os
  have g3 := fun d os => cell_regrown c3 d os
  have HWr := fun d os => Calls.regrown_of (writers_any (grow (redrawn W1 d) os))
  have HFr := fun d os => Calls.regrown_of (HF (grow (redrawn W1 d) os))
  have hix := idx10
  clear HF c0 c1 c2 c3 z1
  refine wp_region_quiet_below (by kernel_rfl) (by kernel_rfl) ?_
  repeat (first | go_big_quiet_skip | quiet_step (first | (go_at_call 19; exact HWr _ _) | (go_at_call 38; exact HFr _ _)))
  refine wpQuiet_nil ?_
  intro _ hw'
  obtain ⟨⟨dq, os⟩, hw''⟩ := hw'
  subst hw''
  have kR := below_regrown W1 dq os
  have kw := k1.trans (kR.mono k1.size)
  clear g0 g1 g2 g3 HWr HFr kR
  generalize grow (redrawn W1 dq) os = V at *
  go_wp2_with fail
  go_ret2
  exact ⟨rfl, kw⟩
set_option maxHeartbeats 4000000 in
theorem write_11 (r n held : Int) (kp : Bool) (w : World) (hT : Txt.Tab w) (hk : chk ⟨11, r, n, held⟩ = true) (h0 : 0 ≤ held) (h7 : held ≤ 7) : Calls Tryd.prog 8 #[kyv ⟨11, r, n, held⟩, .bool kp] w fun e w' => e = .returned (.tuple #[.string (bs (wr ⟨11, r, n, held⟩ kp)), .int .i64 0]) ∧ Below w.heap.size w w' := by
  have kb : Below w.heap.size w (w.alloc (.cells #[.int .i64 11, .int .i32 r, .int .i64 n, .int .i64 held] 23)) := (Below.refl _ _).alloc (Nat.le_refl _) _
  have HC := check_any ⟨11, r, n, held⟩ _ (Tab.alloc hT (.cells #[.int .i64 11, .int .i32 r, .int .i64 n, .int .i64 held] 23))
  rw [hk] at HC
  clear hk hT
  have HF := fun W => writeLetter_11 r n held kp h0 h7 W
  generalize bs (wr ⟨11, r, n, held⟩ kp) = res at *
  unfold kyv at HC HF ⊢
  go_enter Tryd.func8, Tryd.ntmps8
  go_wp2_with (go_at_call 11; refine HC.mono ?_; rintro e W1 ⟨rfl, b1⟩)
  have z1 := held_block b1
  have k1 := kb.trans (b1.mono kb.size)
  clear b1 kb HC
  obtain ⟨⟨c0, c1, c2, c3⟩, _⟩ := four_cells z1
  have g0 := fun d os => cell_regrown c0 d os
  have g1 := fun d os => cell_regrown c1 d os
  have g2 := fun d os => cell_regrown c2 d os
  have g3 := fun d os => cell_regrown c3 d os
  have HWr := fun d os => Calls.regrown_of (writers_any (grow (redrawn W1 d) os))
  have HFr := fun d os => Calls.regrown_of (HF (grow (redrawn W1 d) os))
  have hix := idx11
  clear HF c0 c1 c2 c3 z1
  refine wp_region_quiet_below (by kernel_rfl) (by kernel_rfl) ?_
  repeat (first | go_big_quiet_skip | quiet_step (first | (go_at_call 19; exact HWr _ _) | (go_at_call 38; exact HFr _ _)))
  refine wpQuiet_nil ?_
  intro _ hw'
  obtain ⟨⟨dq, os⟩, hw''⟩ := hw'
  subst hw''
  have kR := below_regrown W1 dq os
  have kw := k1.trans (kR.mono k1.size)
  clear g0 g1 g2 g3 HWr HFr kR
  generalize grow (redrawn W1 dq) os = V at *
  go_wp2_with fail
  go_ret2
  exact ⟨rfl, kw⟩
set_option maxHeartbeats 4000000 in
theorem write_12 (n held : Int) (kp : Bool) (w : World) (hT : Txt.Tab w) (hk : chk ⟨12, 0, n, held⟩ = true) (hm : (12, n) ∈ numKeys) (h0 : 0 ≤ held) (h7 : held ≤ 7) (hN : NumTab w) : Calls Tryd.prog 8 #[kyv ⟨12, 0, n, held⟩, .bool kp] w fun e w' => e = .returned (.tuple #[.string (bs (wr ⟨12, 0, n, held⟩ kp)), .int .i64 0]) ∧ Below w.heap.size w w' := by
  have kb : Below w.heap.size w (w.alloc (.cells #[.int .i64 12, .int .i32 0, .int .i64 n, .int .i64 held] 23)) := (Below.refl _ _).alloc (Nat.le_refl _) _
  have HC := check_any ⟨12, 0, n, held⟩ _ (Tab.alloc hT (.cells #[.int .i64 12, .int .i32 0, .int .i64 n, .int .i64 held] 23))
  rw [hk] at HC
  clear hk hT
  rw [show wr ⟨12, 0, n, held⟩ kp = [27, 91] ++ digB (numOf 12 n) ++ heldB held ++ [126] from rfl]
  have HF := fun W (h : NumTab W) => writeNumber_any 12 n held kp hm h0 h7 W h
  generalize bs ([27, 91] ++ digB (numOf 12 n) ++ heldB held ++ [126]) = res at *
  unfold kyv at HC HF ⊢
  go_enter Tryd.func8, Tryd.ntmps8
  go_wp2_with (go_at_call 11; refine HC.mono ?_; rintro e W1 ⟨rfl, b1⟩)
  have z1 := held_block b1
  have k1 := kb.trans (b1.mono kb.size)
  clear b1 kb HC
  obtain ⟨⟨c0, c1, c2, c3⟩, _⟩ := four_cells z1
  have g0 := fun d os => cell_regrown c0 d os
  have g1 := fun d os => cell_regrown c1 d os
  have g2 := fun d os => cell_regrown c2 d os
  have g3 := fun d os => cell_regrown c3 d os
  have HWr := fun d os => Calls.regrown_of (writers_any (grow (redrawn W1 d) os))
  have hN1 := hN.below k1
  have HFr := fun d os => Calls.regrown_of (HF (grow (redrawn W1 d) os) (hN1.below (below_regrown W1 d os)))
  have hix := idx12
  clear HF c0 c1 c2 c3 z1
  refine wp_region_quiet_below (by kernel_rfl) (by kernel_rfl) ?_
  repeat (first | go_big_quiet_skip | quiet_step (first | (go_at_call 19; exact HWr _ _) | (go_at_call 39; exact HFr _ _)))
  refine wpQuiet_nil ?_
  intro _ hw'
  obtain ⟨⟨dq, os⟩, hw''⟩ := hw'
  subst hw''
  have kR := below_regrown W1 dq os
  have kw := k1.trans (kR.mono k1.size)
  clear g0 g1 g2 g3 HWr HFr kR
  generalize grow (redrawn W1 dq) os = V at *
  go_wp2_with fail
  go_ret2
  exact ⟨rfl, kw⟩
set_option maxHeartbeats 4000000 in
theorem write_13 (n held : Int) (kp : Bool) (w : World) (hT : Txt.Tab w) (hk : chk ⟨13, 0, n, held⟩ = true) (hm : (13, n) ∈ numKeys) (h0 : 0 ≤ held) (h7 : held ≤ 7) (hN : NumTab w) : Calls Tryd.prog 8 #[kyv ⟨13, 0, n, held⟩, .bool kp] w fun e w' => e = .returned (.tuple #[.string (bs (wr ⟨13, 0, n, held⟩ kp)), .int .i64 0]) ∧ Below w.heap.size w w' := by
  have kb : Below w.heap.size w (w.alloc (.cells #[.int .i64 13, .int .i32 0, .int .i64 n, .int .i64 held] 23)) := (Below.refl _ _).alloc (Nat.le_refl _) _
  have HC := check_any ⟨13, 0, n, held⟩ _ (Tab.alloc hT (.cells #[.int .i64 13, .int .i32 0, .int .i64 n, .int .i64 held] 23))
  rw [hk] at HC
  clear hk hT
  rw [show wr ⟨13, 0, n, held⟩ kp = [27, 91] ++ digB (numOf 13 n) ++ heldB held ++ [126] from rfl]
  have HF := fun W (h : NumTab W) => writeNumber_any 13 n held kp hm h0 h7 W h
  generalize bs ([27, 91] ++ digB (numOf 13 n) ++ heldB held ++ [126]) = res at *
  unfold kyv at HC HF ⊢
  go_enter Tryd.func8, Tryd.ntmps8
  go_wp2_with (go_at_call 11; refine HC.mono ?_; rintro e W1 ⟨rfl, b1⟩)
  have z1 := held_block b1
  have k1 := kb.trans (b1.mono kb.size)
  clear b1 kb HC
  obtain ⟨⟨c0, c1, c2, c3⟩, _⟩ := four_cells z1
  have g0 := fun d os => cell_regrown c0 d os
  have g1 := fun d os => cell_regrown c1 d os
  have g2 := fun d os => cell_regrown c2 d os
  have g3 := fun d os => cell_regrown c3 d os
  have HWr := fun d os => Calls.regrown_of (writers_any (grow (redrawn W1 d) os))
  have hN1 := hN.below k1
  have HFr := fun d os => Calls.regrown_of (HF (grow (redrawn W1 d) os) (hN1.below (below_regrown W1 d os)))
  have hix := idx13
  clear HF c0 c1 c2 c3 z1
  refine wp_region_quiet_below (by kernel_rfl) (by kernel_rfl) ?_
  repeat (first | go_big_quiet_skip | quiet_step (first | (go_at_call 19; exact HWr _ _) | (go_at_call 39; exact HFr _ _)))
  refine wpQuiet_nil ?_
  intro _ hw'
  obtain ⟨⟨dq, os⟩, hw''⟩ := hw'
  subst hw''
  have kR := below_regrown W1 dq os
  have kw := k1.trans (kR.mono k1.size)
  clear g0 g1 g2 g3 HWr HFr kR
  generalize grow (redrawn W1 dq) os = V at *
  go_wp2_with fail
  go_ret2
  exact ⟨rfl, kw⟩
set_option maxHeartbeats 4000000 in
theorem write_14 (n held : Int) (kp : Bool) (w : World) (hT : Txt.Tab w) (hk : chk ⟨14, 0, n, held⟩ = true) (hm : (14, n) ∈ numKeys) (h0 : 0 ≤ held) (h7 : held ≤ 7) (hN : NumTab w) : Calls Tryd.prog 8 #[kyv ⟨14, 0, n, held⟩, .bool kp] w fun e w' => e = .returned (.tuple #[.string (bs (wr ⟨14, 0, n, held⟩ kp)), .int .i64 0]) ∧ Below w.heap.size w w' := by
  have kb : Below w.heap.size w (w.alloc (.cells #[.int .i64 14, .int .i32 0, .int .i64 n, .int .i64 held] 23)) := (Below.refl _ _).alloc (Nat.le_refl _) _
  have HC := check_any ⟨14, 0, n, held⟩ _ (Tab.alloc hT (.cells #[.int .i64 14, .int .i32 0, .int .i64 n, .int .i64 held] 23))
  rw [hk] at HC
  clear hk hT
  rw [show wr ⟨14, 0, n, held⟩ kp = [27, 91] ++ digB (numOf 14 n) ++ heldB held ++ [126] from rfl]
  have HF := fun W (h : NumTab W) => writeNumber_any 14 n held kp hm h0 h7 W h
  generalize bs ([27, 91] ++ digB (numOf 14 n) ++ heldB held ++ [126]) = res at *
  unfold kyv at HC HF ⊢
  go_enter Tryd.func8, Tryd.ntmps8
  go_wp2_with (go_at_call 11; refine HC.mono ?_; rintro e W1 ⟨rfl, b1⟩)
  have z1 := held_block b1
  have k1 := kb.trans (b1.mono kb.size)
  clear b1 kb HC
  obtain ⟨⟨c0, c1, c2, c3⟩, _⟩ := four_cells z1
  have g0 := fun d os => cell_regrown c0 d os
  have g1 := fun d os => cell_regrown c1 d os
  have g2 := fun d os => cell_regrown c2 d os
  have g3 := fun d os => cell_regrown c3 d os
  have HWr := fun d os => Calls.regrown_of (writers_any (grow (redrawn W1 d) os))
  have hN1 := hN.below k1
  have HFr := fun d os => Calls.regrown_of (HF (grow (redrawn W1 d) os) (hN1.below (below_regrown W1 d os)))
  have hix := idx14
  clear HF c0 c1 c2 c3 z1
  refine wp_region_quiet_below (by kernel_rfl) (by kernel_rfl) ?_
  repeat (first | go_big_quiet_skip | quiet_step (first | (go_at_call 19; exact HWr _ _) | (go_at_call 39; exact HFr _ _)))
  refine wpQuiet_nil ?_
  intro _ hw'
  obtain ⟨⟨dq, os⟩, hw''⟩ := hw'
  subst hw''
  have kR := below_regrown W1 dq os
  have kw := k1.trans (kR.mono k1.size)
  clear g0 g1 g2 g3 HWr HFr kR
  generalize grow (redrawn W1 dq) os = V at *
  go_wp2_with fail
  go_ret2
  exact ⟨rfl, kw⟩
set_option maxHeartbeats 4000000 in
theorem write_15 (n held : Int) (kp : Bool) (w : World) (hT : Txt.Tab w) (hk : chk ⟨15, 0, n, held⟩ = true) (hm : (15, n) ∈ numKeys) (h0 : 0 ≤ held) (h7 : held ≤ 7) (hN : NumTab w) : Calls Tryd.prog 8 #[kyv ⟨15, 0, n, held⟩, .bool kp] w fun e w' => e = .returned (.tuple #[.string (bs (wr ⟨15, 0, n, held⟩ kp)), .int .i64 0]) ∧ Below w.heap.size w w' := by
  have kb : Below w.heap.size w (w.alloc (.cells #[.int .i64 15, .int .i32 0, .int .i64 n, .int .i64 held] 23)) := (Below.refl _ _).alloc (Nat.le_refl _) _
  have HC := check_any ⟨15, 0, n, held⟩ _ (Tab.alloc hT (.cells #[.int .i64 15, .int .i32 0, .int .i64 n, .int .i64 held] 23))
  rw [hk] at HC
  clear hk hT
  rw [show wr ⟨15, 0, n, held⟩ kp = [27, 91] ++ digB (numOf 15 n) ++ heldB held ++ [126] from rfl]
  have HF := fun W (h : NumTab W) => writeNumber_any 15 n held kp hm h0 h7 W h
  generalize bs ([27, 91] ++ digB (numOf 15 n) ++ heldB held ++ [126]) = res at *
  unfold kyv at HC HF ⊢
  go_enter Tryd.func8, Tryd.ntmps8
  go_wp2_with (go_at_call 11; refine HC.mono ?_; rintro e W1 ⟨rfl, b1⟩)
  have z1 := held_block b1
  have k1 := kb.trans (b1.mono kb.size)
  clear b1 kb HC
  obtain ⟨⟨c0, c1, c2, c3⟩, _⟩ := four_cells z1
  have g0 := fun d os => cell_regrown c0 d os
  have g1 := fun d os => cell_regrown c1 d os
  have g2 := fun d os => cell_regrown c2 d os
  have g3 := fun d os => cell_regrown c3 d os
  have HWr := fun d os => Calls.regrown_of (writers_any (grow (redrawn W1 d) os))
  have hN1 := hN.below k1
  have HFr := fun d os => Calls.regrown_of (HF (grow (redrawn W1 d) os) (hN1.below (below_regrown W1 d os)))
  have hix := idx15
  clear HF c0 c1 c2 c3 z1
  refine wp_region_quiet_below (by kernel_rfl) (by kernel_rfl) ?_
  repeat (first | go_big_quiet_skip | quiet_step (first | (go_at_call 19; exact HWr _ _) | (go_at_call 39; exact HFr _ _)))
  refine wpQuiet_nil ?_
  intro _ hw'
  obtain ⟨⟨dq, os⟩, hw''⟩ := hw'
  subst hw''
  have kR := below_regrown W1 dq os
  have kw := k1.trans (kR.mono k1.size)
  clear g0 g1 g2 g3 HWr HFr kR
  generalize grow (redrawn W1 dq) os = V at *
  go_wp2_with fail
  go_ret2
  exact ⟨rfl, kw⟩
set_option maxHeartbeats 4000000 in
theorem write_no (k : Ky) (kp : Bool) (w : World) (hT : Txt.Tab w) (hk : chk k = false) : Calls Tryd.prog 8 #[kyv k, .bool kp] w fun e w' => e = .returned (.tuple #[.string ⟨#[]⟩, .int .i64 5]) ∧ Below w.heap.size w w' := by
  have kb : Below w.heap.size w (w.alloc (.cells #[.int .i64 k.kind, .int .i32 k.r, .int .i64 k.n, .int .i64 k.held] 23)) := (Below.refl _ _).alloc (Nat.le_refl _) _
  have HC := check_any k _ (Tab.alloc hT (.cells #[.int .i64 k.kind, .int .i32 k.r, .int .i64 k.n, .int .i64 k.held] 23))
  rw [hk] at HC
  clear hk hT
  unfold kyv at HC ⊢
  go_enter Tryd.func8, Tryd.ntmps8
  go_wp2_with (go_at_call 11; refine HC.mono ?_; rintro e W1 ⟨rfl, b1⟩)
  go_ret2
  exact ⟨rfl, kb.trans (b1.mono kb.size)⟩
theorem plain_kinds : ∀ k ∈ plainKeys, 0 ≤ k.held ∧ k.held ≤ 7 ∧ k.r = 0 ∧ (k.kind = 2 ∧ (k.held = 0 ∨ k.held = 2) ∨ k.kind = 3 ∨ k.kind = 4 ∧ (k.held = 0 ∨ k.held = 2) ∨ k.kind = 5 ∨ k.kind = 6 ∨ k.kind = 7 ∨ k.kind = 8 ∨ k.kind = 9 ∨ k.kind = 10 ∨ k.kind = 11 ∨ (k.kind = 12 ∨ k.kind = 13 ∨ k.kind = 14 ∨ k.kind = 15) ∧ (k.kind, k.n) ∈ numKeys) := by decide +kernel
theorem ctrl_kinds : ∀ k ∈ ctrlKeys, k.kind = 1 ∧ (k.held = 4 ∨ k.held = 6) ∧ 97 ≤ k.r ∧ k.r ≤ 122 := by decide +kernel
theorem write_any (k : Ky) (kp : Bool) (w : World) (hT : Txt.Tab w) (hN : NumTab w) (hk : chk k = true) : Calls Tryd.prog 8 #[kyv k, .bool kp] w fun e w' => e = .returned (.tuple #[.string (bs (wr k kp)), .int .i64 0]) ∧ Below w.heap.size w w' := by
  rcases chk_cases k hk with h1 | ⟨h1, h2⟩ | ⟨h1, h2, h3, h4⟩
  · obtain ⟨h0, h7, hr, hc⟩ := plain_kinds k h1
    obtain ⟨kind, r, n, held⟩ := k
    simp only at h0 h7 hr hc
    subst hr
    rcases hc with ⟨rfl, hh⟩ | rfl | ⟨rfl, hh⟩ | rfl | rfl | rfl | rfl | rfl | rfl | rfl | ⟨rfl | rfl | rfl | rfl, hm⟩
    · exact write_2 0 n held kp w hT hk hh
    · exact write_3 0 n held kp w hT hk
    · exact write_4 0 n held kp w hT hk hh
    · exact write_5 0 n held kp w hT hk
    · exact write_6 0 n held kp w hT hk h0 h7
    · exact write_7 0 n held kp w hT hk h0 h7
    · exact write_8 0 n held kp w hT hk h0 h7
    · exact write_9 0 n held kp w hT hk h0 h7
    · exact write_10 0 n held kp w hT hk h0 h7
    · exact write_11 0 n held kp w hT hk h0 h7
    · exact write_12 n held kp w hT hk hm h0 h7 hN
    · exact write_13 n held kp w hT hk hm h0 h7 hN
    · exact write_14 n held kp w hT hk hm h0 h7 hN
    · exact write_15 n held kp w hT hk hm h0 h7 hN
  · obtain ⟨g1, g2, g3, g4⟩ := ctrl_kinds k h1
    obtain ⟨kind, r, n, held⟩ := k
    simp only at g1 g2 g3 g4
    subst g1
    exact write_1 r n held kp w hT hk (.inr (.inr ⟨g2, g3, g4⟩))
  · obtain ⟨kind, r, n, held⟩ := k
    simp only at h1 h4
    subst h1
    exact write_1 r n held kp w hT hk (by rcases h4 with h | h; exact .inl h; exact .inr (.inl h.1))
end Kys
end Go.Proofs.YtjilgapoioploaaDoor
