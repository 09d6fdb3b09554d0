/- Package keys: Write, by kinds. -/
import Derived.Test.YtjilgapoioploaaDoorKeysWr1
import Derived.Test.YtjilgapoioploaaDoorKeysChk
import Derived.Test.YtjilgapoioploaaDoorKeysRd2
import Derived.Lib.QuietBelow
import Derived.BigQuiet
namespace Go.Proofs.YtjilgapoioploaaDoor
open Go.ChangeShapes Go.WideShapes Go.ChangeAt Go.RowKit
open Go.Sort
namespace Kys
open Txt (wd bs)
def wsA : Array Value := #[.nilFunc, .func (.func 33) #[] #[], .func (.func 34) #[] #[], .func (.func 35) #[] #[], .func (.func 36) #[] #[], .func (.func 37) #[] #[], .func (.func 38) #[] #[], .func (.func 38) #[] #[], .func (.func 38) #[] #[], .func (.func 38) #[] #[], .func (.func 38) #[] #[], .func (.func 38) #[] #[], .func (.func 39) #[] #[], .func (.func 39) #[] #[], .func (.func 39) #[] #[], .func (.func 39) #[] #[]]
set_option maxHeartbeats 1000000 in
set_option maxRecDepth 100000 in
theorem writers_any (w : World) : Calls Tryd.prog 19 #[] w fun e w' => e = .returned (.agg wsA) ∧ Below w.heap.size w w' := by
  go_enter Tryd.func19, Tryd.ntmps19
  go_wp2_with (refine wpList_store_row rfl 44 (.tmp 0) _ rfl w.heap.size wsA rfl rfl _ _ (heap_alloc_new w _) (by kernel_rfl) rfl (by simp [wsA, Value.oneCell']) ?_)
  (try simp only [Exit.inBlock, Exit.then])
  refine bodyPost_ret (v := .agg wsA) ?_ rfl ⟨rfl, below_setRow ((Below.refl _ _).alloc (Nat.le_refl _) _) (Nat.le_refl _) _⟩
  exact results_cell_row rfl _ _ w.heap.size _ _ _ _ rfl (setRow_heap _ _ _ _ _ _ (heap_alloc_new w _)) Tryd.underlying44 rfl (by kernel_rfl)
theorem und_ws : Tryd.prog.underlying 44 = some (.array 16 29) := by kernel_rfl
theorem idx6 (w : World) : (Instr.index 44 (.agg wsA) (.int .i64 6)).run Tryd.prog w = .ok (.func (.func 38) #[] #[]) w := by
  unfold wsA
  simp [Instr.index, run_underlying und_ws, asIntOf, go_sem]
theorem four_cells {W : World} {b : Nat} {p q r z : Value} {t : TypeId} (h : W.heap[b]? = some (.cells #[p, q, r, z] t (0, 0))) : (W.cell? ⟨b, 0, none⟩ = some p ∧ W.cell? ⟨b, 1, none⟩ = some q ∧ W.cell? ⟨b, 2, none⟩ = some r ∧ W.cell? ⟨b, 3, none⟩ = some z) ∧ True := by
  unfold World.cell?
  rw [h]
  exact ⟨⟨rfl, rfl, rfl, rfl⟩, trivial⟩
set_option maxHeartbeats 4000000 in
theorem write_6 (r n held : Int) (kp : Bool) (w : World) (hT : Txt.Tab w) (hk : chk ⟨6, r, n, held⟩ = true) (h0 : 0 ≤ held) (h7 : held ≤ 7) : Calls Tryd.prog 8 #[kyv ⟨6, r, n, held⟩, .bool kp] w fun e w' => e = .returned (.tuple #[.string (bs (wr ⟨6, r, n, held⟩ kp)), .int .i64 0]) ∧ Below w.heap.size w w' := by
  have kb : Below w.heap.size w (w.alloc (.cells #[.int .i64 6, .int .i32 r, .int .i64 n, .int .i64 held] 23)) := (Below.refl _ _).alloc (Nat.le_refl _) _
  have HC := check_any ⟨6, r, n, held⟩ _ (Tab.alloc hT (.cells #[.int .i64 6, .int .i32 r, .int .i64 n, .int .i64 held] 23))
  rw [hk] at HC
  clear hk hT
  have HF := fun W => writeLetter_6 r n held kp h0 h7 W
  generalize bs (wr ⟨6, r, n, held⟩ kp) = res at *
  unfold kyv at HC HF ⊢
  go_enter Tryd.func8, Tryd.ntmps8
  go_wp2_with (go_at_call 11; refine HC.mono ?_; rintro e W1 ⟨rfl, b1⟩)
  have z1 := held_block b1
  have k1 := kb.trans (b1.mono kb.size)
  clear b1 kb HC
  obtain ⟨⟨c0, c1, c2, c3⟩, _⟩ := four_cells z1
  have g0 := fun d os => cell_regrown c0 d os
  have g1 := fun d os => cell_regrown c1 d os
  have g2 := fun d os => cell_regrown c2 d os
  have g3 := fun d os => cell_regrown c3 d os
  have HWr := fun d os => Calls.regrown_of (writers_any (grow (redrawn W1 d) os))
  have HFr := fun d os => Calls.regrown_of (HF (grow (redrawn W1 d) os))
  have hix := idx6
  clear HF c0 c1 c2 c3 z1
  refine wp_region_quiet_below (by kernel_rfl) (by kernel_rfl) ?_
  repeat (first | go_big_quiet_skip | quiet_step (first | (go_at_call 19; exact HWr _ _) | (go_at_call 38; exact HFr _ _)))
  refine wpQuiet_nil ?_
  intro _ hw'
  obtain ⟨⟨dq, os⟩, hw''⟩ := hw'
  subst hw''
  have kR := below_regrown W1 dq os
  have kw := k1.trans (kR.mono k1.size)
  clear g0 g1 g2 g3 HWr HFr kR
  generalize grow (redrawn W1 dq) os = V at *
  go_wp2_with fail
  go_ret2
  exact ⟨rfl, kw⟩
end Kys
end Go.Proofs.YtjilgapoioploaaDoor
