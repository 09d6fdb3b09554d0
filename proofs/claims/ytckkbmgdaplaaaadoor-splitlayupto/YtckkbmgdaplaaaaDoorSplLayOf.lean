/- The reference's LayOut. (Written by gen_spllayof.py.) -/
import Derived.Test.YtckkbmgdaplaaaaDoorSplLayOf1
import Derived.Test.YtckkbmgdaplaaaaDoorSplLayOf2
namespace Go.Proofs.YtckkbmgdaplaaaaDoor
open Go.ChangeShapes Go.WideShapes Go.ChangeAt Go.RowKit Go.Maps Go.Sort
namespace Spl
open Fo
set_option maxHeartbeats 4000000 in
set_option maxRecDepth 100000 in
theorem layOut_any : ∀ (n : Nat), LayOutOk n
  | 0 => fun _ _ _ _ _ _ _ _ _ _ h => absurd h (Nat.not_lt_zero _)
  | n + 1 => fun wy pn sz ks kv x y W H w hn hcnt hroot hok hk hW hH hx0 hx1 hy0 hy1 => by
    have IH := layOut_any n
    obtain ⟨i0, hi, hzz⟩ := Option.map_eq_some_iff.1 pl_info
    simp only [Prod.mk.injEq] at hzz
    obtain ⟨hz0, hz1, hz2⟩ := hzz
    have hl2 := heap_alloc2_new w (.cells #[.int .i64 wy, .int .i64 pn, .int .i64 sz, kv] 24) (.cells #[.int .i64 x, .int .i64 y, .int .i64 W, .int .i64 H] 44)
    have hl1 := heap_alloc2_old w (.cells #[.int .i64 wy, .int .i64 pn, .int .i64 sz, kv] 24) (.cells #[.int .i64 x, .int .i64 y, .int .i64 W, .int .i64 H] 44)
    have kb : Below w.heap.size w ((w.alloc (.cells #[.int .i64 wy, .int .i64 pn, .int .i64 sz, kv] 24)).alloc (.cells #[.int .i64 x, .int .i64 y, .int .i64 W, .int .i64 H] 44)) := ((Below.refl _ _).alloc (Nat.le_refl _) _).alloc (by simp only [World.size_alloc]; omega) _
    have hsz0 : ((w.alloc (.cells #[.int .i64 wy, .int .i64 pn, .int .i64 sz, kv] 24)).alloc (.cells #[.int .i64 x, .int .i64 y, .int .i64 W, .int .i64 H] 44)).heap.size = w.heap.size + 1 + 1 := by simp only [World.size_alloc]
    unfold layT
    by_cases h0 : wy = 0
    · rw [if_pos h0]
      subst h0
      have kb2 := kb.alloc kb.size (.cells #[.int .i64 pn, .int .i64 x, .int .i64 y, .int .i64 W, .int .i64 H] 46)
      have hnew := heap_alloc_new ((w.alloc (.cells #[.int .i64 0, .int .i64 pn, .int .i64 sz, kv] 24)).alloc (.cells #[.int .i64 x, .int .i64 y, .int .i64 W, .int .i64 H] 44)) (.cells #[.int .i64 pn, .int .i64 x, .int .i64 y, .int .i64 W, .int .i64 H] 46)
      rw [hsz0] at hnew
      clear IH hk hl1 hl2 hsz0 hroot hok hi hz0 hz1 hz2 hn hW hH hx1 hy1
      go_enter Tryd.func21, Tryd.ntmps21
      go_wp2_with fail
      go_ret
      exact ⟨_, rfl, ⟨rfl, .inr ⟨w.heap.size + 1 + 1, 1, _, rfl, by omega, hnew, Nat.le_refl _, by decide, rfl, rfl⟩⟩, kb2⟩
    · rw [if_neg h0]
      obtain ⟨hwy, hne⟩ := hroot.resolve_left h0
      rcases hwy with rfl | rfl
      · exact layOut_w1 n IH pn sz ks kv x y W H w hn hcnt hne hok hk hW hH hx0 hx1 hy0 hy1
      · exact layOut_w2 n IH pn sz ks kv x y W H w hn hcnt hne hok hk hW hH hx0 hx1 hy0 hy1
end Spl
end Go.Proofs.YtckkbmgdaplaaaaDoor
