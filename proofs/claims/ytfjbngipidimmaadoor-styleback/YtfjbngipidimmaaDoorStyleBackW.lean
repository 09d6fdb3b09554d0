/- The walk of the law StyleBack. -/
import Derived.Test.YtfjbngipidimmaaDoorStyleBackMath
import Derived.Lib.QuietBelow
import Derived.BigQuiet
namespace Go.Proofs.YtfjbngipidimmaaDoor
open Go.ChangeShapes Go.WideShapes Go.ChangeAt Go.RowKit
namespace Sty
theorem carry {W W' : World} {g : Nat} {o : Obj} (h : W.heap[g]? = some o) (hb : Below W.heap.size W W') : W'.heap[g]? = some o := (hb.block _ (blk_lt h)).trans h
theorem neq_agg (a b c d e f : Int) (w : World) : (binOp .neq 23 (.agg #[.int .i64 a, .int .i64 b, .int .i64 c]) (.agg #[.int .i64 d, .int .i64 e, .int .i64 f])).run Tryd.prog w = .ok (.bool (!decide ((a, b, c) = (d, e, f)))) w := by
  by_cases h1 : a = d
  · by_cases h2 : b = e
    · by_cases h3 : c = f
      · subst h1 h2 h3; simp [go_sem]
      · subst h1 h2; simp [go_sem, h3]
    · subst h1; simp [go_sem, h2]
  · simp [go_sem, h1]
theorem colL_le (c m : Int) (h : c ≤ 256) (hm : m ≤ 10) : ∀ x ∈ colL c m, x ≤ 9223372036854775807 := by
  intro x hx
  unfold colL at hx
  split at hx
  · simp at hx; omega
  · split at hx
    · simp at hx; omega
    · split at hx
      · simp at hx; omega
      · simp at hx; omega
theorem bitsL_le (f t : Int) : ∀ x ∈ bitsL f t looks, x ≤ 9223372036854775807 := by
  intro x hx
  simp only [bitsL, List.mem_map, List.mem_filter] at hx
  obtain ⟨k, ⟨hk, _⟩, rfl⟩ := hx
  simp only [looks, List.mem_cons, List.not_mem_nil, or_false] at hk
  rcases hk with rfl | rfl | rfl | rfl | rfl | rfl | rfl <;> decide
theorem adds_le (a b : Int × Int × Int) (h : isSt b = true) : ∀ x ∈ addsL a b, x ≤ 9223372036854775807 := by
  have hb := (isSt_iff _).1 h
  intro x hx
  simp only [addsL, List.mem_append] at hx
  rcases hx with (hx | hx) | hx
  · exact bitsL_le _ _ x hx
  · split at hx
    · cases hx
    · exact colL_le _ _ (by omega) (by omega) x hx
  · split at hx
    · cases hx
    · exact colL_le _ _ (by omega) (by omega) x hx
theorem nums_le (b : Int × Int × Int) (h : isSt b = true) : ∀ x ∈ numsOf b, x ≤ 9223372036854775807 := by
  unfold numsOf
  rw [h, if_pos rfl]
  exact adds_le _ b h
theorem turn_le (a b : Int × Int × Int) (h : isSt b = true) : ∀ x ∈ turnOf a b, x ≤ 9223372036854775807 := by
  intro x hx
  unfold turnOf at hx
  split at hx
  · cases hx
  · split at hx
    · rcases List.mem_cons.1 hx with rfl | hx
      · omega
      · exact nums_le b h x hx
    · exact adds_le a b h x hx
theorem adds_len (a b : Int × Int × Int) : (addsL a b).length ≤ 100 := by
  have hcl : ∀ c m : Int, (colL c m).length ≤ 3 := by
    intro c m
    unfold colL
    repeat' split
    all_goals simp
  have hb : (bitsL a.2.2 b.2.2 looks).length ≤ 7 := by
    unfold bitsL
    rw [List.length_map]
    exact List.length_filter_le _ _
  unfold addsL
  have h1 := hcl b.1 0
  have h2 := hcl b.2.1 10
  simp only [List.length_append]
  split <;> split <;> simp <;> omega
theorem turn_len (a b : Int × Int × Int) : (turnOf a b).length ≤ 200 := by
  unfold turnOf
  have h1 := adds_len a b
  have h2 := nums_len b
  repeat' split
  all_goals simp
  all_goals omega
set_option maxHeartbeats 2000000 in
theorem back_bad1 (af ab ax bf bb bx : Int) (w : World) (hT : Tab w) (hP : P10 w) (ha : isSt (af, ab, ax) = false) :
    Calls Tryd.prog 6 #[.agg #[.int .i64 af, .int .i64 ab, .int .i64 ax], .agg #[.int .i64 bf, .int .i64 bb, .int .i64 bx]] w fun e w' => e = .returned (.bool true) ∧ Below w.heap.size w w' := by
  have HT : Hid (Tab w) := hT
  have HP : Hid (P10 w) := hP
  clear hT hP
  have k0 : Below w.heap.size w ((w.alloc (.cells #[.int .i64 af, .int .i64 ab, .int .i64 ax] 23)).alloc (.cells #[.int .i64 bf, .int .i64 bb, .int .i64 bx] 23)) := ((Below.refl _ _).alloc (Nat.le_refl _) _).alloc (by simp) _
  have x0 : ((w.alloc (.cells #[.int .i64 af, .int .i64 ab, .int .i64 ax] 23)).alloc (.cells #[.int .i64 bf, .int .i64 bb, .int .i64 bx] 23)).heap[w.heap.size]? = some (.cells #[.int .i64 af, .int .i64 ab, .int .i64 ax] 23 (0, 0)) := (Below.heap_alloc _ _ _ (by simp)).trans (heap_alloc_new _ _)
  have y0 := new2 w (.cells #[.int .i64 af, .int .i64 ab, .int .i64 ax] 23) #[.int .i64 bf, .int .i64 bb, .int .i64 bx] 23
  have HA : Hid (isSt (af, ab, ax) = false) := ha
  clear ha
  go_enter Tryd.func6, Tryd.ntmps6
  go_wp2_with (first
    | (go_at_call 9; have k2' := k2; refine (looked_any _ (HT.out.next k2) (HP.out.below k2)).mono ?_; rintro e W3 ⟨rfl, b3⟩; have k3 : Below w.heap.size w W3 := k2.trans (b3.mono k2.size); have x3 := carry x2 b3; have y3 := carry y2 b3; have ⟨m3a, m3b, m3c, m3d⟩ := cells_of x3; have ⟨n3a, n3b, n3c, n3d⟩ := cells_of y3)
    | (go_at_call 10; have k1' := k1; refine (check_agg af ab ax _ _ HA.out).mono ?_; rintro e W2 ⟨rfl, b2⟩; have k2 : Below w.heap.size w W2 := k1.trans (b2.mono k1.size); have x2 := carry x1 b2; have y2 := carry y1 b2; have ⟨m2a, m2b, m2c, m2d⟩ := cells_of x2; have ⟨n2a, n2b, n2c, n2d⟩ := cells_of y2)
    | (go_at_call 9; have k0' := k0; refine (looked_any _ (HT.out.next k0) (HP.out.below k0)).mono ?_; rintro e W1 ⟨rfl, b1⟩; have k1 : Below w.heap.size w W1 := k0.trans (b1.mono k0.size); have x1 := carry x0 b1; have y1 := carry y0 b1; have ⟨m1a, m1b, m1c, m1d⟩ := cells_of x1; have ⟨n1a, n1b, n1c, n1d⟩ := cells_of y1))
  go_ret
  exact ⟨rfl, k3⟩
set_option maxHeartbeats 2000000 in
theorem back_bad2 (af ab ax bf bb bx : Int) (w : World) (hT : Tab w) (hP : P10 w) (ha : isSt (af, ab, ax) = true) (hb : isSt (bf, bb, bx) = false) :
    Calls Tryd.prog 6 #[.agg #[.int .i64 af, .int .i64 ab, .int .i64 ax], .agg #[.int .i64 bf, .int .i64 bb, .int .i64 bx]] w fun e w' => e = .returned (.bool true) ∧ Below w.heap.size w w' := by
  have HT : Hid (Tab w) := hT
  have HP : Hid (P10 w) := hP
  clear hT hP
  have k0 : Below w.heap.size w ((w.alloc (.cells #[.int .i64 af, .int .i64 ab, .int .i64 ax] 23)).alloc (.cells #[.int .i64 bf, .int .i64 bb, .int .i64 bx] 23)) := ((Below.refl _ _).alloc (Nat.le_refl _) _).alloc (by simp) _
  have x0 : ((w.alloc (.cells #[.int .i64 af, .int .i64 ab, .int .i64 ax] 23)).alloc (.cells #[.int .i64 bf, .int .i64 bb, .int .i64 bx] 23)).heap[w.heap.size]? = some (.cells #[.int .i64 af, .int .i64 ab, .int .i64 ax] 23 (0, 0)) := (Below.heap_alloc _ _ _ (by simp)).trans (heap_alloc_new _ _)
  have y0 := new2 w (.cells #[.int .i64 af, .int .i64 ab, .int .i64 ax] 23) #[.int .i64 bf, .int .i64 bb, .int .i64 bx] 23
  have HA : Hid (isSt (af, ab, ax) = true) := ha
  have HB : Hid (isSt (bf, bb, bx) = false) := hb
  clear ha hb
  go_enter Tryd.func6, Tryd.ntmps6
  go_wp2_with (first
    | (go_at_call 9; have k3' := k3; refine (looked_any _ (HT.out.next k3) (HP.out.below k3)).mono ?_; rintro e W4 ⟨rfl, b4⟩; have k4 : Below w.heap.size w W4 := k3.trans (b4.mono k3.size); have x4 := carry x3 b4; have y4 := carry y3 b4; have ⟨m4a, m4b, m4c, m4d⟩ := cells_of x4; have ⟨n4a, n4b, n4c, n4d⟩ := cells_of y4)
    | (go_at_call 10; have k2' := k2; refine (check_agg bf bb bx _ _ HB.out).mono ?_; rintro e W3 ⟨rfl, b3⟩; have k3 : Below w.heap.size w W3 := k2.trans (b3.mono k2.size); have x3 := carry x2 b3; have y3 := carry y2 b3; have ⟨m3a, m3b, m3c, m3d⟩ := cells_of x3; have ⟨n3a, n3b, n3c, n3d⟩ := cells_of y3)
    | (go_at_call 10; have k1' := k1; refine (check_agg af ab ax _ _ HA.out).mono ?_; rintro e W2 ⟨rfl, b2⟩; have k2 : Below w.heap.size w W2 := k1.trans (b2.mono k1.size); have x2 := carry x1 b2; have y2 := carry y1 b2; have ⟨m2a, m2b, m2c, m2d⟩ := cells_of x2; have ⟨n2a, n2b, n2c, n2d⟩ := cells_of y2)
    | (go_at_call 9; have k0' := k0; refine (looked_any _ (HT.out.next k0) (HP.out.below k0)).mono ?_; rintro e W1 ⟨rfl, b1⟩; have k1 : Below w.heap.size w W1 := k0.trans (b1.mono k0.size); have x1 := carry x0 b1; have y1 := carry y0 b1; have ⟨m1a, m1b, m1c, m1d⟩ := cells_of x1; have ⟨n1a, n1b, n1c, n1d⟩ := cells_of y1))
  go_ret
  exact ⟨rfl, k4⟩
set_option maxHeartbeats 2000000 in
theorem back_nn (af ab ax bf bb bx : Int) (w : World) (hT : Tab w) (hP : P10 w) (ha : isSt (af, ab, ax) = true) (hb : isSt (bf, bb, bx) = true) (hz : (af, ab, ax) ≠ (0, 0, 0)) (hs : (af, ab, ax) ≠ (bf, bb, bx)) :
    Calls Tryd.prog 6 #[.agg #[.int .i64 af, .int .i64 ab, .int .i64 ax], .agg #[.int .i64 bf, .int .i64 bb, .int .i64 bx]] w fun e w' => e = .returned (.bool true) ∧ Below w.heap.size w w' := by
  have HT : Hid (Tab w) := hT
  have HP : Hid (P10 w) := hP
  clear hT hP
  have k0 : Below w.heap.size w ((w.alloc (.cells #[.int .i64 af, .int .i64 ab, .int .i64 ax] 23)).alloc (.cells #[.int .i64 bf, .int .i64 bb, .int .i64 bx] 23)) := ((Below.refl _ _).alloc (Nat.le_refl _) _).alloc (by simp) _
  have x0 : ((w.alloc (.cells #[.int .i64 af, .int .i64 ab, .int .i64 ax] 23)).alloc (.cells #[.int .i64 bf, .int .i64 bb, .int .i64 bx] 23)).heap[w.heap.size]? = some (.cells #[.int .i64 af, .int .i64 ab, .int .i64 ax] 23 (0, 0)) := (Below.heap_alloc _ _ _ (by simp)).trans (heap_alloc_new _ _)
  have y0 := new2 w (.cells #[.int .i64 af, .int .i64 ab, .int .i64 ax] 23) #[.int .i64 bf, .int .i64 bb, .int .i64 bx] 23
  have HA : Hid (isSt (af, ab, ax) = true) := ha
  have HB : Hid (isSt (bf, bb, bx) = true) := hb
  have HN : Hid (numsOf (af, ab, ax) ≠ []) := fun e => hz (nums_nil _ ha e)
  have HW1 : Hid (∀ x ∈ numsOf (af, ab, ax), x ≤ 9223372036854775807) := nums_le _ ha
  have HX1 : Hid (applyT (0, 0, 0) (numsOf (af, ab, ax)) = (af, ab, ax)) := by unfold Hid applyT; rw [if_neg HN.out]; exact nums_to _ ha
  have hnl := nums_len (af, ab, ax)
  have hnp : 0 < (numsOf (af, ab, ax)).length := List.length_pos_iff.2 HN.out
  have he0 : ∀ w, (binOp .neq 23 (.agg #[.int .i64 af, .int .i64 ab, .int .i64 ax]) (.agg #[.int .i64 0, .int .i64 0, .int .i64 0])).run Tryd.prog w = .ok (.bool true) w := fun w => by rw [neq_agg]; rw [decide_eq_false hz]; rfl
  have he1 : ∀ w, (binOp .neq 23 (.agg #[.int .i64 af, .int .i64 ab, .int .i64 ax]) (.agg #[.int .i64 af, .int .i64 ab, .int .i64 ax])).run Tryd.prog w = .ok (.bool false) w := fun w => by rw [neq_agg]; rw [decide_eq_true rfl]; rfl
  have HTN : Hid (turnOf (af, ab, ax) (bf, bb, bx) ≠ []) := (turn_to _ _ ha hb hs).2
  have HW2 : Hid (∀ x ∈ turnOf (af, ab, ax) (bf, bb, bx), x ≤ 9223372036854775807) := turn_le _ _ hb
  have HX2 : Hid (applyT (af, ab, ax) (turnOf (af, ab, ax) (bf, bb, bx)) = (bf, bb, bx)) := by unfold Hid applyT; rw [if_neg HTN.out]; exact (turn_to _ _ ha hb hs).1
  have htl := turn_len (af, ab, ax) (bf, bb, bx)
  have htp : 0 < (turnOf (af, ab, ax) (bf, bb, bx)).length := List.length_pos_iff.2 HTN.out
  have he3 : ∀ w, (binOp .eql 23 (.agg #[.int .i64 bf, .int .i64 bb, .int .i64 bx]) (.agg #[.int .i64 bf, .int .i64 bb, .int .i64 bx])).run Tryd.prog w = .ok (.bool true) w := fun w => by rw [eq_agg, decide_eq_true rfl]
  clear ha hb hz hs
  go_enter Tryd.func6, Tryd.ntmps6
  go_wp2_with (first
    | (go_at_call 15; have k3' := k3; refine (numbers_own af ab ax _ (HT.out.next k3)).mono ?_; rintro e W4 ⟨vn, rfl, ownN, _, b4⟩; have k4 : Below w.heap.size w W4 := k3.trans (b4.mono k3.size); have x4 := carry x3 b4; have y4 := carry y3 b4; have ⟨m4a, m4b, m4c, m4d⟩ := cells_of x4; have ⟨n4a, n4b, n4c, n4d⟩ := cells_of y4; have hIN := own_ints ownN; obtain ⟨gn, capn, rfl⟩ := own_some ownN HN.out)
    | (go_at_call 10; have k2' := k2; refine (check_agg bf bb bx _ _ HB.out).mono ?_; rintro e W3 ⟨rfl, b3⟩; have k3 : Below w.heap.size w W3 := k2.trans (b3.mono k2.size); have x3 := carry x2 b3; have y3 := carry y2 b3; have ⟨m3a, m3b, m3c, m3d⟩ := cells_of x3; have ⟨n3a, n3b, n3c, n3d⟩ := cells_of y3)
    | (go_at_call 10; have k1' := k1; refine (check_agg af ab ax _ _ HA.out).mono ?_; rintro e W2 ⟨rfl, b2⟩; have k2 : Below w.heap.size w W2 := k1.trans (b2.mono k1.size); have x2 := carry x1 b2; have y2 := carry y1 b2; have ⟨m2a, m2b, m2c, m2d⟩ := cells_of x2; have ⟨n2a, n2b, n2c, n2d⟩ := cells_of y2)
    | (go_at_call 9; have k0' := k0; refine (looked_any _ (HT.out.next k0) (HP.out.below k0)).mono ?_; rintro e W1 ⟨rfl, b1⟩; have k1 : Below w.heap.size w W1 := k0.trans (b1.mono k0.size); have x1 := carry x0 b1; have y1 := carry y0 b1; have ⟨m1a, m1b, m1c, m1d⟩ := cells_of x1; have ⟨n1a, n1b, n1c, n1d⟩ := cells_of y1))
  have p40 : ∀ d os, (Sort.grow (redrawn W4 d) os).cell? ⟨w.heap.size, 0, none⟩ = some (.int .i64 af) := fun d os => cell_regrown (cells_of x4).1 d os
  have p41 : ∀ d os, (Sort.grow (redrawn W4 d) os).cell? ⟨w.heap.size, 1, none⟩ = some (.int .i64 ab) := fun d os => cell_regrown (cells_of x4).2.1 d os
  have p42 : ∀ d os, (Sort.grow (redrawn W4 d) os).cell? ⟨w.heap.size, 2, none⟩ = some (.int .i64 ax) := fun d os => cell_regrown (cells_of x4).2.2.1 d os
  have q40 : ∀ d os, (Sort.grow (redrawn W4 d) os).cell? ⟨w.heap.size + 1, 0, none⟩ = some (.int .i64 bf) := fun d os => cell_regrown (cells_of y4).1 d os
  have q41 : ∀ d os, (Sort.grow (redrawn W4 d) os).cell? ⟨w.heap.size + 1, 1, none⟩ = some (.int .i64 bb) := fun d os => cell_regrown (cells_of y4).2.1 d os
  have q42 : ∀ d os, (Sort.grow (redrawn W4 d) os).cell? ⟨w.heap.size + 1, 2, none⟩ = some (.int .i64 bx) := fun d os => cell_regrown (cells_of y4).2.2.1 d os
  have K4 : Hid (∀ d os, Calls Tryd.prog 12 #[.agg #[.int .i64 0, .int .i64 0, .int .i64 0], .slice (some ⟨gn, 0, none⟩) (numsOf (af, ab, ax)).length capn] (Sort.grow (redrawn W4 d) os) fun e w'' => e = .returned (.agg #[.int .i64 af, .int .i64 ab, .int .i64 ax]) ∧ ∃ p : Regrown, w'' = Sort.grow (redrawn W4 p.d) p.os) := fun d os => Calls.regrown_of (apply_agg 0 0 0 af ab ax _ (numsOf (af, ab, ax)) _ (HT.out.next (k4.trans ((below_regrown W4 d os).mono k4.size))) (hIN.below (below_regrown W4 d os)) (by omega) HW1.out HX1.out)
  refine wp_region_quiet_below (by kernel_rfl) (by kernel_rfl) ?_
  repeat (quiet_step (first | (go_at_call 12; exact K4.out _ _)))
  refine wpQuiet_nil ?_
  intro _ hw'
  obtain ⟨⟨dq4, os4⟩, hw''⟩ := hw'
  subst hw''
  have b5 := below_regrown W4 dq4 os4
  have k5 : Below w.heap.size w (Sort.grow (redrawn W4 dq4) os4) := k4.trans (b5.mono k4.size)
  have x5 := carry x4 b5
  have y5 := carry y4 b5
  generalize Sort.grow (redrawn W4 dq4) os4 = W5 at *
  have ⟨r5a, r5b, r5c, r5d⟩ := cells_of x5
  have ⟨s5a, s5b, s5c, s5d⟩ := cells_of y5
  go_wp2_with (go_at_call 17; have k5' := k5; refine (turn_own af ab ax bf bb bx _ (HT.out.next k5)).mono ?_; rintro e W6 ⟨vt, rfl, ownT, b6⟩; have k6 : Below w.heap.size w W6 := k5.trans (b6.mono k5.size); have x6 := carry x5 b6; have y6 := carry y5 b6; have ⟨m6a, m6b, m6c, m6d⟩ := cells_of x6; have ⟨n6a, n6b, n6c, n6d⟩ := cells_of y6; have hIT := own_ints ownT; obtain ⟨gt, capt, rfl⟩ := own_some ownT HTN.out)
  have p60 : ∀ d os, (Sort.grow (redrawn W6 d) os).cell? ⟨w.heap.size, 0, none⟩ = some (.int .i64 af) := fun d os => cell_regrown (cells_of x6).1 d os
  have p61 : ∀ d os, (Sort.grow (redrawn W6 d) os).cell? ⟨w.heap.size, 1, none⟩ = some (.int .i64 ab) := fun d os => cell_regrown (cells_of x6).2.1 d os
  have p62 : ∀ d os, (Sort.grow (redrawn W6 d) os).cell? ⟨w.heap.size, 2, none⟩ = some (.int .i64 ax) := fun d os => cell_regrown (cells_of x6).2.2.1 d os
  have q60 : ∀ d os, (Sort.grow (redrawn W6 d) os).cell? ⟨w.heap.size + 1, 0, none⟩ = some (.int .i64 bf) := fun d os => cell_regrown (cells_of y6).1 d os
  have q61 : ∀ d os, (Sort.grow (redrawn W6 d) os).cell? ⟨w.heap.size + 1, 1, none⟩ = some (.int .i64 bb) := fun d os => cell_regrown (cells_of y6).2.1 d os
  have q62 : ∀ d os, (Sort.grow (redrawn W6 d) os).cell? ⟨w.heap.size + 1, 2, none⟩ = some (.int .i64 bx) := fun d os => cell_regrown (cells_of y6).2.2.1 d os
  have K6 : Hid (∀ d os, Calls Tryd.prog 12 #[.agg #[.int .i64 af, .int .i64 ab, .int .i64 ax], .slice (some ⟨gt, 0, none⟩) (turnOf (af, ab, ax) (bf, bb, bx)).length capt] (Sort.grow (redrawn W6 d) os) fun e w'' => e = .returned (.agg #[.int .i64 bf, .int .i64 bb, .int .i64 bx]) ∧ ∃ p : Regrown, w'' = Sort.grow (redrawn W6 p.d) p.os) := fun d os => Calls.regrown_of (apply_agg af ab ax bf bb bx _ (turnOf (af, ab, ax) (bf, bb, bx)) _ (HT.out.next (k6.trans ((below_regrown W6 d os).mono k6.size))) (hIT.below (below_regrown W6 d os)) (by omega) HW2.out HX2.out)
  refine wp_region_quiet_below (by kernel_rfl) (by kernel_rfl) ?_
  repeat (quiet_step (first | (go_at_call 12; exact K6.out _ _)))
  refine wpQuiet_nil ?_
  intro _ hw'
  obtain ⟨⟨dq6, os6⟩, hw''⟩ := hw'
  subst hw''
  have b7 := below_regrown W6 dq6 os6
  have k7 : Below w.heap.size w (Sort.grow (redrawn W6 dq6) os6) := k6.trans (b7.mono k6.size)
  have x7 := carry x6 b7
  have y7 := carry y6 b7
  generalize Sort.grow (redrawn W6 dq6) os6 = W7 at *
  have ⟨r7a, r7b, r7c, r7d⟩ := cells_of x7
  have ⟨s7a, s7b, s7c, s7d⟩ := cells_of y7
  go_wp2
  go_ret
  exact ⟨rfl, k7⟩
set_option maxHeartbeats 2000000 in
theorem back_ns (af ab ax bf bb bx : Int) (w : World) (hT : Tab w) (hP : P10 w) (ha : isSt (af, ab, ax) = true) (hb : isSt (bf, bb, bx) = true) (hz : (af, ab, ax) ≠ (0, 0, 0)) (hs : (af, ab, ax) = (bf, bb, bx)) :
    Calls Tryd.prog 6 #[.agg #[.int .i64 af, .int .i64 ab, .int .i64 ax], .agg #[.int .i64 bf, .int .i64 bb, .int .i64 bx]] w fun e w' => e = .returned (.bool true) ∧ Below w.heap.size w w' := by
  have HT : Hid (Tab w) := hT
  have HP : Hid (P10 w) := hP
  clear hT hP
  have k0 : Below w.heap.size w ((w.alloc (.cells #[.int .i64 af, .int .i64 ab, .int .i64 ax] 23)).alloc (.cells #[.int .i64 bf, .int .i64 bb, .int .i64 bx] 23)) := ((Below.refl _ _).alloc (Nat.le_refl _) _).alloc (by simp) _
  have x0 : ((w.alloc (.cells #[.int .i64 af, .int .i64 ab, .int .i64 ax] 23)).alloc (.cells #[.int .i64 bf, .int .i64 bb, .int .i64 bx] 23)).heap[w.heap.size]? = some (.cells #[.int .i64 af, .int .i64 ab, .int .i64 ax] 23 (0, 0)) := (Below.heap_alloc _ _ _ (by simp)).trans (heap_alloc_new _ _)
  have y0 := new2 w (.cells #[.int .i64 af, .int .i64 ab, .int .i64 ax] 23) #[.int .i64 bf, .int .i64 bb, .int .i64 bx] 23
  have HA : Hid (isSt (af, ab, ax) = true) := ha
  have HB : Hid (isSt (bf, bb, bx) = true) := hb
  have HN : Hid (numsOf (af, ab, ax) ≠ []) := fun e => hz (nums_nil _ ha e)
  have HW1 : Hid (∀ x ∈ numsOf (af, ab, ax), x ≤ 9223372036854775807) := nums_le _ ha
  have HX1 : Hid (applyT (0, 0, 0) (numsOf (af, ab, ax)) = (af, ab, ax)) := by unfold Hid applyT; rw [if_neg HN.out]; exact nums_to _ ha
  have hnl := nums_len (af, ab, ax)
  have hnp : 0 < (numsOf (af, ab, ax)).length := List.length_pos_iff.2 HN.out
  have he0 : ∀ w, (binOp .neq 23 (.agg #[.int .i64 af, .int .i64 ab, .int .i64 ax]) (.agg #[.int .i64 0, .int .i64 0, .int .i64 0])).run Tryd.prog w = .ok (.bool true) w := fun w => by rw [neq_agg]; rw [decide_eq_false hz]; rfl
  have he1 : ∀ w, (binOp .neq 23 (.agg #[.int .i64 af, .int .i64 ab, .int .i64 ax]) (.agg #[.int .i64 af, .int .i64 ab, .int .i64 ax])).run Tryd.prog w = .ok (.bool false) w := fun w => by rw [neq_agg]; rw [decide_eq_true rfl]; rfl
  have HS : Hid ((af, ab, ax) = (bf, bb, bx)) := hs
  have he2 : ∀ w, (binOp .eql 23 (.agg #[.int .i64 af, .int .i64 ab, .int .i64 ax]) (.agg #[.int .i64 bf, .int .i64 bb, .int .i64 bx])).run Tryd.prog w = .ok (.bool true) w := fun w => by rw [eq_agg, decide_eq_true hs]
  clear ha hb hz hs
  go_enter Tryd.func6, Tryd.ntmps6
  go_wp2_with (first
    | (go_at_call 15; have k3' := k3; refine (numbers_own af ab ax _ (HT.out.next k3)).mono ?_; rintro e W4 ⟨vn, rfl, ownN, _, b4⟩; have k4 : Below w.heap.size w W4 := k3.trans (b4.mono k3.size); have x4 := carry x3 b4; have y4 := carry y3 b4; have ⟨m4a, m4b, m4c, m4d⟩ := cells_of x4; have ⟨n4a, n4b, n4c, n4d⟩ := cells_of y4; have hIN := own_ints ownN; obtain ⟨gn, capn, rfl⟩ := own_some ownN HN.out)
    | (go_at_call 10; have k2' := k2; refine (check_agg bf bb bx _ _ HB.out).mono ?_; rintro e W3 ⟨rfl, b3⟩; have k3 : Below w.heap.size w W3 := k2.trans (b3.mono k2.size); have x3 := carry x2 b3; have y3 := carry y2 b3; have ⟨m3a, m3b, m3c, m3d⟩ := cells_of x3; have ⟨n3a, n3b, n3c, n3d⟩ := cells_of y3)
    | (go_at_call 10; have k1' := k1; refine (check_agg af ab ax _ _ HA.out).mono ?_; rintro e W2 ⟨rfl, b2⟩; have k2 : Below w.heap.size w W2 := k1.trans (b2.mono k1.size); have x2 := carry x1 b2; have y2 := carry y1 b2; have ⟨m2a, m2b, m2c, m2d⟩ := cells_of x2; have ⟨n2a, n2b, n2c, n2d⟩ := cells_of y2)
    | (go_at_call 9; have k0' := k0; refine (looked_any _ (HT.out.next k0) (HP.out.below k0)).mono ?_; rintro e W1 ⟨rfl, b1⟩; have k1 : Below w.heap.size w W1 := k0.trans (b1.mono k0.size); have x1 := carry x0 b1; have y1 := carry y0 b1; have ⟨m1a, m1b, m1c, m1d⟩ := cells_of x1; have ⟨n1a, n1b, n1c, n1d⟩ := cells_of y1))
  have p40 : ∀ d os, (Sort.grow (redrawn W4 d) os).cell? ⟨w.heap.size, 0, none⟩ = some (.int .i64 af) := fun d os => cell_regrown (cells_of x4).1 d os
  have p41 : ∀ d os, (Sort.grow (redrawn W4 d) os).cell? ⟨w.heap.size, 1, none⟩ = some (.int .i64 ab) := fun d os => cell_regrown (cells_of x4).2.1 d os
  have p42 : ∀ d os, (Sort.grow (redrawn W4 d) os).cell? ⟨w.heap.size, 2, none⟩ = some (.int .i64 ax) := fun d os => cell_regrown (cells_of x4).2.2.1 d os
  have q40 : ∀ d os, (Sort.grow (redrawn W4 d) os).cell? ⟨w.heap.size + 1, 0, none⟩ = some (.int .i64 bf) := fun d os => cell_regrown (cells_of y4).1 d os
  have q41 : ∀ d os, (Sort.grow (redrawn W4 d) os).cell? ⟨w.heap.size + 1, 1, none⟩ = some (.int .i64 bb) := fun d os => cell_regrown (cells_of y4).2.1 d os
  have q42 : ∀ d os, (Sort.grow (redrawn W4 d) os).cell? ⟨w.heap.size + 1, 2, none⟩ = some (.int .i64 bx) := fun d os => cell_regrown (cells_of y4).2.2.1 d os
  have K4 : Hid (∀ d os, Calls Tryd.prog 12 #[.agg #[.int .i64 0, .int .i64 0, .int .i64 0], .slice (some ⟨gn, 0, none⟩) (numsOf (af, ab, ax)).length capn] (Sort.grow (redrawn W4 d) os) fun e w'' => e = .returned (.agg #[.int .i64 af, .int .i64 ab, .int .i64 ax]) ∧ ∃ p : Regrown, w'' = Sort.grow (redrawn W4 p.d) p.os) := fun d os => Calls.regrown_of (apply_agg 0 0 0 af ab ax _ (numsOf (af, ab, ax)) _ (HT.out.next (k4.trans ((below_regrown W4 d os).mono k4.size))) (hIN.below (below_regrown W4 d os)) (by omega) HW1.out HX1.out)
  refine wp_region_quiet_below (by kernel_rfl) (by kernel_rfl) ?_
  repeat (quiet_step (first | (go_at_call 12; exact K4.out _ _)))
  refine wpQuiet_nil ?_
  intro _ hw'
  obtain ⟨⟨dq4, os4⟩, hw''⟩ := hw'
  subst hw''
  have b5 := below_regrown W4 dq4 os4
  have k5 : Below w.heap.size w (Sort.grow (redrawn W4 dq4) os4) := k4.trans (b5.mono k4.size)
  have x5 := carry x4 b5
  have y5 := carry y4 b5
  generalize Sort.grow (redrawn W4 dq4) os4 = W5 at *
  have ⟨r5a, r5b, r5c, r5d⟩ := cells_of x5
  have ⟨s5a, s5b, s5c, s5d⟩ := cells_of y5
  go_wp2_with (go_at_call 17; have k5' := k5; refine (turn_same af ab ax bf bb bx _ HS.out).mono ?_; rintro e W6 ⟨rfl, b6⟩; have k6 : Below w.heap.size w W6 := k5.trans (b6.mono k5.size); have x6 := carry x5 b6; have y6 := carry y5 b6; have ⟨m6a, m6b, m6c, m6d⟩ := cells_of x6; have ⟨n6a, n6b, n6c, n6d⟩ := cells_of y6)
  go_ret
  exact ⟨rfl, k6⟩
set_option maxHeartbeats 2000000 in
theorem back_zn (af ab ax bf bb bx : Int) (w : World) (hT : Tab w) (hP : P10 w) (ha : isSt (af, ab, ax) = true) (hb : isSt (bf, bb, bx) = true) (hz : (af, ab, ax) = (0, 0, 0)) (hs : (af, ab, ax) ≠ (bf, bb, bx)) :
    Calls Tryd.prog 6 #[.agg #[.int .i64 af, .int .i64 ab, .int .i64 ax], .agg #[.int .i64 bf, .int .i64 bb, .int .i64 bx]] w fun e w' => e = .returned (.bool true) ∧ Below w.heap.size w w' := by
  have HT : Hid (Tab w) := hT
  have HP : Hid (P10 w) := hP
  clear hT hP
  have k0 : Below w.heap.size w ((w.alloc (.cells #[.int .i64 af, .int .i64 ab, .int .i64 ax] 23)).alloc (.cells #[.int .i64 bf, .int .i64 bb, .int .i64 bx] 23)) := ((Below.refl _ _).alloc (Nat.le_refl _) _).alloc (by simp) _
  have x0 : ((w.alloc (.cells #[.int .i64 af, .int .i64 ab, .int .i64 ax] 23)).alloc (.cells #[.int .i64 bf, .int .i64 bb, .int .i64 bx] 23)).heap[w.heap.size]? = some (.cells #[.int .i64 af, .int .i64 ab, .int .i64 ax] 23 (0, 0)) := (Below.heap_alloc _ _ _ (by simp)).trans (heap_alloc_new _ _)
  have y0 := new2 w (.cells #[.int .i64 af, .int .i64 ab, .int .i64 ax] 23) #[.int .i64 bf, .int .i64 bb, .int .i64 bx] 23
  have HA : Hid (isSt (af, ab, ax) = true) := ha
  have HB : Hid (isSt (bf, bb, bx) = true) := hb
  have HN : Hid (numsOf (af, ab, ax) = []) := by unfold Hid; rw [hz]; exact nums_zero
  have he0 : ∀ w, (binOp .neq 23 (.agg #[.int .i64 af, .int .i64 ab, .int .i64 ax]) (.agg #[.int .i64 0, .int .i64 0, .int .i64 0])).run Tryd.prog w = .ok (.bool false) w := fun w => by rw [neq_agg]; rw [decide_eq_true hz]; rfl
  have HTN : Hid (turnOf (af, ab, ax) (bf, bb, bx) ≠ []) := (turn_to _ _ ha hb hs).2
  have HW2 : Hid (∀ x ∈ turnOf (af, ab, ax) (bf, bb, bx), x ≤ 9223372036854775807) := turn_le _ _ hb
  have HX2 : Hid (applyT (af, ab, ax) (turnOf (af, ab, ax) (bf, bb, bx)) = (bf, bb, bx)) := by unfold Hid applyT; rw [if_neg HTN.out]; exact (turn_to _ _ ha hb hs).1
  have htl := turn_len (af, ab, ax) (bf, bb, bx)
  have htp : 0 < (turnOf (af, ab, ax) (bf, bb, bx)).length := List.length_pos_iff.2 HTN.out
  have he3 : ∀ w, (binOp .eql 23 (.agg #[.int .i64 bf, .int .i64 bb, .int .i64 bx]) (.agg #[.int .i64 bf, .int .i64 bb, .int .i64 bx])).run Tryd.prog w = .ok (.bool true) w := fun w => by rw [eq_agg, decide_eq_true rfl]
  clear ha hb hz hs
  go_enter Tryd.func6, Tryd.ntmps6
  go_wp2_with (first
    | (go_at_call 15; have k3' := k3; refine (numbers_own af ab ax _ (HT.out.next k3)).mono ?_; rintro e W4 ⟨vn, rfl, _, nilN, b4⟩; have k4 : Below w.heap.size w W4 := k3.trans (b4.mono k3.size); have x4 := carry x3 b4; have y4 := carry y3 b4; have ⟨m4a, m4b, m4c, m4d⟩ := cells_of x4; have ⟨n4a, n4b, n4c, n4d⟩ := cells_of y4; obtain rfl := nilN HN.out)
    | (go_at_call 10; have k2' := k2; refine (check_agg bf bb bx _ _ HB.out).mono ?_; rintro e W3 ⟨rfl, b3⟩; have k3 : Below w.heap.size w W3 := k2.trans (b3.mono k2.size); have x3 := carry x2 b3; have y3 := carry y2 b3; have ⟨m3a, m3b, m3c, m3d⟩ := cells_of x3; have ⟨n3a, n3b, n3c, n3d⟩ := cells_of y3)
    | (go_at_call 10; have k1' := k1; refine (check_agg af ab ax _ _ HA.out).mono ?_; rintro e W2 ⟨rfl, b2⟩; have k2 : Below w.heap.size w W2 := k1.trans (b2.mono k1.size); have x2 := carry x1 b2; have y2 := carry y1 b2; have ⟨m2a, m2b, m2c, m2d⟩ := cells_of x2; have ⟨n2a, n2b, n2c, n2d⟩ := cells_of y2)
    | (go_at_call 9; have k0' := k0; refine (looked_any _ (HT.out.next k0) (HP.out.below k0)).mono ?_; rintro e W1 ⟨rfl, b1⟩; have k1 : Below w.heap.size w W1 := k0.trans (b1.mono k0.size); have x1 := carry x0 b1; have y1 := carry y0 b1; have ⟨m1a, m1b, m1c, m1d⟩ := cells_of x1; have ⟨n1a, n1b, n1c, n1d⟩ := cells_of y1))
  have p40 : ∀ d os, (Sort.grow (redrawn W4 d) os).cell? ⟨w.heap.size, 0, none⟩ = some (.int .i64 af) := fun d os => cell_regrown (cells_of x4).1 d os
  have p41 : ∀ d os, (Sort.grow (redrawn W4 d) os).cell? ⟨w.heap.size, 1, none⟩ = some (.int .i64 ab) := fun d os => cell_regrown (cells_of x4).2.1 d os
  have p42 : ∀ d os, (Sort.grow (redrawn W4 d) os).cell? ⟨w.heap.size, 2, none⟩ = some (.int .i64 ax) := fun d os => cell_regrown (cells_of x4).2.2.1 d os
  have q40 : ∀ d os, (Sort.grow (redrawn W4 d) os).cell? ⟨w.heap.size + 1, 0, none⟩ = some (.int .i64 bf) := fun d os => cell_regrown (cells_of y4).1 d os
  have q41 : ∀ d os, (Sort.grow (redrawn W4 d) os).cell? ⟨w.heap.size + 1, 1, none⟩ = some (.int .i64 bb) := fun d os => cell_regrown (cells_of y4).2.1 d os
  have q42 : ∀ d os, (Sort.grow (redrawn W4 d) os).cell? ⟨w.heap.size + 1, 2, none⟩ = some (.int .i64 bx) := fun d os => cell_regrown (cells_of y4).2.2.1 d os
  refine wp_region_quiet_below (by kernel_rfl) (by kernel_rfl) ?_
  repeat (quiet_step (fail))
  refine wpQuiet_nil ?_
  intro _ hw'
  obtain ⟨⟨dq4, os4⟩, hw''⟩ := hw'
  subst hw''
  have b5 := below_regrown W4 dq4 os4
  have k5 : Below w.heap.size w (Sort.grow (redrawn W4 dq4) os4) := k4.trans (b5.mono k4.size)
  have x5 := carry x4 b5
  have y5 := carry y4 b5
  generalize Sort.grow (redrawn W4 dq4) os4 = W5 at *
  have ⟨r5a, r5b, r5c, r5d⟩ := cells_of x5
  have ⟨s5a, s5b, s5c, s5d⟩ := cells_of y5
  go_wp2_with (go_at_call 17; have k5' := k5; refine (turn_own af ab ax bf bb bx _ (HT.out.next k5)).mono ?_; rintro e W6 ⟨vt, rfl, ownT, b6⟩; have k6 : Below w.heap.size w W6 := k5.trans (b6.mono k5.size); have x6 := carry x5 b6; have y6 := carry y5 b6; have ⟨m6a, m6b, m6c, m6d⟩ := cells_of x6; have ⟨n6a, n6b, n6c, n6d⟩ := cells_of y6; have hIT := own_ints ownT; obtain ⟨gt, capt, rfl⟩ := own_some ownT HTN.out)
  have p60 : ∀ d os, (Sort.grow (redrawn W6 d) os).cell? ⟨w.heap.size, 0, none⟩ = some (.int .i64 af) := fun d os => cell_regrown (cells_of x6).1 d os
  have p61 : ∀ d os, (Sort.grow (redrawn W6 d) os).cell? ⟨w.heap.size, 1, none⟩ = some (.int .i64 ab) := fun d os => cell_regrown (cells_of x6).2.1 d os
  have p62 : ∀ d os, (Sort.grow (redrawn W6 d) os).cell? ⟨w.heap.size, 2, none⟩ = some (.int .i64 ax) := fun d os => cell_regrown (cells_of x6).2.2.1 d os
  have q60 : ∀ d os, (Sort.grow (redrawn W6 d) os).cell? ⟨w.heap.size + 1, 0, none⟩ = some (.int .i64 bf) := fun d os => cell_regrown (cells_of y6).1 d os
  have q61 : ∀ d os, (Sort.grow (redrawn W6 d) os).cell? ⟨w.heap.size + 1, 1, none⟩ = some (.int .i64 bb) := fun d os => cell_regrown (cells_of y6).2.1 d os
  have q62 : ∀ d os, (Sort.grow (redrawn W6 d) os).cell? ⟨w.heap.size + 1, 2, none⟩ = some (.int .i64 bx) := fun d os => cell_regrown (cells_of y6).2.2.1 d os
  have K6 : Hid (∀ d os, Calls Tryd.prog 12 #[.agg #[.int .i64 af, .int .i64 ab, .int .i64 ax], .slice (some ⟨gt, 0, none⟩) (turnOf (af, ab, ax) (bf, bb, bx)).length capt] (Sort.grow (redrawn W6 d) os) fun e w'' => e = .returned (.agg #[.int .i64 bf, .int .i64 bb, .int .i64 bx]) ∧ ∃ p : Regrown, w'' = Sort.grow (redrawn W6 p.d) p.os) := fun d os => Calls.regrown_of (apply_agg af ab ax bf bb bx _ (turnOf (af, ab, ax) (bf, bb, bx)) _ (HT.out.next (k6.trans ((below_regrown W6 d os).mono k6.size))) (hIT.below (below_regrown W6 d os)) (by omega) HW2.out HX2.out)
  refine wp_region_quiet_below (by kernel_rfl) (by kernel_rfl) ?_
  repeat (quiet_step (first | (go_at_call 12; exact K6.out _ _)))
  refine wpQuiet_nil ?_
  intro _ hw'
  obtain ⟨⟨dq6, os6⟩, hw''⟩ := hw'
  subst hw''
  have b7 := below_regrown W6 dq6 os6
  have k7 : Below w.heap.size w (Sort.grow (redrawn W6 dq6) os6) := k6.trans (b7.mono k6.size)
  have x7 := carry x6 b7
  have y7 := carry y6 b7
  generalize Sort.grow (redrawn W6 dq6) os6 = W7 at *
  have ⟨r7a, r7b, r7c, r7d⟩ := cells_of x7
  have ⟨s7a, s7b, s7c, s7d⟩ := cells_of y7
  go_wp2
  go_ret
  exact ⟨rfl, k7⟩
set_option maxHeartbeats 2000000 in
theorem back_zs (af ab ax bf bb bx : Int) (w : World) (hT : Tab w) (hP : P10 w) (ha : isSt (af, ab, ax) = true) (hb : isSt (bf, bb, bx) = true) (hz : (af, ab, ax) = (0, 0, 0)) (hs : (af, ab, ax) = (bf, bb, bx)) :
    Calls Tryd.prog 6 #[.agg #[.int .i64 af, .int .i64 ab, .int .i64 ax], .agg #[.int .i64 bf, .int .i64 bb, .int .i64 bx]] w fun e w' => e = .returned (.bool true) ∧ Below w.heap.size w w' := by
  have HT : Hid (Tab w) := hT
  have HP : Hid (P10 w) := hP
  clear hT hP
  have k0 : Below w.heap.size w ((w.alloc (.cells #[.int .i64 af, .int .i64 ab, .int .i64 ax] 23)).alloc (.cells #[.int .i64 bf, .int .i64 bb, .int .i64 bx] 23)) := ((Below.refl _ _).alloc (Nat.le_refl _) _).alloc (by simp) _
  have x0 : ((w.alloc (.cells #[.int .i64 af, .int .i64 ab, .int .i64 ax] 23)).alloc (.cells #[.int .i64 bf, .int .i64 bb, .int .i64 bx] 23)).heap[w.heap.size]? = some (.cells #[.int .i64 af, .int .i64 ab, .int .i64 ax] 23 (0, 0)) := (Below.heap_alloc _ _ _ (by simp)).trans (heap_alloc_new _ _)
  have y0 := new2 w (.cells #[.int .i64 af, .int .i64 ab, .int .i64 ax] 23) #[.int .i64 bf, .int .i64 bb, .int .i64 bx] 23
  have HA : Hid (isSt (af, ab, ax) = true) := ha
  have HB : Hid (isSt (bf, bb, bx) = true) := hb
  have HN : Hid (numsOf (af, ab, ax) = []) := by unfold Hid; rw [hz]; exact nums_zero
  have he0 : ∀ w, (binOp .neq 23 (.agg #[.int .i64 af, .int .i64 ab, .int .i64 ax]) (.agg #[.int .i64 0, .int .i64 0, .int .i64 0])).run Tryd.prog w = .ok (.bool false) w := fun w => by rw [neq_agg]; rw [decide_eq_true hz]; rfl
  have HS : Hid ((af, ab, ax) = (bf, bb, bx)) := hs
  have he2 : ∀ w, (binOp .eql 23 (.agg #[.int .i64 af, .int .i64 ab, .int .i64 ax]) (.agg #[.int .i64 bf, .int .i64 bb, .int .i64 bx])).run Tryd.prog w = .ok (.bool true) w := fun w => by rw [eq_agg, decide_eq_true hs]
  clear ha hb hz hs
  go_enter Tryd.func6, Tryd.ntmps6
  go_wp2_with (first
    | (go_at_call 15; have k3' := k3; refine (numbers_own af ab ax _ (HT.out.next k3)).mono ?_; rintro e W4 ⟨vn, rfl, _, nilN, b4⟩; have k4 : Below w.heap.size w W4 := k3.trans (b4.mono k3.size); have x4 := carry x3 b4; have y4 := carry y3 b4; have ⟨m4a, m4b, m4c, m4d⟩ := cells_of x4; have ⟨n4a, n4b, n4c, n4d⟩ := cells_of y4; obtain rfl := nilN HN.out)
    | (go_at_call 10; have k2' := k2; refine (check_agg bf bb bx _ _ HB.out).mono ?_; rintro e W3 ⟨rfl, b3⟩; have k3 : Below w.heap.size w W3 := k2.trans (b3.mono k2.size); have x3 := carry x2 b3; have y3 := carry y2 b3; have ⟨m3a, m3b, m3c, m3d⟩ := cells_of x3; have ⟨n3a, n3b, n3c, n3d⟩ := cells_of y3)
    | (go_at_call 10; have k1' := k1; refine (check_agg af ab ax _ _ HA.out).mono ?_; rintro e W2 ⟨rfl, b2⟩; have k2 : Below w.heap.size w W2 := k1.trans (b2.mono k1.size); have x2 := carry x1 b2; have y2 := carry y1 b2; have ⟨m2a, m2b, m2c, m2d⟩ := cells_of x2; have ⟨n2a, n2b, n2c, n2d⟩ := cells_of y2)
    | (go_at_call 9; have k0' := k0; refine (looked_any _ (HT.out.next k0) (HP.out.below k0)).mono ?_; rintro e W1 ⟨rfl, b1⟩; have k1 : Below w.heap.size w W1 := k0.trans (b1.mono k0.size); have x1 := carry x0 b1; have y1 := carry y0 b1; have ⟨m1a, m1b, m1c, m1d⟩ := cells_of x1; have ⟨n1a, n1b, n1c, n1d⟩ := cells_of y1))
  have p40 : ∀ d os, (Sort.grow (redrawn W4 d) os).cell? ⟨w.heap.size, 0, none⟩ = some (.int .i64 af) := fun d os => cell_regrown (cells_of x4).1 d os
  have p41 : ∀ d os, (Sort.grow (redrawn W4 d) os).cell? ⟨w.heap.size, 1, none⟩ = some (.int .i64 ab) := fun d os => cell_regrown (cells_of x4).2.1 d os
  have p42 : ∀ d os, (Sort.grow (redrawn W4 d) os).cell? ⟨w.heap.size, 2, none⟩ = some (.int .i64 ax) := fun d os => cell_regrown (cells_of x4).2.2.1 d os
  have q40 : ∀ d os, (Sort.grow (redrawn W4 d) os).cell? ⟨w.heap.size + 1, 0, none⟩ = some (.int .i64 bf) := fun d os => cell_regrown (cells_of y4).1 d os
  have q41 : ∀ d os, (Sort.grow (redrawn W4 d) os).cell? ⟨w.heap.size + 1, 1, none⟩ = some (.int .i64 bb) := fun d os => cell_regrown (cells_of y4).2.1 d os
  have q42 : ∀ d os, (Sort.grow (redrawn W4 d) os).cell? ⟨w.heap.size + 1, 2, none⟩ = some (.int .i64 bx) := fun d os => cell_regrown (cells_of y4).2.2.1 d os
  refine wp_region_quiet_below (by kernel_rfl) (by kernel_rfl) ?_
  repeat (quiet_step (fail))
  refine wpQuiet_nil ?_
  intro _ hw'
  obtain ⟨⟨dq4, os4⟩, hw''⟩ := hw'
  subst hw''
  have b5 := below_regrown W4 dq4 os4
  have k5 : Below w.heap.size w (Sort.grow (redrawn W4 dq4) os4) := k4.trans (b5.mono k4.size)
  have x5 := carry x4 b5
  have y5 := carry y4 b5
  generalize Sort.grow (redrawn W4 dq4) os4 = W5 at *
  have ⟨r5a, r5b, r5c, r5d⟩ := cells_of x5
  have ⟨s5a, s5b, s5c, s5d⟩ := cells_of y5
  go_wp2_with (go_at_call 17; have k5' := k5; refine (turn_same af ab ax bf bb bx _ HS.out).mono ?_; rintro e W6 ⟨rfl, b6⟩; have k6 : Below w.heap.size w W6 := k5.trans (b6.mono k5.size); have x6 := carry x5 b6; have y6 := carry y5 b6; have ⟨m6a, m6b, m6c, m6d⟩ := cells_of x6; have ⟨n6a, n6b, n6c, n6d⟩ := cells_of y6)
  go_ret
  exact ⟨rfl, k6⟩
theorem styleBack_walk (af ab ax bf bb bx : Int) (w : World) (hT : Tab w) (hP : P10 w) :
    Calls Tryd.prog 6 #[.agg #[.int .i64 af, .int .i64 ab, .int .i64 ax], .agg #[.int .i64 bf, .int .i64 bb, .int .i64 bx]] w fun e w' => e = .returned (.bool true) ∧ Below w.heap.size w w' := by
  cases ha : isSt (af, ab, ax) with
  | false => exact back_bad1 af ab ax bf bb bx w hT hP ha
  | true =>
    cases hb : isSt (bf, bb, bx) with
    | false => exact back_bad2 af ab ax bf bb bx w hT hP ha hb
    | true =>
      by_cases hz : (af, ab, ax) = (0, 0, 0)
      · by_cases hs : (af, ab, ax) = (bf, bb, bx)
        · exact back_zs af ab ax bf bb bx w hT hP ha hb hz hs
        · exact back_zn af ab ax bf bb bx w hT hP ha hb hz hs
      · by_cases hs : (af, ab, ax) = (bf, bb, bx)
        · exact back_ns af ab ax bf bb bx w hT hP ha hb hz hs
        · exact back_nn af ab ax bf bb bx w hT hP ha hb hz hs
end Sty
end Go.Proofs.YtfjbngipidimmaaDoor
