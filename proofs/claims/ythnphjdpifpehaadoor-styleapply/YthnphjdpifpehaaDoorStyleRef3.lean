/- The walk of the reference's TurnOf. -/
import Derived.Test.YthnphjdpifpehaaDoorStyleRef2
import Derived.Laws.AppendOwnNone
namespace Go.Proofs.YthnphjdpifpehaaDoor
open Go.ChangeShapes Go.WideShapes Go.ChangeAt Go.RowKit
namespace Sty
set_option maxHeartbeats 1000000 in
theorem tref_same (af ab ax bf bb bx : Int) (w : World) (hne : (af, ab, ax) = (bf, bb, bx)) :
    Calls Tryd.prog 15 #[.agg #[.int .i64 af, .int .i64 ab, .int .i64 ax], .agg #[.int .i64 bf, .int .i64 bb, .int .i64 bx]] w fun e w' => e = .returned (.slice none 0 0) ∧ Below w.heap.size w w' := by
  have x0 : ((w.alloc (.cells #[.int .i64 af, .int .i64 ab, .int .i64 ax] 23)).alloc (.cells #[.int .i64 bf, .int .i64 bb, .int .i64 bx] 23)).heap[w.heap.size]? = some (.cells #[.int .i64 af, .int .i64 ab, .int .i64 ax] 23 (0, 0)) := (Below.heap_alloc _ _ _ (by simp)).trans (heap_alloc_new _ _)
  have y0 : ((w.alloc (.cells #[.int .i64 af, .int .i64 ab, .int .i64 ax] 23)).alloc (.cells #[.int .i64 bf, .int .i64 bb, .int .i64 bx] 23)).heap[w.heap.size + 1]? = some (.cells #[.int .i64 bf, .int .i64 bb, .int .i64 bx] 23 (0, 0)) := new2 w _ _ _
  have kw : Below w.heap.size w ((w.alloc (.cells #[.int .i64 af, .int .i64 ab, .int .i64 ax] 23)).alloc (.cells #[.int .i64 bf, .int .i64 bb, .int .i64 bx] 23)) := ((Below.refl _ _).alloc (Nat.le_refl _) _).alloc (by simp) _
  have he1 : ∀ w, (binOp .eql 23 (.agg #[.int .i64 af, .int .i64 ab, .int .i64 ax]) (.agg #[.int .i64 bf, .int .i64 bb, .int .i64 bx])).run Tryd.prog w = .ok (.bool true) w := fun w => by rw [eq_agg, decide_eq_true hne]
  clear hne x0 y0
  go_enter Tryd.func15, Tryd.ntmps15
  go_wp2_with fail
  go_ret
  exact ⟨rfl, kw⟩
set_option maxHeartbeats 1000000 in
theorem tref_bad1 (af ab ax bf bb bx : Int) (w : World) (hne : (af, ab, ax) ≠ (bf, bb, bx)) (ha : isSt (af, ab, ax) = false) :
    Calls Tryd.prog 15 #[.agg #[.int .i64 af, .int .i64 ab, .int .i64 ax], .agg #[.int .i64 bf, .int .i64 bb, .int .i64 bx]] w fun e w' => e = .returned (.slice none 0 0) ∧ Below w.heap.size w w' := by
  have x0 : ((w.alloc (.cells #[.int .i64 af, .int .i64 ab, .int .i64 ax] 23)).alloc (.cells #[.int .i64 bf, .int .i64 bb, .int .i64 bx] 23)).heap[w.heap.size]? = some (.cells #[.int .i64 af, .int .i64 ab, .int .i64 ax] 23 (0, 0)) := (Below.heap_alloc _ _ _ (by simp)).trans (heap_alloc_new _ _)
  have y0 : ((w.alloc (.cells #[.int .i64 af, .int .i64 ab, .int .i64 ax] 23)).alloc (.cells #[.int .i64 bf, .int .i64 bb, .int .i64 bx] 23)).heap[w.heap.size + 1]? = some (.cells #[.int .i64 bf, .int .i64 bb, .int .i64 bx] 23 (0, 0)) := new2 w _ _ _
  have kw : Below w.heap.size w ((w.alloc (.cells #[.int .i64 af, .int .i64 ab, .int .i64 ax] 23)).alloc (.cells #[.int .i64 bf, .int .i64 bb, .int .i64 bx] 23)) := ((Below.refl _ _).alloc (Nat.le_refl _) _).alloc (by simp) _
  have he1 : ∀ w, (binOp .eql 23 (.agg #[.int .i64 af, .int .i64 ab, .int .i64 ax]) (.agg #[.int .i64 bf, .int .i64 bb, .int .i64 bx])).run Tryd.prog w = .ok (.bool false) w := fun w => by rw [eq_agg, decide_eq_false hne]
  have HA : Hid (isSt (af, ab, ax) = false) := ha
  clear hne ha
  go_enter Tryd.func15, Tryd.ntmps15
  go_wp2_with (first
    | (go_at_call 8; refine (isStyle_agg af ab ax _ _ HA.out).mono ?_; rintro e W1 ⟨rfl, b1⟩; have kk1 : Below (w.heap.size + 2) ((w.alloc (.cells #[.int .i64 af, .int .i64 ab, .int .i64 ax] 23)).alloc (.cells #[.int .i64 bf, .int .i64 bb, .int .i64 bx] 23)) W1 := b1.mono (by simp); have s1 : w.heap.size + 2 ≤ W1.heap.size := (by have := b1.size; simp at this; omega); have x1 : W1.heap[w.heap.size]? = _ := (kk1.block _ (by omega)).trans x0; have y1 : W1.heap[w.heap.size + 1]? = _ := (kk1.block _ (by omega)).trans y0; have ⟨m1a, m1b, m1c, m1d⟩ := cells_of x1; have ⟨n1a, n1b, n1c, n1d⟩ := cells_of y1))
  go_ret
  exact ⟨rfl, kw.trans (kk1.mono (by omega))⟩
set_option maxHeartbeats 1000000 in
theorem tref_bad2 (af ab ax bf bb bx : Int) (w : World) (hne : (af, ab, ax) ≠ (bf, bb, bx)) (ha : isSt (af, ab, ax) = true) (hb : isSt (bf, bb, bx) = false) :
    Calls Tryd.prog 15 #[.agg #[.int .i64 af, .int .i64 ab, .int .i64 ax], .agg #[.int .i64 bf, .int .i64 bb, .int .i64 bx]] w fun e w' => e = .returned (.slice none 0 0) ∧ Below w.heap.size w w' := by
  have x0 : ((w.alloc (.cells #[.int .i64 af, .int .i64 ab, .int .i64 ax] 23)).alloc (.cells #[.int .i64 bf, .int .i64 bb, .int .i64 bx] 23)).heap[w.heap.size]? = some (.cells #[.int .i64 af, .int .i64 ab, .int .i64 ax] 23 (0, 0)) := (Below.heap_alloc _ _ _ (by simp)).trans (heap_alloc_new _ _)
  have y0 : ((w.alloc (.cells #[.int .i64 af, .int .i64 ab, .int .i64 ax] 23)).alloc (.cells #[.int .i64 bf, .int .i64 bb, .int .i64 bx] 23)).heap[w.heap.size + 1]? = some (.cells #[.int .i64 bf, .int .i64 bb, .int .i64 bx] 23 (0, 0)) := new2 w _ _ _
  have kw : Below w.heap.size w ((w.alloc (.cells #[.int .i64 af, .int .i64 ab, .int .i64 ax] 23)).alloc (.cells #[.int .i64 bf, .int .i64 bb, .int .i64 bx] 23)) := ((Below.refl _ _).alloc (Nat.le_refl _) _).alloc (by simp) _
  have he1 : ∀ w, (binOp .eql 23 (.agg #[.int .i64 af, .int .i64 ab, .int .i64 ax]) (.agg #[.int .i64 bf, .int .i64 bb, .int .i64 bx])).run Tryd.prog w = .ok (.bool false) w := fun w => by rw [eq_agg, decide_eq_false hne]
  have HA : Hid (isSt (af, ab, ax) = true) := ha
  have HB : Hid (isSt (bf, bb, bx) = false) := hb
  clear hne ha hb
  go_enter Tryd.func15, Tryd.ntmps15
  go_wp2_with (first
    | (go_at_call 8; have kk1' := kk1; refine (isStyle_agg bf bb bx _ _ HB.out).mono ?_; rintro e W2 ⟨rfl, b2⟩; have s2 := b2.size; have kk2 : Below (w.heap.size + 2) ((w.alloc (.cells #[.int .i64 af, .int .i64 ab, .int .i64 ax] 23)).alloc (.cells #[.int .i64 bf, .int .i64 bb, .int .i64 bx] 23)) W2 := kk1.trans (b2.mono (by omega)); have x2 : W2.heap[w.heap.size]? = _ := (kk2.block _ (by omega)).trans x0; have y2 : W2.heap[w.heap.size + 1]? = _ := (kk2.block _ (by omega)).trans y0; have ⟨m2a, m2b, m2c, m2d⟩ := cells_of x2; have ⟨n2a, n2b, n2c, n2d⟩ := cells_of y2)
    | (go_at_call 8; refine (isStyle_agg af ab ax _ _ HA.out).mono ?_; rintro e W1 ⟨rfl, b1⟩; have kk1 : Below (w.heap.size + 2) ((w.alloc (.cells #[.int .i64 af, .int .i64 ab, .int .i64 ax] 23)).alloc (.cells #[.int .i64 bf, .int .i64 bb, .int .i64 bx] 23)) W1 := b1.mono (by simp); have s1 : w.heap.size + 2 ≤ W1.heap.size := (by have := b1.size; simp at this; omega); have x1 : W1.heap[w.heap.size]? = _ := (kk1.block _ (by omega)).trans x0; have y1 : W1.heap[w.heap.size + 1]? = _ := (kk1.block _ (by omega)).trans y0; have ⟨m1a, m1b, m1c, m1d⟩ := cells_of x1; have ⟨n1a, n1b, n1c, n1d⟩ := cells_of y1))
  go_ret
  exact ⟨rfl, kw.trans (kk2.mono (by omega))⟩
set_option maxHeartbeats 1000000 in
theorem tref_00 (af ab ax bx : Int) (w : World) (hne : (af, ab, ax) ≠ (af, ab, bx)) (ha : isSt (af, ab, ax) = true) (hb : isSt (af, ab, bx) = true) (hz : (af, ab, bx) ≠ (0, 0, 0)) (hbits : (bits .andNot .i64 ax bx != 0) = false) :
    Calls Tryd.prog 15 #[.agg #[.int .i64 af, .int .i64 ab, .int .i64 ax], .agg #[.int .i64 af, .int .i64 ab, .int .i64 bx]] w fun e w' => ∃ v', e = .returned v' ∧ w'.ownsRow w.heap.size 3 1 v' (bitsL ax bx looks).length (vals (bitsL ax bx looks)) ∧ Below w.heap.size w w' := by
  have x0 : ((w.alloc (.cells #[.int .i64 af, .int .i64 ab, .int .i64 ax] 23)).alloc (.cells #[.int .i64 af, .int .i64 ab, .int .i64 bx] 23)).heap[w.heap.size]? = some (.cells #[.int .i64 af, .int .i64 ab, .int .i64 ax] 23 (0, 0)) := (Below.heap_alloc _ _ _ (by simp)).trans (heap_alloc_new _ _)
  have y0 : ((w.alloc (.cells #[.int .i64 af, .int .i64 ab, .int .i64 ax] 23)).alloc (.cells #[.int .i64 af, .int .i64 ab, .int .i64 bx] 23)).heap[w.heap.size + 1]? = some (.cells #[.int .i64 af, .int .i64 ab, .int .i64 bx] 23 (0, 0)) := new2 w _ _ _
  have kw : Below w.heap.size w ((w.alloc (.cells #[.int .i64 af, .int .i64 ab, .int .i64 ax] 23)).alloc (.cells #[.int .i64 af, .int .i64 ab, .int .i64 bx] 23)) := ((Below.refl _ _).alloc (Nat.le_refl _) _).alloc (by simp) _
  obtain ⟨i0, hi, hz0, hz1, hz2⟩ := info_parts info_int
  have HA : Hid (isSt (af, ab, ax) = true) := ha
  have HB : Hid (isSt (af, ab, bx) = true) := hb
  have hia := (isSt_iff _).1 ha
  have hib := (isSt_iff _).1 hb
  dsimp only at hia hib
  obtain ⟨a1, a2, a3, a4, a5, a6⟩ := hia
  obtain ⟨c1, c2, c3, c4, c5, c6⟩ := hib
  have hrt := ref_turn ax bx a5 a6 c5 c6
  have he1 : ∀ w, (binOp .eql 23 (.agg #[.int .i64 af, .int .i64 ab, .int .i64 ax]) (.agg #[.int .i64 af, .int .i64 ab, .int .i64 bx])).run Tryd.prog w = .ok (.bool false) w := fun w => by rw [eq_agg, decide_eq_false hne]
  have he2 : ∀ w, (binOp .eql 23 (.agg #[.int .i64 af, .int .i64 ab, .int .i64 bx]) (.agg #[.int .i64 0, .int .i64 0, .int .i64 0])).run Tryd.prog w = .ok (.bool false) w := fun w => by rw [eq_agg, decide_eq_false hz]
  have hq : (bits .and .i64 ax (127 - bx) != 0) = false := by rw [hrt.2]; exact hbits
  have HBT : Hid (refL (bits .and .i64 bx (127 - ax)) idx = bitsL ax bx looks) := hrt.1
  have n1 := bit_len ax bx
  have n2 := col_len af 0
  have n3 := col_len ab 10
  clear hne ha hb hz hbits hrt
  go_enter Tryd.func15, Tryd.ntmps15
  go_wp2_with (first
    | (go_at_call 22; have kk2' := kk2; refine (bitsOf_own (bits .and .i64 bx (127 - ax)) W2).mono ?_; rintro e W3 ⟨v3, rfl, own3, _, b3⟩; have s3 := b3.size; have kk3 : Below (w.heap.size + 2) ((w.alloc (.cells #[.int .i64 af, .int .i64 ab, .int .i64 ax] 23)).alloc (.cells #[.int .i64 af, .int .i64 ab, .int .i64 bx] 23)) W3 := kk2.trans (b3.mono (by omega)); have x3 : W3.heap[w.heap.size]? = _ := (kk3.block _ (by omega)).trans x0; have y3 : W3.heap[w.heap.size + 1]? = _ := (kk3.block _ (by omega)).trans y0; have ⟨m3a, m3b, m3c, m3d⟩ := cells_of x3; have ⟨n3a, n3b, n3c, n3d⟩ := cells_of y3; have own3' := own_mono own3 (show w.heap.size + 2 ≤ W2.heap.size by omega); rw [HBT.out] at own3')
    | (go_at_call 8; have kk1' := kk1; refine (isStyle_agg af ab bx _ _ HB.out).mono ?_; rintro e W2 ⟨rfl, b2⟩; have s2 := b2.size; have kk2 : Below (w.heap.size + 2) ((w.alloc (.cells #[.int .i64 af, .int .i64 ab, .int .i64 ax] 23)).alloc (.cells #[.int .i64 af, .int .i64 ab, .int .i64 bx] 23)) W2 := kk1.trans (b2.mono (by omega)); have x2 : W2.heap[w.heap.size]? = _ := (kk2.block _ (by omega)).trans x0; have y2 : W2.heap[w.heap.size + 1]? = _ := (kk2.block _ (by omega)).trans y0; have ⟨m2a, m2b, m2c, m2d⟩ := cells_of x2; have ⟨n2a, n2b, n2c, n2d⟩ := cells_of y2)
    | (go_at_call 8; refine (isStyle_agg af ab ax _ _ HA.out).mono ?_; rintro e W1 ⟨rfl, b1⟩; have kk1 : Below (w.heap.size + 2) ((w.alloc (.cells #[.int .i64 af, .int .i64 ab, .int .i64 ax] 23)).alloc (.cells #[.int .i64 af, .int .i64 ab, .int .i64 bx] 23)) W1 := b1.mono (by simp); have s1 : w.heap.size + 2 ≤ W1.heap.size := (by have := b1.size; simp at this; omega); have x1 : W1.heap[w.heap.size]? = _ := (kk1.block _ (by omega)).trans x0; have y1 : W1.heap[w.heap.size + 1]? = _ := (kk1.block _ (by omega)).trans y0; have ⟨m1a, m1b, m1c, m1d⟩ := cells_of x1; have ⟨n1a, n1b, n1c, n1d⟩ := cells_of y1))
  go_ret
  exact ⟨_, rfl, by have h := own_mono own3' (show w.heap.size ≤ w.heap.size + 2 by omega); simpa [vals, Nat.add_assoc] using h, kw.trans (kk3.mono (by omega))⟩
set_option maxHeartbeats 1000000 in
theorem tref_f0 (af ab ax bf bx : Int) (w : World) (hne : (af, ab, ax) ≠ (bf, ab, bx)) (ha : isSt (af, ab, ax) = true) (hb : isSt (bf, ab, bx) = true) (hz : (bf, ab, bx) ≠ (0, 0, 0)) (hbits : (bits .andNot .i64 ax bx != 0) = false) (ef : bf ≠ af) :
    Calls Tryd.prog 15 #[.agg #[.int .i64 af, .int .i64 ab, .int .i64 ax], .agg #[.int .i64 bf, .int .i64 ab, .int .i64 bx]] w fun e w' => ∃ v', e = .returned v' ∧ w'.ownsRow w.heap.size 3 1 v' (bitsL ax bx looks ++ colL bf 0).length (vals (bitsL ax bx looks ++ colL bf 0)) ∧ Below w.heap.size w w' := by
  have x0 : ((w.alloc (.cells #[.int .i64 af, .int .i64 ab, .int .i64 ax] 23)).alloc (.cells #[.int .i64 bf, .int .i64 ab, .int .i64 bx] 23)).heap[w.heap.size]? = some (.cells #[.int .i64 af, .int .i64 ab, .int .i64 ax] 23 (0, 0)) := (Below.heap_alloc _ _ _ (by simp)).trans (heap_alloc_new _ _)
  have y0 : ((w.alloc (.cells #[.int .i64 af, .int .i64 ab, .int .i64 ax] 23)).alloc (.cells #[.int .i64 bf, .int .i64 ab, .int .i64 bx] 23)).heap[w.heap.size + 1]? = some (.cells #[.int .i64 bf, .int .i64 ab, .int .i64 bx] 23 (0, 0)) := new2 w _ _ _
  have kw : Below w.heap.size w ((w.alloc (.cells #[.int .i64 af, .int .i64 ab, .int .i64 ax] 23)).alloc (.cells #[.int .i64 bf, .int .i64 ab, .int .i64 bx] 23)) := ((Below.refl _ _).alloc (Nat.le_refl _) _).alloc (by simp) _
  obtain ⟨i0, hi, hz0, hz1, hz2⟩ := info_parts info_int
  have HA : Hid (isSt (af, ab, ax) = true) := ha
  have HB : Hid (isSt (bf, ab, bx) = true) := hb
  have hia := (isSt_iff _).1 ha
  have hib := (isSt_iff _).1 hb
  dsimp only at hia hib
  obtain ⟨a1, a2, a3, a4, a5, a6⟩ := hia
  obtain ⟨c1, c2, c3, c4, c5, c6⟩ := hib
  have hrt := ref_turn ax bx a5 a6 c5 c6
  have he1 : ∀ w, (binOp .eql 23 (.agg #[.int .i64 af, .int .i64 ab, .int .i64 ax]) (.agg #[.int .i64 bf, .int .i64 ab, .int .i64 bx])).run Tryd.prog w = .ok (.bool false) w := fun w => by rw [eq_agg, decide_eq_false hne]
  have he2 : ∀ w, (binOp .eql 23 (.agg #[.int .i64 bf, .int .i64 ab, .int .i64 bx]) (.agg #[.int .i64 0, .int .i64 0, .int .i64 0])).run Tryd.prog w = .ok (.bool false) w := fun w => by rw [eq_agg, decide_eq_false hz]
  have hq : (bits .and .i64 ax (127 - bx) != 0) = false := by rw [hrt.2]; exact hbits
  have HBT : Hid (refL (bits .and .i64 bx (127 - ax)) idx = bitsL ax bx looks) := hrt.1
  have n1 := bit_len ax bx
  have n2 := col_len bf 0
  have n3 := col_len ab 10
  clear hne ha hb hz hbits hrt
  go_enter Tryd.func15, Tryd.ntmps15
  go_wp2_with (first
    | (at_builtin; refine wpList_append_own _ rfl _ _ 24 rfl (w.heap.size + 2) 3 i0 (.int .i64 0) 1 8 Tryd.underlying24 hi hz0 hz1 hz2 rfl (by decide) _ _ _ rfl (own_below own3' b4) ⟨g4, 0, none⟩ (colL bf 0).length cap4 (vals (colL bf 0)) rfl (by simp [vals]) (own_news own4) (ints_oneCell .i64 _) (by unfold maxLen; omega) (by omega) (by omega) ?_; intro v5 W5 own5 gr5 _; have kk5 := kk4.grown gr5 (by omega) (fun k hk => ((own_below own3' b4).lt k hk).1); have s5 := gr5.size; have x5 : W5.heap[w.heap.size]? = _ := (kk5.block _ (by omega)).trans x0; have y5 : W5.heap[w.heap.size + 1]? = _ := (kk5.block _ (by omega)).trans y0; have ⟨m5a, m5b, m5c, m5d⟩ := cells_of x5; have ⟨n5a, n5b, n5c, n5d⟩ := cells_of y5)
    | (go_at_call 23; have kk3' := kk3; refine (colourOf_own bf false W3 (by omega) (by omega)).mono ?_; rintro e W4 ⟨v4, rfl, own4, b4⟩; have s4 := b4.size; have kk4 : Below (w.heap.size + 2) ((w.alloc (.cells #[.int .i64 af, .int .i64 ab, .int .i64 ax] 23)).alloc (.cells #[.int .i64 bf, .int .i64 ab, .int .i64 bx] 23)) W4 := kk3.trans (b4.mono (by omega)); have x4 : W4.heap[w.heap.size]? = _ := (kk4.block _ (by omega)).trans x0; have y4 : W4.heap[w.heap.size + 1]? = _ := (kk4.block _ (by omega)).trans y0; have ⟨m4a, m4b, m4c, m4d⟩ := cells_of x4; have ⟨n4a, n4b, n4c, n4d⟩ := cells_of y4; obtain ⟨g4, cap4, rfl⟩ := own_some own4 (colL_ne _ _))
    | (go_at_call 22; have kk2' := kk2; refine (bitsOf_own (bits .and .i64 bx (127 - ax)) W2).mono ?_; rintro e W3 ⟨v3, rfl, own3, _, b3⟩; have s3 := b3.size; have kk3 : Below (w.heap.size + 2) ((w.alloc (.cells #[.int .i64 af, .int .i64 ab, .int .i64 ax] 23)).alloc (.cells #[.int .i64 bf, .int .i64 ab, .int .i64 bx] 23)) W3 := kk2.trans (b3.mono (by omega)); have x3 : W3.heap[w.heap.size]? = _ := (kk3.block _ (by omega)).trans x0; have y3 : W3.heap[w.heap.size + 1]? = _ := (kk3.block _ (by omega)).trans y0; have ⟨m3a, m3b, m3c, m3d⟩ := cells_of x3; have ⟨n3a, n3b, n3c, n3d⟩ := cells_of y3; have own3' := own_mono own3 (show w.heap.size + 2 ≤ W2.heap.size by omega); rw [HBT.out] at own3')
    | (go_at_call 8; have kk1' := kk1; refine (isStyle_agg bf ab bx _ _ HB.out).mono ?_; rintro e W2 ⟨rfl, b2⟩; have s2 := b2.size; have kk2 : Below (w.heap.size + 2) ((w.alloc (.cells #[.int .i64 af, .int .i64 ab, .int .i64 ax] 23)).alloc (.cells #[.int .i64 bf, .int .i64 ab, .int .i64 bx] 23)) W2 := kk1.trans (b2.mono (by omega)); have x2 : W2.heap[w.heap.size]? = _ := (kk2.block _ (by omega)).trans x0; have y2 : W2.heap[w.heap.size + 1]? = _ := (kk2.block _ (by omega)).trans y0; have ⟨m2a, m2b, m2c, m2d⟩ := cells_of x2; have ⟨n2a, n2b, n2c, n2d⟩ := cells_of y2)
    | (go_at_call 8; refine (isStyle_agg af ab ax _ _ HA.out).mono ?_; rintro e W1 ⟨rfl, b1⟩; have kk1 : Below (w.heap.size + 2) ((w.alloc (.cells #[.int .i64 af, .int .i64 ab, .int .i64 ax] 23)).alloc (.cells #[.int .i64 bf, .int .i64 ab, .int .i64 bx] 23)) W1 := b1.mono (by simp); have s1 : w.heap.size + 2 ≤ W1.heap.size := (by have := b1.size; simp at this; omega); have x1 : W1.heap[w.heap.size]? = _ := (kk1.block _ (by omega)).trans x0; have y1 : W1.heap[w.heap.size + 1]? = _ := (kk1.block _ (by omega)).trans y0; have ⟨m1a, m1b, m1c, m1d⟩ := cells_of x1; have ⟨n1a, n1b, n1c, n1d⟩ := cells_of y1))
  go_ret
  exact ⟨_, rfl, by have h := own_mono own5 (show w.heap.size ≤ w.heap.size + 2 by omega); simpa [vals, Nat.add_assoc] using h, kw.trans (kk5.mono (by omega))⟩
set_option maxHeartbeats 1000000 in
theorem tref_0b (af ab ax bb bx : Int) (w : World) (hne : (af, ab, ax) ≠ (af, bb, bx)) (ha : isSt (af, ab, ax) = true) (hb : isSt (af, bb, bx) = true) (hz : (af, bb, bx) ≠ (0, 0, 0)) (hbits : (bits .andNot .i64 ax bx != 0) = false) (eb : bb ≠ ab) :
    Calls Tryd.prog 15 #[.agg #[.int .i64 af, .int .i64 ab, .int .i64 ax], .agg #[.int .i64 af, .int .i64 bb, .int .i64 bx]] w fun e w' => ∃ v', e = .returned v' ∧ w'.ownsRow w.heap.size 3 1 v' (bitsL ax bx looks ++ colL bb 10).length (vals (bitsL ax bx looks ++ colL bb 10)) ∧ Below w.heap.size w w' := by
  have x0 : ((w.alloc (.cells #[.int .i64 af, .int .i64 ab, .int .i64 ax] 23)).alloc (.cells #[.int .i64 af, .int .i64 bb, .int .i64 bx] 23)).heap[w.heap.size]? = some (.cells #[.int .i64 af, .int .i64 ab, .int .i64 ax] 23 (0, 0)) := (Below.heap_alloc _ _ _ (by simp)).trans (heap_alloc_new _ _)
  have y0 : ((w.alloc (.cells #[.int .i64 af, .int .i64 ab, .int .i64 ax] 23)).alloc (.cells #[.int .i64 af, .int .i64 bb, .int .i64 bx] 23)).heap[w.heap.size + 1]? = some (.cells #[.int .i64 af, .int .i64 bb, .int .i64 bx] 23 (0, 0)) := new2 w _ _ _
  have kw : Below w.heap.size w ((w.alloc (.cells #[.int .i64 af, .int .i64 ab, .int .i64 ax] 23)).alloc (.cells #[.int .i64 af, .int .i64 bb, .int .i64 bx] 23)) := ((Below.refl _ _).alloc (Nat.le_refl _) _).alloc (by simp) _
  obtain ⟨i0, hi, hz0, hz1, hz2⟩ := info_parts info_int
  have HA : Hid (isSt (af, ab, ax) = true) := ha
  have HB : Hid (isSt (af, bb, bx) = true) := hb
  have hia := (isSt_iff _).1 ha
  have hib := (isSt_iff _).1 hb
  dsimp only at hia hib
  obtain ⟨a1, a2, a3, a4, a5, a6⟩ := hia
  obtain ⟨c1, c2, c3, c4, c5, c6⟩ := hib
  have hrt := ref_turn ax bx a5 a6 c5 c6
  have he1 : ∀ w, (binOp .eql 23 (.agg #[.int .i64 af, .int .i64 ab, .int .i64 ax]) (.agg #[.int .i64 af, .int .i64 bb, .int .i64 bx])).run Tryd.prog w = .ok (.bool false) w := fun w => by rw [eq_agg, decide_eq_false hne]
  have he2 : ∀ w, (binOp .eql 23 (.agg #[.int .i64 af, .int .i64 bb, .int .i64 bx]) (.agg #[.int .i64 0, .int .i64 0, .int .i64 0])).run Tryd.prog w = .ok (.bool false) w := fun w => by rw [eq_agg, decide_eq_false hz]
  have hq : (bits .and .i64 ax (127 - bx) != 0) = false := by rw [hrt.2]; exact hbits
  have HBT : Hid (refL (bits .and .i64 bx (127 - ax)) idx = bitsL ax bx looks) := hrt.1
  have n1 := bit_len ax bx
  have n2 := col_len af 0
  have n3 := col_len bb 10
  clear hne ha hb hz hbits hrt
  go_enter Tryd.func15, Tryd.ntmps15
  go_wp2_with (first
    | (at_builtin; refine wpList_append_own _ rfl _ _ 24 rfl (w.heap.size + 2) 3 i0 (.int .i64 0) 1 8 Tryd.underlying24 hi hz0 hz1 hz2 rfl (by decide) _ _ _ rfl (own_below own3' b4) ⟨g4, 0, none⟩ (colL bb 10).length cap4 (vals (colL bb 10)) rfl (by simp [vals]) (own_news own4) (ints_oneCell .i64 _) (by unfold maxLen; omega) (by omega) (by omega) ?_; intro v5 W5 own5 gr5 _; have kk5 := kk4.grown gr5 (by omega) (fun k hk => ((own_below own3' b4).lt k hk).1); have s5 := gr5.size; have x5 : W5.heap[w.heap.size]? = _ := (kk5.block _ (by omega)).trans x0; have y5 : W5.heap[w.heap.size + 1]? = _ := (kk5.block _ (by omega)).trans y0; have ⟨m5a, m5b, m5c, m5d⟩ := cells_of x5; have ⟨n5a, n5b, n5c, n5d⟩ := cells_of y5)
    | (go_at_call 23; have kk3' := kk3; refine (colourOf_own bb true W3 (by omega) (by omega)).mono ?_; rintro e W4 ⟨v4, rfl, own4, b4⟩; have s4 := b4.size; have kk4 : Below (w.heap.size + 2) ((w.alloc (.cells #[.int .i64 af, .int .i64 ab, .int .i64 ax] 23)).alloc (.cells #[.int .i64 af, .int .i64 bb, .int .i64 bx] 23)) W4 := kk3.trans (b4.mono (by omega)); have x4 : W4.heap[w.heap.size]? = _ := (kk4.block _ (by omega)).trans x0; have y4 : W4.heap[w.heap.size + 1]? = _ := (kk4.block _ (by omega)).trans y0; have ⟨m4a, m4b, m4c, m4d⟩ := cells_of x4; have ⟨n4a, n4b, n4c, n4d⟩ := cells_of y4; obtain ⟨g4, cap4, rfl⟩ := own_some own4 (colL_ne _ _))
    | (go_at_call 22; have kk2' := kk2; refine (bitsOf_own (bits .and .i64 bx (127 - ax)) W2).mono ?_; rintro e W3 ⟨v3, rfl, own3, _, b3⟩; have s3 := b3.size; have kk3 : Below (w.heap.size + 2) ((w.alloc (.cells #[.int .i64 af, .int .i64 ab, .int .i64 ax] 23)).alloc (.cells #[.int .i64 af, .int .i64 bb, .int .i64 bx] 23)) W3 := kk2.trans (b3.mono (by omega)); have x3 : W3.heap[w.heap.size]? = _ := (kk3.block _ (by omega)).trans x0; have y3 : W3.heap[w.heap.size + 1]? = _ := (kk3.block _ (by omega)).trans y0; have ⟨m3a, m3b, m3c, m3d⟩ := cells_of x3; have ⟨n3a, n3b, n3c, n3d⟩ := cells_of y3; have own3' := own_mono own3 (show w.heap.size + 2 ≤ W2.heap.size by omega); rw [HBT.out] at own3')
    | (go_at_call 8; have kk1' := kk1; refine (isStyle_agg af bb bx _ _ HB.out).mono ?_; rintro e W2 ⟨rfl, b2⟩; have s2 := b2.size; have kk2 : Below (w.heap.size + 2) ((w.alloc (.cells #[.int .i64 af, .int .i64 ab, .int .i64 ax] 23)).alloc (.cells #[.int .i64 af, .int .i64 bb, .int .i64 bx] 23)) W2 := kk1.trans (b2.mono (by omega)); have x2 : W2.heap[w.heap.size]? = _ := (kk2.block _ (by omega)).trans x0; have y2 : W2.heap[w.heap.size + 1]? = _ := (kk2.block _ (by omega)).trans y0; have ⟨m2a, m2b, m2c, m2d⟩ := cells_of x2; have ⟨n2a, n2b, n2c, n2d⟩ := cells_of y2)
    | (go_at_call 8; refine (isStyle_agg af ab ax _ _ HA.out).mono ?_; rintro e W1 ⟨rfl, b1⟩; have kk1 : Below (w.heap.size + 2) ((w.alloc (.cells #[.int .i64 af, .int .i64 ab, .int .i64 ax] 23)).alloc (.cells #[.int .i64 af, .int .i64 bb, .int .i64 bx] 23)) W1 := b1.mono (by simp); have s1 : w.heap.size + 2 ≤ W1.heap.size := (by have := b1.size; simp at this; omega); have x1 : W1.heap[w.heap.size]? = _ := (kk1.block _ (by omega)).trans x0; have y1 : W1.heap[w.heap.size + 1]? = _ := (kk1.block _ (by omega)).trans y0; have ⟨m1a, m1b, m1c, m1d⟩ := cells_of x1; have ⟨n1a, n1b, n1c, n1d⟩ := cells_of y1))
  go_ret
  exact ⟨_, rfl, by have h := own_mono own5 (show w.heap.size ≤ w.heap.size + 2 by omega); simpa [vals, Nat.add_assoc] using h, kw.trans (kk5.mono (by omega))⟩
set_option maxHeartbeats 1000000 in
theorem tref_fb (af ab ax bf bb bx : Int) (w : World) (hne : (af, ab, ax) ≠ (bf, bb, bx)) (ha : isSt (af, ab, ax) = true) (hb : isSt (bf, bb, bx) = true) (hz : (bf, bb, bx) ≠ (0, 0, 0)) (hbits : (bits .andNot .i64 ax bx != 0) = false) (ef : bf ≠ af) (eb : bb ≠ ab) :
    Calls Tryd.prog 15 #[.agg #[.int .i64 af, .int .i64 ab, .int .i64 ax], .agg #[.int .i64 bf, .int .i64 bb, .int .i64 bx]] w fun e w' => ∃ v', e = .returned v' ∧ w'.ownsRow w.heap.size 3 1 v' (bitsL ax bx looks ++ colL bf 0 ++ colL bb 10).length (vals (bitsL ax bx looks ++ colL bf 0 ++ colL bb 10)) ∧ Below w.heap.size w w' := by
  have x0 : ((w.alloc (.cells #[.int .i64 af, .int .i64 ab, .int .i64 ax] 23)).alloc (.cells #[.int .i64 bf, .int .i64 bb, .int .i64 bx] 23)).heap[w.heap.size]? = some (.cells #[.int .i64 af, .int .i64 ab, .int .i64 ax] 23 (0, 0)) := (Below.heap_alloc _ _ _ (by simp)).trans (heap_alloc_new _ _)
  have y0 : ((w.alloc (.cells #[.int .i64 af, .int .i64 ab, .int .i64 ax] 23)).alloc (.cells #[.int .i64 bf, .int .i64 bb, .int .i64 bx] 23)).heap[w.heap.size + 1]? = some (.cells #[.int .i64 bf, .int .i64 bb, .int .i64 bx] 23 (0, 0)) := new2 w _ _ _
  have kw : Below w.heap.size w ((w.alloc (.cells #[.int .i64 af, .int .i64 ab, .int .i64 ax] 23)).alloc (.cells #[.int .i64 bf, .int .i64 bb, .int .i64 bx] 23)) := ((Below.refl _ _).alloc (Nat.le_refl _) _).alloc (by simp) _
  obtain ⟨i0, hi, hz0, hz1, hz2⟩ := info_parts info_int
  have HA : Hid (isSt (af, ab, ax) = true) := ha
  have HB : Hid (isSt (bf, bb, bx) = true) := hb
  have hia := (isSt_iff _).1 ha
  have hib := (isSt_iff _).1 hb
  dsimp only at hia hib
  obtain ⟨a1, a2, a3, a4, a5, a6⟩ := hia
  obtain ⟨c1, c2, c3, c4, c5, c6⟩ := hib
  have hrt := ref_turn ax bx a5 a6 c5 c6
  have he1 : ∀ w, (binOp .eql 23 (.agg #[.int .i64 af, .int .i64 ab, .int .i64 ax]) (.agg #[.int .i64 bf, .int .i64 bb, .int .i64 bx])).run Tryd.prog w = .ok (.bool false) w := fun w => by rw [eq_agg, decide_eq_false hne]
  have he2 : ∀ w, (binOp .eql 23 (.agg #[.int .i64 bf, .int .i64 bb, .int .i64 bx]) (.agg #[.int .i64 0, .int .i64 0, .int .i64 0])).run Tryd.prog w = .ok (.bool false) w := fun w => by rw [eq_agg, decide_eq_false hz]
  have hq : (bits .and .i64 ax (127 - bx) != 0) = false := by rw [hrt.2]; exact hbits
  have HBT : Hid (refL (bits .and .i64 bx (127 - ax)) idx = bitsL ax bx looks) := hrt.1
  have n1 := bit_len ax bx
  have n2 := col_len bf 0
  have n3 := col_len bb 10
  clear hne ha hb hz hbits hrt
  go_enter Tryd.func15, Tryd.ntmps15
  go_wp2_with (first
    | (at_builtin; refine wpList_append_own _ rfl _ _ 24 rfl (w.heap.size + 2) 3 i0 (.int .i64 0) 1 8 Tryd.underlying24 hi hz0 hz1 hz2 rfl (by decide) _ _ _ rfl (own_below own5 b6) ⟨g6, 0, none⟩ (colL bb 10).length cap6 (vals (colL bb 10)) rfl (by simp [vals]) (own_news own6) (ints_oneCell .i64 _) (by unfold maxLen; omega) (by omega) (by omega) ?_; intro v7 W7 own7 gr7 _; have kk7 := kk6.grown gr7 (by omega) (fun k hk => ((own_below own5 b6).lt k hk).1); have s7 := gr7.size; have x7 : W7.heap[w.heap.size]? = _ := (kk7.block _ (by omega)).trans x0; have y7 : W7.heap[w.heap.size + 1]? = _ := (kk7.block _ (by omega)).trans y0; have ⟨m7a, m7b, m7c, m7d⟩ := cells_of x7; have ⟨n7a, n7b, n7c, n7d⟩ := cells_of y7)
    | (go_at_call 23; have kk5' := kk5; refine (colourOf_own bb true W5 (by omega) (by omega)).mono ?_; rintro e W6 ⟨v6, rfl, own6, b6⟩; have s6 := b6.size; have kk6 : Below (w.heap.size + 2) ((w.alloc (.cells #[.int .i64 af, .int .i64 ab, .int .i64 ax] 23)).alloc (.cells #[.int .i64 bf, .int .i64 bb, .int .i64 bx] 23)) W6 := kk5.trans (b6.mono (by omega)); have x6 : W6.heap[w.heap.size]? = _ := (kk6.block _ (by omega)).trans x0; have y6 : W6.heap[w.heap.size + 1]? = _ := (kk6.block _ (by omega)).trans y0; have ⟨m6a, m6b, m6c, m6d⟩ := cells_of x6; have ⟨n6a, n6b, n6c, n6d⟩ := cells_of y6; obtain ⟨g6, cap6, rfl⟩ := own_some own6 (colL_ne _ _))
    | (at_builtin; refine wpList_append_own _ rfl _ _ 24 rfl (w.heap.size + 2) 3 i0 (.int .i64 0) 1 8 Tryd.underlying24 hi hz0 hz1 hz2 rfl (by decide) _ _ _ rfl (own_below own3' b4) ⟨g4, 0, none⟩ (colL bf 0).length cap4 (vals (colL bf 0)) rfl (by simp [vals]) (own_news own4) (ints_oneCell .i64 _) (by unfold maxLen; omega) (by omega) (by omega) ?_; intro v5 W5 own5 gr5 _; have kk5 := kk4.grown gr5 (by omega) (fun k hk => ((own_below own3' b4).lt k hk).1); have s5 := gr5.size; have x5 : W5.heap[w.heap.size]? = _ := (kk5.block _ (by omega)).trans x0; have y5 : W5.heap[w.heap.size + 1]? = _ := (kk5.block _ (by omega)).trans y0; have ⟨m5a, m5b, m5c, m5d⟩ := cells_of x5; have ⟨n5a, n5b, n5c, n5d⟩ := cells_of y5)
    | (go_at_call 23; have kk3' := kk3; refine (colourOf_own bf false W3 (by omega) (by omega)).mono ?_; rintro e W4 ⟨v4, rfl, own4, b4⟩; have s4 := b4.size; have kk4 : Below (w.heap.size + 2) ((w.alloc (.cells #[.int .i64 af, .int .i64 ab, .int .i64 ax] 23)).alloc (.cells #[.int .i64 bf, .int .i64 bb, .int .i64 bx] 23)) W4 := kk3.trans (b4.mono (by omega)); have x4 : W4.heap[w.heap.size]? = _ := (kk4.block _ (by omega)).trans x0; have y4 : W4.heap[w.heap.size + 1]? = _ := (kk4.block _ (by omega)).trans y0; have ⟨m4a, m4b, m4c, m4d⟩ := cells_of x4; have ⟨n4a, n4b, n4c, n4d⟩ := cells_of y4; obtain ⟨g4, cap4, rfl⟩ := own_some own4 (colL_ne _ _))
    | (go_at_call 22; have kk2' := kk2; refine (bitsOf_own (bits .and .i64 bx (127 - ax)) W2).mono ?_; rintro e W3 ⟨v3, rfl, own3, _, b3⟩; have s3 := b3.size; have kk3 : Below (w.heap.size + 2) ((w.alloc (.cells #[.int .i64 af, .int .i64 ab, .int .i64 ax] 23)).alloc (.cells #[.int .i64 bf, .int .i64 bb, .int .i64 bx] 23)) W3 := kk2.trans (b3.mono (by omega)); have x3 : W3.heap[w.heap.size]? = _ := (kk3.block _ (by omega)).trans x0; have y3 : W3.heap[w.heap.size + 1]? = _ := (kk3.block _ (by omega)).trans y0; have ⟨m3a, m3b, m3c, m3d⟩ := cells_of x3; have ⟨n3a, n3b, n3c, n3d⟩ := cells_of y3; have own3' := own_mono own3 (show w.heap.size + 2 ≤ W2.heap.size by omega); rw [HBT.out] at own3')
    | (go_at_call 8; have kk1' := kk1; refine (isStyle_agg bf bb bx _ _ HB.out).mono ?_; rintro e W2 ⟨rfl, b2⟩; have s2 := b2.size; have kk2 : Below (w.heap.size + 2) ((w.alloc (.cells #[.int .i64 af, .int .i64 ab, .int .i64 ax] 23)).alloc (.cells #[.int .i64 bf, .int .i64 bb, .int .i64 bx] 23)) W2 := kk1.trans (b2.mono (by omega)); have x2 : W2.heap[w.heap.size]? = _ := (kk2.block _ (by omega)).trans x0; have y2 : W2.heap[w.heap.size + 1]? = _ := (kk2.block _ (by omega)).trans y0; have ⟨m2a, m2b, m2c, m2d⟩ := cells_of x2; have ⟨n2a, n2b, n2c, n2d⟩ := cells_of y2)
    | (go_at_call 8; refine (isStyle_agg af ab ax _ _ HA.out).mono ?_; rintro e W1 ⟨rfl, b1⟩; have kk1 : Below (w.heap.size + 2) ((w.alloc (.cells #[.int .i64 af, .int .i64 ab, .int .i64 ax] 23)).alloc (.cells #[.int .i64 bf, .int .i64 bb, .int .i64 bx] 23)) W1 := b1.mono (by simp); have s1 : w.heap.size + 2 ≤ W1.heap.size := (by have := b1.size; simp at this; omega); have x1 : W1.heap[w.heap.size]? = _ := (kk1.block _ (by omega)).trans x0; have y1 : W1.heap[w.heap.size + 1]? = _ := (kk1.block _ (by omega)).trans y0; have ⟨m1a, m1b, m1c, m1d⟩ := cells_of x1; have ⟨n1a, n1b, n1c, n1d⟩ := cells_of y1))
  go_ret
  exact ⟨_, rfl, by have h := own_mono own7 (show w.heap.size ≤ w.heap.size + 2 by omega); simpa [vals, Nat.add_assoc] using h, kw.trans (kk7.mono (by omega))⟩
set_option maxHeartbeats 1000000 in
theorem tref_bits (af ab ax bf bb bx : Int) (w : World) (hne : (af, ab, ax) ≠ (bf, bb, bx)) (ha : isSt (af, ab, ax) = true) (hb : isSt (bf, bb, bx) = true) (hz : (bf, bb, bx) ≠ (0, 0, 0)) (hbits : (bits .andNot .i64 ax bx != 0) = true) :
    Calls Tryd.prog 15 #[.agg #[.int .i64 af, .int .i64 ab, .int .i64 ax], .agg #[.int .i64 bf, .int .i64 bb, .int .i64 bx]] w fun e w' => ∃ v', e = .returned v' ∧ w'.ownsRow w.heap.size 3 1 v' (0 :: numsOf (bf, bb, bx)).length (vals (0 :: numsOf (bf, bb, bx))) ∧ Below w.heap.size w w' := by
  have x0 : ((w.alloc (.cells #[.int .i64 af, .int .i64 ab, .int .i64 ax] 23)).alloc (.cells #[.int .i64 bf, .int .i64 bb, .int .i64 bx] 23)).heap[w.heap.size]? = some (.cells #[.int .i64 af, .int .i64 ab, .int .i64 ax] 23 (0, 0)) := (Below.heap_alloc _ _ _ (by simp)).trans (heap_alloc_new _ _)
  have y0 : ((w.alloc (.cells #[.int .i64 af, .int .i64 ab, .int .i64 ax] 23)).alloc (.cells #[.int .i64 bf, .int .i64 bb, .int .i64 bx] 23)).heap[w.heap.size + 1]? = some (.cells #[.int .i64 bf, .int .i64 bb, .int .i64 bx] 23 (0, 0)) := new2 w _ _ _
  have kw : Below w.heap.size w ((w.alloc (.cells #[.int .i64 af, .int .i64 ab, .int .i64 ax] 23)).alloc (.cells #[.int .i64 bf, .int .i64 bb, .int .i64 bx] 23)) := ((Below.refl _ _).alloc (Nat.le_refl _) _).alloc (by simp) _
  obtain ⟨i0, hi, hz0, hz1, hz2⟩ := info_parts info_int
  have HA : Hid (isSt (af, ab, ax) = true) := ha
  have HB : Hid (isSt (bf, bb, bx) = true) := hb
  have hia := (isSt_iff _).1 ha
  have hib := (isSt_iff _).1 hb
  dsimp only at hia hib
  obtain ⟨a1, a2, a3, a4, a5, a6⟩ := hia
  obtain ⟨c1, c2, c3, c4, c5, c6⟩ := hib
  have hrt := ref_turn ax bx a5 a6 c5 c6
  have he1 : ∀ w, (binOp .eql 23 (.agg #[.int .i64 af, .int .i64 ab, .int .i64 ax]) (.agg #[.int .i64 bf, .int .i64 bb, .int .i64 bx])).run Tryd.prog w = .ok (.bool false) w := fun w => by rw [eq_agg, decide_eq_false hne]
  have he2 : ∀ w, (binOp .eql 23 (.agg #[.int .i64 bf, .int .i64 bb, .int .i64 bx]) (.agg #[.int .i64 0, .int .i64 0, .int .i64 0])).run Tryd.prog w = .ok (.bool false) w := fun w => by rw [eq_agg, decide_eq_false hz]
  have hq : (bits .and .i64 ax (127 - bx) != 0) = true := by rw [hrt.2]; exact hbits
  have HNE : Hid (numsOf (bf, bb, bx) ≠ []) := fun e => hz (nums_nil _ hb e)
  have hnl := nums_len (bf, bb, bx)
  clear hne ha hb hz hbits hrt
  go_enter Tryd.func15, Tryd.ntmps15
  go_wp2_with (first
    | (at_builtin; refine wpList_append_own _ rfl _ _ 24 rfl (w.heap.size + 2) 3 i0 (.int .i64 0) 1 8 Tryd.underlying24 hi hz0 hz1 hz2 rfl (by decide) _ _ _ rfl ownZ ⟨g3, 0, none⟩ (numsOf (bf, bb, bx)).length cap3 (vals (numsOf (bf, bb, bx))) rfl (by simp [vals]) (own_news own3) (ints_oneCell .i64 _) (by unfold maxLen; omega) (by omega) (by omega) ?_; intro v4 W4 own4 gr4 _; have kk4 := kk3.grown gr4 (by omega) (fun k hk => (ownZ.lt k hk).1))
    | (go_at_call 13; have kz : Below (w.heap.size + 2) ((w.alloc (.cells #[.int .i64 af, .int .i64 ab, .int .i64 ax] 23)).alloc (.cells #[.int .i64 bf, .int .i64 bb, .int .i64 bx] 23)) (W2.alloc (.cells #[.int .i64 0] 3)) := kk2.alloc (by omega) _; refine (numbersOf_own bf bb bx _).mono ?_; rintro e W3 ⟨v3, rfl, own3, nil3, b3⟩; have s3 := b3.size; have kk3 : Below (w.heap.size + 2) ((w.alloc (.cells #[.int .i64 af, .int .i64 ab, .int .i64 ax] 23)).alloc (.cells #[.int .i64 bf, .int .i64 bb, .int .i64 bx] 23)) W3 := kz.trans (b3.mono (by simp; omega)); have ownZ : W3.ownsRow (w.heap.size + 2) 3 1 (.slice (some ⟨W2.heap.size, 0, none⟩) 1 1) 1 (vals [0]) := own_below ⟨rfl, .inr ⟨W2.heap.size, 1, #[.int .i64 0], rfl, by omega, heap_alloc_new _ _, by omega, by unfold maxLen; omega, rfl, rfl⟩⟩ b3; obtain ⟨g3, cap3, rfl⟩ := own_some own3 HNE.out; have s3' : w.heap.size + 2 ≤ W3.heap.size := (by simp at s3; omega))
    | (go_at_call 8; have kk1' := kk1; refine (isStyle_agg bf bb bx _ _ HB.out).mono ?_; rintro e W2 ⟨rfl, b2⟩; have s2 := b2.size; have kk2 : Below (w.heap.size + 2) ((w.alloc (.cells #[.int .i64 af, .int .i64 ab, .int .i64 ax] 23)).alloc (.cells #[.int .i64 bf, .int .i64 bb, .int .i64 bx] 23)) W2 := kk1.trans (b2.mono (by omega)); have x2 : W2.heap[w.heap.size]? = _ := (kk2.block _ (by omega)).trans x0; have y2 : W2.heap[w.heap.size + 1]? = _ := (kk2.block _ (by omega)).trans y0; have ⟨m2a, m2b, m2c, m2d⟩ := cells_of x2; have ⟨n2a, n2b, n2c, n2d⟩ := cells_of y2; have t2 := (Below.heap_alloc W2 (.cells #[.int .i64 0] 3) _ (blk_lt y2)).trans y2; have ⟨za, zb, zc, zd⟩ := cells_of t2)
    | (go_at_call 8; refine (isStyle_agg af ab ax _ _ HA.out).mono ?_; rintro e W1 ⟨rfl, b1⟩; have kk1 : Below (w.heap.size + 2) ((w.alloc (.cells #[.int .i64 af, .int .i64 ab, .int .i64 ax] 23)).alloc (.cells #[.int .i64 bf, .int .i64 bb, .int .i64 bx] 23)) W1 := b1.mono (by simp); have s1 : w.heap.size + 2 ≤ W1.heap.size := (by have := b1.size; simp at this; omega); have x1 : W1.heap[w.heap.size]? = _ := (kk1.block _ (by omega)).trans x0; have y1 : W1.heap[w.heap.size + 1]? = _ := (kk1.block _ (by omega)).trans y0; have ⟨m1a, m1b, m1c, m1d⟩ := cells_of x1; have ⟨n1a, n1b, n1c, n1d⟩ := cells_of y1))
  go_ret
  refine ⟨_, rfl, ?_, kw.trans (kk4.mono (by omega))⟩
  have hE : 1 + (numsOf (bf, bb, bx)).length = (0 :: numsOf (bf, bb, bx)).length := by simp; omega
  rw [hE] at own4
  exact own_mono own4 (by omega)
set_option maxHeartbeats 1000000 in
theorem tref_none1 (af ab ax bf bb bx : Int) (w : World) (hne : (af, ab, ax) ≠ (bf, bb, bx)) (ha : isSt (af, ab, ax) = true) (hb : isSt (bf, bb, bx) = true) (hz : (bf, bb, bx) = (0, 0, 0)) (hbits : (bits .andNot .i64 ax bx != 0) = true) :
    Calls Tryd.prog 15 #[.agg #[.int .i64 af, .int .i64 ab, .int .i64 ax], .agg #[.int .i64 bf, .int .i64 bb, .int .i64 bx]] w fun e w' => ∃ v', e = .returned v' ∧ w'.ownsRow w.heap.size 3 1 v' (0 :: numsOf (bf, bb, bx)).length (vals (0 :: numsOf (bf, bb, bx))) ∧ Below w.heap.size w w' := by
  have x0 : ((w.alloc (.cells #[.int .i64 af, .int .i64 ab, .int .i64 ax] 23)).alloc (.cells #[.int .i64 bf, .int .i64 bb, .int .i64 bx] 23)).heap[w.heap.size]? = some (.cells #[.int .i64 af, .int .i64 ab, .int .i64 ax] 23 (0, 0)) := (Below.heap_alloc _ _ _ (by simp)).trans (heap_alloc_new _ _)
  have y0 : ((w.alloc (.cells #[.int .i64 af, .int .i64 ab, .int .i64 ax] 23)).alloc (.cells #[.int .i64 bf, .int .i64 bb, .int .i64 bx] 23)).heap[w.heap.size + 1]? = some (.cells #[.int .i64 bf, .int .i64 bb, .int .i64 bx] 23 (0, 0)) := new2 w _ _ _
  have kw : Below w.heap.size w ((w.alloc (.cells #[.int .i64 af, .int .i64 ab, .int .i64 ax] 23)).alloc (.cells #[.int .i64 bf, .int .i64 bb, .int .i64 bx] 23)) := ((Below.refl _ _).alloc (Nat.le_refl _) _).alloc (by simp) _
  obtain ⟨i0, hi, hz0, hz1, hz2⟩ := info_parts info_int
  have HA : Hid (isSt (af, ab, ax) = true) := ha
  have HB : Hid (isSt (bf, bb, bx) = true) := hb
  have hia := (isSt_iff _).1 ha
  have hib := (isSt_iff _).1 hb
  dsimp only at hia hib
  obtain ⟨a1, a2, a3, a4, a5, a6⟩ := hia
  obtain ⟨c1, c2, c3, c4, c5, c6⟩ := hib
  have hrt := ref_turn ax bx a5 a6 c5 c6
  have he1 : ∀ w, (binOp .eql 23 (.agg #[.int .i64 af, .int .i64 ab, .int .i64 ax]) (.agg #[.int .i64 bf, .int .i64 bb, .int .i64 bx])).run Tryd.prog w = .ok (.bool false) w := fun w => by rw [eq_agg, decide_eq_false hne]
  have he2 : ∀ w, (binOp .eql 23 (.agg #[.int .i64 bf, .int .i64 bb, .int .i64 bx]) (.agg #[.int .i64 0, .int .i64 0, .int .i64 0])).run Tryd.prog w = .ok (.bool true) w := fun w => by rw [eq_agg, decide_eq_true hz]
  have hq : (bits .and .i64 ax (127 - bx) != 0) = true := by rw [hrt.2]; exact hbits
  have HNE : Hid (numsOf (bf, bb, bx) = []) := by unfold Hid; rw [hz]; exact nums_zero
  have hnl := nums_len (bf, bb, bx)
  clear hne ha hb hz hbits hrt
  go_enter Tryd.func15, Tryd.ntmps15
  go_wp2_with (first
    | (at_builtin; refine wpList_append_own_none rfl _ _ 24 rfl (w.heap.size + 2) 3 i0 1 Tryd.underlying24 hi _ _ _ rfl ownZ rfl ?_)
    | (go_at_call 13; have kz : Below (w.heap.size + 2) ((w.alloc (.cells #[.int .i64 af, .int .i64 ab, .int .i64 ax] 23)).alloc (.cells #[.int .i64 bf, .int .i64 bb, .int .i64 bx] 23)) (W2.alloc (.cells #[.int .i64 0] 3)) := kk2.alloc (by omega) _; refine (numbersOf_own bf bb bx _).mono ?_; rintro e W3 ⟨v3, rfl, own3, nil3, b3⟩; have s3 := b3.size; have kk3 : Below (w.heap.size + 2) ((w.alloc (.cells #[.int .i64 af, .int .i64 ab, .int .i64 ax] 23)).alloc (.cells #[.int .i64 bf, .int .i64 bb, .int .i64 bx] 23)) W3 := kz.trans (b3.mono (by simp; omega)); have ownZ : W3.ownsRow (w.heap.size + 2) 3 1 (.slice (some ⟨W2.heap.size, 0, none⟩) 1 1) 1 (vals [0]) := own_below ⟨rfl, .inr ⟨W2.heap.size, 1, #[.int .i64 0], rfl, by omega, heap_alloc_new _ _, by omega, by unfold maxLen; omega, rfl, rfl⟩⟩ b3; obtain rfl := nil3 HNE.out)
    | (go_at_call 8; have kk1' := kk1; refine (isStyle_agg bf bb bx _ _ HB.out).mono ?_; rintro e W2 ⟨rfl, b2⟩; have s2 := b2.size; have kk2 : Below (w.heap.size + 2) ((w.alloc (.cells #[.int .i64 af, .int .i64 ab, .int .i64 ax] 23)).alloc (.cells #[.int .i64 bf, .int .i64 bb, .int .i64 bx] 23)) W2 := kk1.trans (b2.mono (by omega)); have x2 : W2.heap[w.heap.size]? = _ := (kk2.block _ (by omega)).trans x0; have y2 : W2.heap[w.heap.size + 1]? = _ := (kk2.block _ (by omega)).trans y0; have ⟨m2a, m2b, m2c, m2d⟩ := cells_of x2; have ⟨n2a, n2b, n2c, n2d⟩ := cells_of y2; have t2 := (Below.heap_alloc W2 (.cells #[.int .i64 0] 3) _ (blk_lt y2)).trans y2; have ⟨za, zb, zc, zd⟩ := cells_of t2)
    | (go_at_call 8; refine (isStyle_agg af ab ax _ _ HA.out).mono ?_; rintro e W1 ⟨rfl, b1⟩; have kk1 : Below (w.heap.size + 2) ((w.alloc (.cells #[.int .i64 af, .int .i64 ab, .int .i64 ax] 23)).alloc (.cells #[.int .i64 bf, .int .i64 bb, .int .i64 bx] 23)) W1 := b1.mono (by simp); have s1 : w.heap.size + 2 ≤ W1.heap.size := (by have := b1.size; simp at this; omega); have x1 : W1.heap[w.heap.size]? = _ := (kk1.block _ (by omega)).trans x0; have y1 : W1.heap[w.heap.size + 1]? = _ := (kk1.block _ (by omega)).trans y0; have ⟨m1a, m1b, m1c, m1d⟩ := cells_of x1; have ⟨n1a, n1b, n1c, n1d⟩ := cells_of y1))
  go_ret
  exact ⟨_, rfl, by rw [HNE.out]; exact own_mono ownZ (by omega), kw.trans (kk3.mono (by omega))⟩
set_option maxHeartbeats 1000000 in
theorem tref_none0 (af ab ax bf bb bx : Int) (w : World) (hne : (af, ab, ax) ≠ (bf, bb, bx)) (ha : isSt (af, ab, ax) = true) (hb : isSt (bf, bb, bx) = true) (hz : (bf, bb, bx) = (0, 0, 0)) (hbits : (bits .andNot .i64 ax bx != 0) = false) :
    Calls Tryd.prog 15 #[.agg #[.int .i64 af, .int .i64 ab, .int .i64 ax], .agg #[.int .i64 bf, .int .i64 bb, .int .i64 bx]] w fun e w' => ∃ v', e = .returned v' ∧ w'.ownsRow w.heap.size 3 1 v' (0 :: numsOf (bf, bb, bx)).length (vals (0 :: numsOf (bf, bb, bx))) ∧ Below w.heap.size w w' := by
  have x0 : ((w.alloc (.cells #[.int .i64 af, .int .i64 ab, .int .i64 ax] 23)).alloc (.cells #[.int .i64 bf, .int .i64 bb, .int .i64 bx] 23)).heap[w.heap.size]? = some (.cells #[.int .i64 af, .int .i64 ab, .int .i64 ax] 23 (0, 0)) := (Below.heap_alloc _ _ _ (by simp)).trans (heap_alloc_new _ _)
  have y0 : ((w.alloc (.cells #[.int .i64 af, .int .i64 ab, .int .i64 ax] 23)).alloc (.cells #[.int .i64 bf, .int .i64 bb, .int .i64 bx] 23)).heap[w.heap.size + 1]? = some (.cells #[.int .i64 bf, .int .i64 bb, .int .i64 bx] 23 (0, 0)) := new2 w _ _ _
  have kw : Below w.heap.size w ((w.alloc (.cells #[.int .i64 af, .int .i64 ab, .int .i64 ax] 23)).alloc (.cells #[.int .i64 bf, .int .i64 bb, .int .i64 bx] 23)) := ((Below.refl _ _).alloc (Nat.le_refl _) _).alloc (by simp) _
  obtain ⟨i0, hi, hz0, hz1, hz2⟩ := info_parts info_int
  have HA : Hid (isSt (af, ab, ax) = true) := ha
  have HB : Hid (isSt (bf, bb, bx) = true) := hb
  have hia := (isSt_iff _).1 ha
  have hib := (isSt_iff _).1 hb
  dsimp only at hia hib
  obtain ⟨a1, a2, a3, a4, a5, a6⟩ := hia
  obtain ⟨c1, c2, c3, c4, c5, c6⟩ := hib
  have hrt := ref_turn ax bx a5 a6 c5 c6
  have he1 : ∀ w, (binOp .eql 23 (.agg #[.int .i64 af, .int .i64 ab, .int .i64 ax]) (.agg #[.int .i64 bf, .int .i64 bb, .int .i64 bx])).run Tryd.prog w = .ok (.bool false) w := fun w => by rw [eq_agg, decide_eq_false hne]
  have he2 : ∀ w, (binOp .eql 23 (.agg #[.int .i64 bf, .int .i64 bb, .int .i64 bx]) (.agg #[.int .i64 0, .int .i64 0, .int .i64 0])).run Tryd.prog w = .ok (.bool true) w := fun w => by rw [eq_agg, decide_eq_true hz]
  have hq : (bits .and .i64 ax (127 - bx) != 0) = false := by rw [hrt.2]; exact hbits
  have HNE : Hid (numsOf (bf, bb, bx) = []) := by unfold Hid; rw [hz]; exact nums_zero
  have hnl := nums_len (bf, bb, bx)
  clear hne ha hb hz hbits hrt
  go_enter Tryd.func15, Tryd.ntmps15
  go_wp2_with (first
    | (at_builtin; refine wpList_append_own_none rfl _ _ 24 rfl (w.heap.size + 2) 3 i0 1 Tryd.underlying24 hi _ _ _ rfl ownZ rfl ?_)
    | (go_at_call 13; have kz : Below (w.heap.size + 2) ((w.alloc (.cells #[.int .i64 af, .int .i64 ab, .int .i64 ax] 23)).alloc (.cells #[.int .i64 bf, .int .i64 bb, .int .i64 bx] 23)) (W2.alloc (.cells #[.int .i64 0] 3)) := kk2.alloc (by omega) _; refine (numbersOf_own bf bb bx _).mono ?_; rintro e W3 ⟨v3, rfl, own3, nil3, b3⟩; have s3 := b3.size; have kk3 : Below (w.heap.size + 2) ((w.alloc (.cells #[.int .i64 af, .int .i64 ab, .int .i64 ax] 23)).alloc (.cells #[.int .i64 bf, .int .i64 bb, .int .i64 bx] 23)) W3 := kz.trans (b3.mono (by simp; omega)); have ownZ : W3.ownsRow (w.heap.size + 2) 3 1 (.slice (some ⟨W2.heap.size, 0, none⟩) 1 1) 1 (vals [0]) := own_below ⟨rfl, .inr ⟨W2.heap.size, 1, #[.int .i64 0], rfl, by omega, heap_alloc_new _ _, by omega, by unfold maxLen; omega, rfl, rfl⟩⟩ b3; obtain rfl := nil3 HNE.out)
    | (go_at_call 8; have kk1' := kk1; refine (isStyle_agg bf bb bx _ _ HB.out).mono ?_; rintro e W2 ⟨rfl, b2⟩; have s2 := b2.size; have kk2 : Below (w.heap.size + 2) ((w.alloc (.cells #[.int .i64 af, .int .i64 ab, .int .i64 ax] 23)).alloc (.cells #[.int .i64 bf, .int .i64 bb, .int .i64 bx] 23)) W2 := kk1.trans (b2.mono (by omega)); have x2 : W2.heap[w.heap.size]? = _ := (kk2.block _ (by omega)).trans x0; have y2 : W2.heap[w.heap.size + 1]? = _ := (kk2.block _ (by omega)).trans y0; have ⟨m2a, m2b, m2c, m2d⟩ := cells_of x2; have ⟨n2a, n2b, n2c, n2d⟩ := cells_of y2; have t2 := (Below.heap_alloc W2 (.cells #[.int .i64 0] 3) _ (blk_lt y2)).trans y2; have ⟨za, zb, zc, zd⟩ := cells_of t2)
    | (go_at_call 8; refine (isStyle_agg af ab ax _ _ HA.out).mono ?_; rintro e W1 ⟨rfl, b1⟩; have kk1 : Below (w.heap.size + 2) ((w.alloc (.cells #[.int .i64 af, .int .i64 ab, .int .i64 ax] 23)).alloc (.cells #[.int .i64 bf, .int .i64 bb, .int .i64 bx] 23)) W1 := b1.mono (by simp); have s1 : w.heap.size + 2 ≤ W1.heap.size := (by have := b1.size; simp at this; omega); have x1 : W1.heap[w.heap.size]? = _ := (kk1.block _ (by omega)).trans x0; have y1 : W1.heap[w.heap.size + 1]? = _ := (kk1.block _ (by omega)).trans y0; have ⟨m1a, m1b, m1c, m1d⟩ := cells_of x1; have ⟨n1a, n1b, n1c, n1d⟩ := cells_of y1))
  go_ret
  exact ⟨_, rfl, by rw [HNE.out]; exact own_mono ownZ (by omega), kw.trans (kk3.mono (by omega))⟩
end Sty
end Go.Proofs.YthnphjdpifpehaaDoor
