/- The walks of the reference's NumbersOf and TurnOf. -/
import Derived.Test.YthnphjdpifpehaaDoorStyleRef
namespace Go.Proofs.YthnphjdpifpehaaDoor
open Go.ChangeShapes Go.WideShapes Go.ChangeAt Go.RowKit
namespace Sty
theorem isStyle_agg (f b x : Int) (w : World) (v : Bool) (h : isSt (f, b, x) = v) :
    Calls Tryd.prog 8 #[.agg #[.int .i64 f, .int .i64 b, .int .i64 x]] w fun e w' => e = .returned (.bool v) ∧ Below w.heap.size w w' := by
  have := isStyle_any f b x w
  rwa [h] at this
theorem col_len (c m : Int) : (colL c m).length ≤ 3 := by
  unfold colL
  repeat' split
  all_goals simp
theorem bit_len (f t : Int) : (bitsL f t looks).length ≤ 7 := by
  unfold bitsL
  rw [List.length_map]
  exact List.length_filter_le _ _
set_option maxHeartbeats 1000000 in
theorem nums_00 (x : Int) (w : World) (hc : isSt (0, 0, x) = true) :
    Calls Tryd.prog 13 #[.agg #[.int .i64 0, .int .i64 0, .int .i64 x]] w fun e w' => ∃ v', e = .returned v' ∧ w'.ownsRow w.heap.size 3 1 v' (numsOf (0, 0, x)).length (vals (numsOf (0, 0, x))) ∧ (numsOf (0, 0, x) = [] → v' = .slice none 0 0) ∧ Below w.heap.size w w' := by
  obtain ⟨i0, hi, hz0, hz1, hz2⟩ := info_parts info_int
  have HC : Hid (isSt (0, 0, x) = true) := hc
  have hin := (isSt_iff _).1 hc
  obtain ⟨h1, h2, h3, h4, h5, h6⟩ := hin
  dsimp only at h1 h2 h3 h4 h5 h6
  have HB : Hid (refL x idx = bitsL 0 x looks) := by
    have h := ref_nums ⟨x.toNat, by omega⟩
    simp only [show ((x.toNat : Nat) : Int) = x by omega] at h
    exact h
  have hE : numsOf (0, 0, x) = bitsL 0 x looks := by unfold numsOf addsL; rw [hc]; simp
  rw [hE]
  clear hE hc
  have n1 := bit_len 0 x
  have n2 := col_len 0 0
  have n3 := col_len 0 10
  have x0 : (w.alloc (.cells #[.int .i64 0, .int .i64 0, .int .i64 x] 23)).heap[w.heap.size]? = some (.cells #[.int .i64 0, .int .i64 0, .int .i64 x] 23 (0, 0)) := heap_alloc_new _ _
  have kw : Below w.heap.size w (w.alloc (.cells #[.int .i64 0, .int .i64 0, .int .i64 x] 23)) := (Below.refl _ _).alloc (Nat.le_refl _) _
  go_enter Tryd.func13, Tryd.ntmps13
  go_wp2_with (first
    | (go_at_call 22; have kk1' := kk1; refine (bitsOf_own x W1).mono ?_; rintro e W2 ⟨v2, rfl, own2, nil2, b2⟩; have s2 := b2.size; have kk2 : Below (w.heap.size + 1) (w.alloc (.cells #[.int .i64 0, .int .i64 0, .int .i64 x] 23)) W2 := kk1.trans (b2.mono (by omega)); have x2 : W2.heap[w.heap.size]? = _ := (kk2.block _ (by omega)).trans x0; have ⟨m2a, m2b, m2c, m2d⟩ := cells_of x2; have own2' := own_mono own2 s1; rw [HB.out] at own2')
    | (go_at_call 8; refine (isStyle_agg 0 0 x _ _ HC.out).mono ?_; rintro e W1 ⟨rfl, b1⟩; have kk1 : Below (w.heap.size + 1) (w.alloc (.cells #[.int .i64 0, .int .i64 0, .int .i64 x] 23)) W1 := b1.mono (by simp); have s1 : w.heap.size + 1 ≤ W1.heap.size := (by have := b1.size; simpa using this); have x1 : W1.heap[w.heap.size]? = _ := (kk1.block _ (by omega)).trans x0; have ⟨m1a, m1b, m1c, m1d⟩ := cells_of x1))
  go_ret
  exact ⟨_, rfl, own_mono own2' (by omega), fun e => nil2 (HB.out.trans e), kw.trans (kk2.mono (by omega))⟩
set_option maxHeartbeats 1000000 in
theorem nums_f0 (f x : Int) (w : World) (hc : isSt (f, 0, x) = true) (hf : f ≠ 0) :
    Calls Tryd.prog 13 #[.agg #[.int .i64 f, .int .i64 0, .int .i64 x]] w fun e w' => ∃ v', e = .returned v' ∧ w'.ownsRow w.heap.size 3 1 v' (numsOf (f, 0, x)).length (vals (numsOf (f, 0, x))) ∧ (numsOf (f, 0, x) = [] → v' = .slice none 0 0) ∧ Below w.heap.size w w' := by
  obtain ⟨i0, hi, hz0, hz1, hz2⟩ := info_parts info_int
  have HC : Hid (isSt (f, 0, x) = true) := hc
  have hin := (isSt_iff _).1 hc
  obtain ⟨h1, h2, h3, h4, h5, h6⟩ := hin
  dsimp only at h1 h2 h3 h4 h5 h6
  have HB : Hid (refL x idx = bitsL 0 x looks) := by
    have h := ref_nums ⟨x.toNat, by omega⟩
    simp only [show ((x.toNat : Nat) : Int) = x by omega] at h
    exact h
  have hE : numsOf (f, 0, x) = bitsL 0 x looks ++ colL f 0 := by unfold numsOf addsL; rw [hc]; simp [hf]
  rw [hE]
  clear hE hc
  have n1 := bit_len 0 x
  have n2 := col_len f 0
  have n3 := col_len 0 10
  have x0 : (w.alloc (.cells #[.int .i64 f, .int .i64 0, .int .i64 x] 23)).heap[w.heap.size]? = some (.cells #[.int .i64 f, .int .i64 0, .int .i64 x] 23 (0, 0)) := heap_alloc_new _ _
  have kw : Below w.heap.size w (w.alloc (.cells #[.int .i64 f, .int .i64 0, .int .i64 x] 23)) := (Below.refl _ _).alloc (Nat.le_refl _) _
  go_enter Tryd.func13, Tryd.ntmps13
  go_wp2_with (first
    | (at_builtin; refine wpList_append_own _ rfl _ _ 24 rfl (w.heap.size + 1) 3 i0 (.int .i64 0) 1 8 Tryd.underlying24 hi hz0 hz1 hz2 rfl (by decide) _ _ _ rfl (own_below own2' b3) ⟨g3, 0, none⟩ (colL f 0).length cap3 (vals (colL f 0)) rfl (by simp [vals]) (own_news own3) (ints_oneCell .i64 _) (by unfold maxLen; omega) (by omega) (by omega) ?_; intro v4 W4 own4 gr4 _; have kk4 := kk3.grown gr4 (by omega) (fun k hk => ((own_below own2' b3).lt k hk).1); have s4 := gr4.size; have x4 : W4.heap[w.heap.size]? = _ := (kk4.block _ (by omega)).trans x0; have ⟨m4a, m4b, m4c, m4d⟩ := cells_of x4)
    | (go_at_call 23; have kk2' := kk2; refine (colourOf_own f false W2 h1 h2).mono ?_; rintro e W3 ⟨v3, rfl, own3, b3⟩; have s3 := b3.size; have kk3 : Below (w.heap.size + 1) (w.alloc (.cells #[.int .i64 f, .int .i64 0, .int .i64 x] 23)) W3 := kk2.trans (b3.mono (by omega)); have x3 : W3.heap[w.heap.size]? = _ := (kk3.block _ (by omega)).trans x0; have ⟨m3a, m3b, m3c, m3d⟩ := cells_of x3; obtain ⟨g3, cap3, rfl⟩ := own_some own3 (colL_ne _ _))
    | (go_at_call 22; have kk1' := kk1; refine (bitsOf_own x W1).mono ?_; rintro e W2 ⟨v2, rfl, own2, nil2, b2⟩; have s2 := b2.size; have kk2 : Below (w.heap.size + 1) (w.alloc (.cells #[.int .i64 f, .int .i64 0, .int .i64 x] 23)) W2 := kk1.trans (b2.mono (by omega)); have x2 : W2.heap[w.heap.size]? = _ := (kk2.block _ (by omega)).trans x0; have ⟨m2a, m2b, m2c, m2d⟩ := cells_of x2; have own2' := own_mono own2 s1; rw [HB.out] at own2')
    | (go_at_call 8; refine (isStyle_agg f 0 x _ _ HC.out).mono ?_; rintro e W1 ⟨rfl, b1⟩; have kk1 : Below (w.heap.size + 1) (w.alloc (.cells #[.int .i64 f, .int .i64 0, .int .i64 x] 23)) W1 := b1.mono (by simp); have s1 : w.heap.size + 1 ≤ W1.heap.size := (by have := b1.size; simpa using this); have x1 : W1.heap[w.heap.size]? = _ := (kk1.block _ (by omega)).trans x0; have ⟨m1a, m1b, m1c, m1d⟩ := cells_of x1))
  go_ret
  exact ⟨_, rfl, by have h := own_mono own4 (show w.heap.size ≤ w.heap.size + 1 by omega); simpa [vals, Nat.add_assoc] using h, by simp [colL_ne], kw.trans (kk4.mono (by omega))⟩
set_option maxHeartbeats 1000000 in
theorem nums_0b (b x : Int) (w : World) (hc : isSt (0, b, x) = true) (hb : b ≠ 0) :
    Calls Tryd.prog 13 #[.agg #[.int .i64 0, .int .i64 b, .int .i64 x]] w fun e w' => ∃ v', e = .returned v' ∧ w'.ownsRow w.heap.size 3 1 v' (numsOf (0, b, x)).length (vals (numsOf (0, b, x))) ∧ (numsOf (0, b, x) = [] → v' = .slice none 0 0) ∧ Below w.heap.size w w' := by
  obtain ⟨i0, hi, hz0, hz1, hz2⟩ := info_parts info_int
  have HC : Hid (isSt (0, b, x) = true) := hc
  have hin := (isSt_iff _).1 hc
  obtain ⟨h1, h2, h3, h4, h5, h6⟩ := hin
  dsimp only at h1 h2 h3 h4 h5 h6
  have HB : Hid (refL x idx = bitsL 0 x looks) := by
    have h := ref_nums ⟨x.toNat, by omega⟩
    simp only [show ((x.toNat : Nat) : Int) = x by omega] at h
    exact h
  have hE : numsOf (0, b, x) = bitsL 0 x looks ++ colL b 10 := by unfold numsOf addsL; rw [hc]; simp [hb]
  rw [hE]
  clear hE hc
  have n1 := bit_len 0 x
  have n2 := col_len 0 0
  have n3 := col_len b 10
  have x0 : (w.alloc (.cells #[.int .i64 0, .int .i64 b, .int .i64 x] 23)).heap[w.heap.size]? = some (.cells #[.int .i64 0, .int .i64 b, .int .i64 x] 23 (0, 0)) := heap_alloc_new _ _
  have kw : Below w.heap.size w (w.alloc (.cells #[.int .i64 0, .int .i64 b, .int .i64 x] 23)) := (Below.refl _ _).alloc (Nat.le_refl _) _
  go_enter Tryd.func13, Tryd.ntmps13
  go_wp2_with (first
    | (at_builtin; refine wpList_append_own _ rfl _ _ 24 rfl (w.heap.size + 1) 3 i0 (.int .i64 0) 1 8 Tryd.underlying24 hi hz0 hz1 hz2 rfl (by decide) _ _ _ rfl (own_below own2' b3) ⟨g3, 0, none⟩ (colL b 10).length cap3 (vals (colL b 10)) rfl (by simp [vals]) (own_news own3) (ints_oneCell .i64 _) (by unfold maxLen; omega) (by omega) (by omega) ?_; intro v4 W4 own4 gr4 _; have kk4 := kk3.grown gr4 (by omega) (fun k hk => ((own_below own2' b3).lt k hk).1); have s4 := gr4.size; have x4 : W4.heap[w.heap.size]? = _ := (kk4.block _ (by omega)).trans x0; have ⟨m4a, m4b, m4c, m4d⟩ := cells_of x4)
    | (go_at_call 23; have kk2' := kk2; refine (colourOf_own b true W2 h3 h4).mono ?_; rintro e W3 ⟨v3, rfl, own3, b3⟩; have s3 := b3.size; have kk3 : Below (w.heap.size + 1) (w.alloc (.cells #[.int .i64 0, .int .i64 b, .int .i64 x] 23)) W3 := kk2.trans (b3.mono (by omega)); have x3 : W3.heap[w.heap.size]? = _ := (kk3.block _ (by omega)).trans x0; have ⟨m3a, m3b, m3c, m3d⟩ := cells_of x3; obtain ⟨g3, cap3, rfl⟩ := own_some own3 (colL_ne _ _))
    | (go_at_call 22; have kk1' := kk1; refine (bitsOf_own x W1).mono ?_; rintro e W2 ⟨v2, rfl, own2, nil2, b2⟩; have s2 := b2.size; have kk2 : Below (w.heap.size + 1) (w.alloc (.cells #[.int .i64 0, .int .i64 b, .int .i64 x] 23)) W2 := kk1.trans (b2.mono (by omega)); have x2 : W2.heap[w.heap.size]? = _ := (kk2.block _ (by omega)).trans x0; have ⟨m2a, m2b, m2c, m2d⟩ := cells_of x2; have own2' := own_mono own2 s1; rw [HB.out] at own2')
    | (go_at_call 8; refine (isStyle_agg 0 b x _ _ HC.out).mono ?_; rintro e W1 ⟨rfl, b1⟩; have kk1 : Below (w.heap.size + 1) (w.alloc (.cells #[.int .i64 0, .int .i64 b, .int .i64 x] 23)) W1 := b1.mono (by simp); have s1 : w.heap.size + 1 ≤ W1.heap.size := (by have := b1.size; simpa using this); have x1 : W1.heap[w.heap.size]? = _ := (kk1.block _ (by omega)).trans x0; have ⟨m1a, m1b, m1c, m1d⟩ := cells_of x1))
  go_ret
  exact ⟨_, rfl, by have h := own_mono own4 (show w.heap.size ≤ w.heap.size + 1 by omega); simpa [vals, Nat.add_assoc] using h, by simp [colL_ne], kw.trans (kk4.mono (by omega))⟩
set_option maxHeartbeats 1000000 in
theorem nums_fb (f b x : Int) (w : World) (hc : isSt (f, b, x) = true) (hf : f ≠ 0) (hb : b ≠ 0) :
    Calls Tryd.prog 13 #[.agg #[.int .i64 f, .int .i64 b, .int .i64 x]] w fun e w' => ∃ v', e = .returned v' ∧ w'.ownsRow w.heap.size 3 1 v' (numsOf (f, b, x)).length (vals (numsOf (f, b, x))) ∧ (numsOf (f, b, x) = [] → v' = .slice none 0 0) ∧ Below w.heap.size w w' := by
  obtain ⟨i0, hi, hz0, hz1, hz2⟩ := info_parts info_int
  have HC : Hid (isSt (f, b, x) = true) := hc
  have hin := (isSt_iff _).1 hc
  obtain ⟨h1, h2, h3, h4, h5, h6⟩ := hin
  dsimp only at h1 h2 h3 h4 h5 h6
  have HB : Hid (refL x idx = bitsL 0 x looks) := by
    have h := ref_nums ⟨x.toNat, by omega⟩
    simp only [show ((x.toNat : Nat) : Int) = x by omega] at h
    exact h
  have hE : numsOf (f, b, x) = bitsL 0 x looks ++ colL f 0 ++ colL b 10 := by unfold numsOf addsL; rw [hc]; simp [hf, hb]
  rw [hE]
  clear hE hc
  have n1 := bit_len 0 x
  have n2 := col_len f 0
  have n3 := col_len b 10
  have x0 : (w.alloc (.cells #[.int .i64 f, .int .i64 b, .int .i64 x] 23)).heap[w.heap.size]? = some (.cells #[.int .i64 f, .int .i64 b, .int .i64 x] 23 (0, 0)) := heap_alloc_new _ _
  have kw : Below w.heap.size w (w.alloc (.cells #[.int .i64 f, .int .i64 b, .int .i64 x] 23)) := (Below.refl _ _).alloc (Nat.le_refl _) _
  go_enter Tryd.func13, Tryd.ntmps13
  go_wp2_with (first
    | (at_builtin; refine wpList_append_own _ rfl _ _ 24 rfl (w.heap.size + 1) 3 i0 (.int .i64 0) 1 8 Tryd.underlying24 hi hz0 hz1 hz2 rfl (by decide) _ _ _ rfl (own_below own4 b5) ⟨g5, 0, none⟩ (colL b 10).length cap5 (vals (colL b 10)) rfl (by simp [vals]) (own_news own5) (ints_oneCell .i64 _) (by unfold maxLen; omega) (by omega) (by omega) ?_; intro v6 W6 own6 gr6 _; have kk6 := kk5.grown gr6 (by omega) (fun k hk => ((own_below own4 b5).lt k hk).1); have s6 := gr6.size; have x6 : W6.heap[w.heap.size]? = _ := (kk6.block _ (by omega)).trans x0; have ⟨m6a, m6b, m6c, m6d⟩ := cells_of x6)
    | (go_at_call 23; have kk4' := kk4; refine (colourOf_own b true W4 h3 h4).mono ?_; rintro e W5 ⟨v5, rfl, own5, b5⟩; have s5 := b5.size; have kk5 : Below (w.heap.size + 1) (w.alloc (.cells #[.int .i64 f, .int .i64 b, .int .i64 x] 23)) W5 := kk4.trans (b5.mono (by omega)); have x5 : W5.heap[w.heap.size]? = _ := (kk5.block _ (by omega)).trans x0; have ⟨m5a, m5b, m5c, m5d⟩ := cells_of x5; obtain ⟨g5, cap5, rfl⟩ := own_some own5 (colL_ne _ _))
    | (at_builtin; refine wpList_append_own _ rfl _ _ 24 rfl (w.heap.size + 1) 3 i0 (.int .i64 0) 1 8 Tryd.underlying24 hi hz0 hz1 hz2 rfl (by decide) _ _ _ rfl (own_below own2' b3) ⟨g3, 0, none⟩ (colL f 0).length cap3 (vals (colL f 0)) rfl (by simp [vals]) (own_news own3) (ints_oneCell .i64 _) (by unfold maxLen; omega) (by omega) (by omega) ?_; intro v4 W4 own4 gr4 _; have kk4 := kk3.grown gr4 (by omega) (fun k hk => ((own_below own2' b3).lt k hk).1); have s4 := gr4.size; have x4 : W4.heap[w.heap.size]? = _ := (kk4.block _ (by omega)).trans x0; have ⟨m4a, m4b, m4c, m4d⟩ := cells_of x4)
    | (go_at_call 23; have kk2' := kk2; refine (colourOf_own f false W2 h1 h2).mono ?_; rintro e W3 ⟨v3, rfl, own3, b3⟩; have s3 := b3.size; have kk3 : Below (w.heap.size + 1) (w.alloc (.cells #[.int .i64 f, .int .i64 b, .int .i64 x] 23)) W3 := kk2.trans (b3.mono (by omega)); have x3 : W3.heap[w.heap.size]? = _ := (kk3.block _ (by omega)).trans x0; have ⟨m3a, m3b, m3c, m3d⟩ := cells_of x3; obtain ⟨g3, cap3, rfl⟩ := own_some own3 (colL_ne _ _))
    | (go_at_call 22; have kk1' := kk1; refine (bitsOf_own x W1).mono ?_; rintro e W2 ⟨v2, rfl, own2, nil2, b2⟩; have s2 := b2.size; have kk2 : Below (w.heap.size + 1) (w.alloc (.cells #[.int .i64 f, .int .i64 b, .int .i64 x] 23)) W2 := kk1.trans (b2.mono (by omega)); have x2 : W2.heap[w.heap.size]? = _ := (kk2.block _ (by omega)).trans x0; have ⟨m2a, m2b, m2c, m2d⟩ := cells_of x2; have own2' := own_mono own2 s1; rw [HB.out] at own2')
    | (go_at_call 8; refine (isStyle_agg f b x _ _ HC.out).mono ?_; rintro e W1 ⟨rfl, b1⟩; have kk1 : Below (w.heap.size + 1) (w.alloc (.cells #[.int .i64 f, .int .i64 b, .int .i64 x] 23)) W1 := b1.mono (by simp); have s1 : w.heap.size + 1 ≤ W1.heap.size := (by have := b1.size; simpa using this); have x1 : W1.heap[w.heap.size]? = _ := (kk1.block _ (by omega)).trans x0; have ⟨m1a, m1b, m1c, m1d⟩ := cells_of x1))
  go_ret
  exact ⟨_, rfl, by have h := own_mono own6 (show w.heap.size ≤ w.heap.size + 1 by omega); simpa [vals, Nat.add_assoc] using h, by simp [colL_ne], kw.trans (kk6.mono (by omega))⟩
theorem nums_bad (f b x : Int) (w : World) (hc : isSt (f, b, x) = false) :
    Calls Tryd.prog 13 #[.agg #[.int .i64 f, .int .i64 b, .int .i64 x]] w fun e w' => e = .returned (.slice none 0 0) ∧ Below w.heap.size w w' := by
  have HC : Hid (isSt (f, b, x) = false) := hc
  clear hc
  go_enter Tryd.func13, Tryd.ntmps13
  go_wp2_with (go_at_call 8; refine (isStyle_agg f b x _ _ HC.out).mono ?_; rintro e W1 ⟨rfl, b1⟩)
  go_ret
  exact ⟨rfl, ((Below.refl _ w).alloc (Nat.le_refl _) _).trans (b1.mono (by simp))⟩
theorem numbersOf_own (f b x : Int) (w : World) :
    Calls Tryd.prog 13 #[.agg #[.int .i64 f, .int .i64 b, .int .i64 x]] w fun e w' => ∃ v', e = .returned v' ∧ w'.ownsRow w.heap.size 3 1 v' (numsOf (f, b, x)).length (vals (numsOf (f, b, x))) ∧ (numsOf (f, b, x) = [] → v' = .slice none 0 0) ∧ Below w.heap.size w w' := by
  cases hc : isSt (f, b, x) with
  | false =>
    refine (nums_bad f b x w hc).mono fun e w' ⟨he, hb⟩ => ⟨_, he, ?_, fun _ => rfl, hb⟩
    have h0 : numsOf (f, b, x) = [] := by unfold numsOf; rw [hc]; rfl
    rw [h0]
    exact ⟨rfl, .inl ⟨rfl, rfl⟩⟩
  | true =>
    by_cases hf : f = 0
    · subst hf
      by_cases hb : b = 0
      · subst hb
        exact nums_00 x w hc
      · exact nums_0b b x w hc hb
    · by_cases hb : b = 0
      · subst hb
        exact nums_f0 f x w hc hf
      · exact nums_fb f b x w hc hf hb
end Sty
end Go.Proofs.YthnphjdpifpehaaDoor
