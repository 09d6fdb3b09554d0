/- The walk of the law TextParts. -/
import Derived.Test.YtgbenpokncmfmaaDoorTextTab
import Derived.Lib.QuietBelow
namespace Go.Proofs.YtgbenpokncmfmaaDoor
open Go.ChangeShapes Go.WideShapes Go.ChangeAt Go.RowKit Go.Sort
namespace Txt
theorem Tab.grown {w : World} (h : Tab w) (d : Nat) (os : Array Obj) : Tab (grow (redrawn w d) os) := h.below (below_regrown w d os) h.pos
theorem cutB_prefix (l : List UInt8) (n : Int) : Lib.hasPrefix l (cutB l n) = true := by
  unfold cutB
  simp [Lib.hasPrefix, List.take_prefix]
theorem fitB_wide (l : List UInt8) (n : Int) (h0 : 0 ≤ n) (h1 : n ≤ 120) : wideB (fitB l n) = n := by
  unfold fitB; rw [if_neg (by omega)]; exact fit_wide n h0 l
theorem fitB_again (l : List UInt8) (n : Int) (h0 : 0 ≤ n) (h1 : n ≤ 120) : cutB (fitB l n) n = fitB l n := by
  unfold fitB; rw [if_neg (by omega)]; exact fit_again n h0 l
theorem cutB_again (l : List UInt8) (n : Int) : cutB (cutB l n) n = cutB l n := cut_again n l
theorem fitB_length (l : List UInt8) (n : Int) : (fitB l n).length ≤ l.length + 120 := by
  unfold fitB
  split
  · simp
  · have h := cut_wide n (by omega) l
    unfold fitL
    rw [List.length_append, List.length_replicate, List.length_take]
    omega
theorem drop_b (l : List UInt8) (k : Nat) : (bs l).extract k l.length = bs (l.drop k) := by
  rw [Lib.extract_eq, bs_data]
  unfold bs
  congr 2
  exact List.take_of_length_le (by simp)
theorem cutB_parts (l : List UInt8) (n : Int) : wideB (cutB l n) + wideB (l.drop (cutB l n).length) = wideB l := by
  have h := cut_parts n l
  have e : l.drop (cutB l n).length = l.drop (cutL n (rn l) 0) := by
    unfold cutB
    rw [List.length_take]
    have := cut_le n l 0
    rw [Nat.min_eq_left this]
  rw [e]
  exact h
theorem wideB_range (l : List UInt8) : 0 ≤ wideB l ∧ wideB l ≤ 2 * l.length := by
  have := wideS_range (bs l)
  rw [bs_size] at this
  unfold wideS at this
  rw [runes_rn, bs_data] at this
  exact this

set_option maxHeartbeats 2000000 in
theorem textParts_neg (l : List UInt8) (n : Int) (w : World) (hT : Tab w) (hs : l.length ≤ 281474976700000) (hn : n < 0) :
    Calls Tryd.prog 7 #[.string (bs l), .int .i64 n] w fun e w' => e = .returned (.bool true) ∧ Below w.heap.size w w' := by
  have hpos := hT.pos
  have HT : Hid (Tab w) := hT
  clear hT
  have hcl := cutB_length l n
  have hfl := fitB_length l n
  go_enter Tryd.func7, Tryd.ntmps7
  go_wp2_with fail
  refine (cut_b _ _ _ HT.out (by omega)).mono ?_
  rintro e W1 ⟨rfl, b1⟩
  go_wp2_with fail
  refine (written_yes _ (HT.out.below b1 hpos)).mono ?_
  rintro e W2 ⟨rfl, b2⟩
  have b12 := b1.trans (b2.mono b1.size)
  clear b1 b2
  go_wp2_with fail
  refine (Tryd.strings_HasPrefix (bs l) (bs (cutB l n)) _).mono ?_
  rintro e W3 ⟨rfl, rfl⟩
  rw [bs_data, bs_data, cutB_prefix]
  go_wp2_with fail
  refine (fit_b _ _ _ (HT.out.below b12 hpos) (by omega)).mono ?_
  rintro e W4 ⟨rfl, b4⟩
  have b14 := b12.trans (b4.mono b12.size)
  clear b12 b4
  go_wp2_with fail
  have hTW := HT.out.below b14 hpos
  have hpre := cutB_parts l n
  have hag := cutB_again l n
  have r1 := wideB_range (cutB l n)
  have r2 := wideB_range (l.drop (cutB l n).length)
  have hdl : (l.drop (cutB l n).length).length ≤ l.length := by simp
  generalize cutB l n = cl at *
  have K1 : Hid (∀ d os, Calls Tryd.prog 13 #[.string (bs cl)] (grow (redrawn W4 d) os) fun e w'' => e = .returned (.int .i64 (wideB cl)) ∧ ∃ p : Regrown, w'' = grow (redrawn W4 p.d) p.os) := fun d os => Calls.regrown_of (wide_b cl _ (hTW.grown d os) (by omega))
  have K2 : Hid (∀ d os, Calls Tryd.prog 13 #[.string ((bs l).extract (bs cl).size (bs l).size)] (grow (redrawn W4 d) os) fun e w'' => e = .returned (.int .i64 (wideB (l.drop cl.length))) ∧ ∃ p : Regrown, w'' = grow (redrawn W4 p.d) p.os) := fun d os => by
    rw [bs_size, bs_size, drop_b]
    exact Calls.regrown_of (wide_b (l.drop cl.length) _ (hTW.grown d os) (by omega))
  have K3 : Hid (∀ d os, Calls Tryd.prog 13 #[.string (bs l)] (grow (redrawn W4 d) os) fun e w'' => e = .returned (.int .i64 (wideB l)) ∧ ∃ p : Regrown, w'' = grow (redrawn W4 p.d) p.os) := fun d os => Calls.regrown_of (wide_b l _ (hTW.grown d os) (by omega))
  have K4 : Hid (∀ d os, Calls Tryd.prog 17 #[.string (bs cl), .int .i64 n] (grow (redrawn W4 d) os) fun e w'' => e = .returned (.string (bs cl)) ∧ ∃ p : Regrown, w'' = grow (redrawn W4 p.d) p.os) := fun d os => Calls.regrown_of (by
    have := cut_b cl n (grow (redrawn W4 d) os) (hTW.grown d os) (by omega)
    rwa [hag] at this)
  have hle : (bs cl).size ≤ (bs l).size := by rw [bs_size, bs_size]; exact hcl
  have hbl : (bs l).size ≤ 281474976700000 := by rw [bs_size]; exact hs
  clear hag hfl
  generalize wideB cl = c1 at *
  generalize wideB (l.drop cl.length) = c2 at *
  generalize wideB l = c3 at *
  have hb : IntKind.i64.wrap (c1 + c2) = c3 := by
    rw [IntWalk.i64_left, IntWalk.wrap64_in _ (by omega)]; exact hpre
  clear hpre hTW
  refine wp_region_quiet_below (by kernel_rfl) (by kernel_rfl) ?_
  repeat (quiet_step (first | (go_at_call_of 13 (Value.string (bs cl)); exact K1.out _ _) | (go_at_call_of 13 (Value.string (bs l)); exact K3.out _ _) | (go_at_call_of 13 (Value.string ((bs l).extract (bs cl).size (bs l).size)); exact K2.out _ _) | (go_at_call 17; exact K4.out _ _)))
  refine wpQuiet_nil ?_
  intro _ hw'
  obtain ⟨⟨dq, osq⟩, hw''⟩ := hw'
  subst hw''
  go_wp2
  go_ret
  exact ⟨rfl, b14.trans ((below_regrown W4 dq osq).mono b14.size)⟩

set_option maxHeartbeats 2000000 in
theorem textParts_big (l : List UInt8) (n : Int) (w : World) (hT : Tab w) (hs : l.length ≤ 281474976700000) (hn : 120 < n) :
    Calls Tryd.prog 7 #[.string (bs l), .int .i64 n] w fun e w' => e = .returned (.bool true) ∧ Below w.heap.size w w' := by
  have hpos := hT.pos
  have HT : Hid (Tab w) := hT
  clear hT
  have hcl := cutB_length l n
  have hfl := fitB_length l n
  go_enter Tryd.func7, Tryd.ntmps7
  go_wp2_with fail
  refine (cut_b _ _ _ HT.out (by omega)).mono ?_
  rintro e W1 ⟨rfl, b1⟩
  go_wp2_with fail
  refine (written_yes _ (HT.out.below b1 hpos)).mono ?_
  rintro e W2 ⟨rfl, b2⟩
  have b12 := b1.trans (b2.mono b1.size)
  clear b1 b2
  go_wp2_with fail
  refine (Tryd.strings_HasPrefix (bs l) (bs (cutB l n)) _).mono ?_
  rintro e W3 ⟨rfl, rfl⟩
  rw [bs_data, bs_data, cutB_prefix]
  go_wp2_with fail
  refine (fit_b _ _ _ (HT.out.below b12 hpos) (by omega)).mono ?_
  rintro e W4 ⟨rfl, b4⟩
  have b14 := b12.trans (b4.mono b12.size)
  clear b12 b4
  go_wp2_with fail
  have hcw : wideB (cutB l n) ≤ n := (cut_wide n (by omega) l).2
  have hTW := HT.out.below b14 hpos
  have hpre := cutB_parts l n
  have hag := cutB_again l n
  have r1 := wideB_range (cutB l n)
  have r2 := wideB_range (l.drop (cutB l n).length)
  have hdl : (l.drop (cutB l n).length).length ≤ l.length := by simp
  generalize cutB l n = cl at *
  have K1 : Hid (∀ d os, Calls Tryd.prog 13 #[.string (bs cl)] (grow (redrawn W4 d) os) fun e w'' => e = .returned (.int .i64 (wideB cl)) ∧ ∃ p : Regrown, w'' = grow (redrawn W4 p.d) p.os) := fun d os => Calls.regrown_of (wide_b cl _ (hTW.grown d os) (by omega))
  have K2 : Hid (∀ d os, Calls Tryd.prog 13 #[.string ((bs l).extract (bs cl).size (bs l).size)] (grow (redrawn W4 d) os) fun e w'' => e = .returned (.int .i64 (wideB (l.drop cl.length))) ∧ ∃ p : Regrown, w'' = grow (redrawn W4 p.d) p.os) := fun d os => by
    rw [bs_size, bs_size, drop_b]
    exact Calls.regrown_of (wide_b (l.drop cl.length) _ (hTW.grown d os) (by omega))
  have K3 : Hid (∀ d os, Calls Tryd.prog 13 #[.string (bs l)] (grow (redrawn W4 d) os) fun e w'' => e = .returned (.int .i64 (wideB l)) ∧ ∃ p : Regrown, w'' = grow (redrawn W4 p.d) p.os) := fun d os => Calls.regrown_of (wide_b l _ (hTW.grown d os) (by omega))
  have K4 : Hid (∀ d os, Calls Tryd.prog 17 #[.string (bs cl), .int .i64 n] (grow (redrawn W4 d) os) fun e w'' => e = .returned (.string (bs cl)) ∧ ∃ p : Regrown, w'' = grow (redrawn W4 p.d) p.os) := fun d os => Calls.regrown_of (by
    have := cut_b cl n (grow (redrawn W4 d) os) (hTW.grown d os) (by omega)
    rwa [hag] at this)
  have hle : (bs cl).size ≤ (bs l).size := by rw [bs_size, bs_size]; exact hcl
  have hbl : (bs l).size ≤ 281474976700000 := by rw [bs_size]; exact hs
  clear hag hfl
  generalize wideB cl = c1 at *
  generalize wideB (l.drop cl.length) = c2 at *
  generalize wideB l = c3 at *
  have hb : IntKind.i64.wrap (c1 + c2) = c3 := by
    rw [IntWalk.i64_left, IntWalk.wrap64_in _ (by omega)]; exact hpre
  clear hpre hTW
  refine wp_region_quiet_below (by kernel_rfl) (by kernel_rfl) ?_
  repeat (quiet_step (first | (go_at_call_of 13 (Value.string (bs cl)); exact K1.out _ _) | (go_at_call_of 13 (Value.string (bs l)); exact K3.out _ _) | (go_at_call_of 13 (Value.string ((bs l).extract (bs cl).size (bs l).size)); exact K2.out _ _) | (go_at_call 17; exact K4.out _ _)))
  refine wpQuiet_nil ?_
  intro _ hw'
  obtain ⟨⟨dq, osq⟩, hw''⟩ := hw'
  subst hw''
  go_wp2
  go_ret
  exact ⟨rfl, b14.trans ((below_regrown W4 dq osq).mono b14.size)⟩

set_option maxHeartbeats 2000000 in
theorem textParts_mid (l : List UInt8) (n : Int) (w : World) (hT : Tab w) (hs : l.length ≤ 281474976700000) (hn : 0 ≤ n) (hn2 : n ≤ 120) :
    Calls Tryd.prog 7 #[.string (bs l), .int .i64 n] w fun e w' => e = .returned (.bool true) ∧ Below w.heap.size w w' := by
  have hpos := hT.pos
  have HT : Hid (Tab w) := hT
  clear hT
  have hcl := cutB_length l n
  have hfl := fitB_length l n
  go_enter Tryd.func7, Tryd.ntmps7
  go_wp2_with fail
  refine (cut_b _ _ _ HT.out (by omega)).mono ?_
  rintro e W1 ⟨rfl, b1⟩
  go_wp2_with fail
  refine (written_yes _ (HT.out.below b1 hpos)).mono ?_
  rintro e W2 ⟨rfl, b2⟩
  have b12 := b1.trans (b2.mono b1.size)
  clear b1 b2
  go_wp2_with fail
  refine (Tryd.strings_HasPrefix (bs l) (bs (cutB l n)) _).mono ?_
  rintro e W3 ⟨rfl, rfl⟩
  rw [bs_data, bs_data, cutB_prefix]
  go_wp2_with fail
  refine (fit_b _ _ _ (HT.out.below b12 hpos) (by omega)).mono ?_
  rintro e W4 ⟨rfl, b4⟩
  have b14 := b12.trans (b4.mono b12.size)
  clear b12 b4
  go_wp2_with fail
  refine (wide_b (fitB l n) _ (HT.out.below b14 hpos) (by omega)).mono ?_
  rintro e W5 ⟨rfl, b5⟩
  have b15 := b14.trans (b5.mono b14.size)
  clear b14 b5
  rw [fitB_wide l n hn hn2]
  go_wp2_with fail
  refine (cut_b (fitB l n) n _ (HT.out.below b15 hpos) (by omega)).mono ?_
  rintro e W6 ⟨rfl, b6⟩
  have b16 := b15.trans (b6.mono b15.size)
  clear b15 b6
  rw [fitB_again l n hn hn2]
  go_wp2_with fail
  have hcw : wideB (cutB l n) ≤ n := (cut_wide n hn l).2
  have hTW := HT.out.below b16 hpos
  have hpre := cutB_parts l n
  have hag := cutB_again l n
  have r1 := wideB_range (cutB l n)
  have r2 := wideB_range (l.drop (cutB l n).length)
  have hdl : (l.drop (cutB l n).length).length ≤ l.length := by simp
  generalize cutB l n = cl at *
  have K1 : Hid (∀ d os, Calls Tryd.prog 13 #[.string (bs cl)] (grow (redrawn W6 d) os) fun e w'' => e = .returned (.int .i64 (wideB cl)) ∧ ∃ p : Regrown, w'' = grow (redrawn W6 p.d) p.os) := fun d os => Calls.regrown_of (wide_b cl _ (hTW.grown d os) (by omega))
  have K2 : Hid (∀ d os, Calls Tryd.prog 13 #[.string ((bs l).extract (bs cl).size (bs l).size)] (grow (redrawn W6 d) os) fun e w'' => e = .returned (.int .i64 (wideB (l.drop cl.length))) ∧ ∃ p : Regrown, w'' = grow (redrawn W6 p.d) p.os) := fun d os => by
    rw [bs_size, bs_size, drop_b]
    exact Calls.regrown_of (wide_b (l.drop cl.length) _ (hTW.grown d os) (by omega))
  have K3 : Hid (∀ d os, Calls Tryd.prog 13 #[.string (bs l)] (grow (redrawn W6 d) os) fun e w'' => e = .returned (.int .i64 (wideB l)) ∧ ∃ p : Regrown, w'' = grow (redrawn W6 p.d) p.os) := fun d os => Calls.regrown_of (wide_b l _ (hTW.grown d os) (by omega))
  have K4 : Hid (∀ d os, Calls Tryd.prog 17 #[.string (bs cl), .int .i64 n] (grow (redrawn W6 d) os) fun e w'' => e = .returned (.string (bs cl)) ∧ ∃ p : Regrown, w'' = grow (redrawn W6 p.d) p.os) := fun d os => Calls.regrown_of (by
    have := cut_b cl n (grow (redrawn W6 d) os) (hTW.grown d os) (by omega)
    rwa [hag] at this)
  have hle : (bs cl).size ≤ (bs l).size := by rw [bs_size, bs_size]; exact hcl
  have hbl : (bs l).size ≤ 281474976700000 := by rw [bs_size]; exact hs
  clear hag hfl
  generalize wideB cl = c1 at *
  generalize wideB (l.drop cl.length) = c2 at *
  generalize wideB l = c3 at *
  have hb : IntKind.i64.wrap (c1 + c2) = c3 := by
    rw [IntWalk.i64_left, IntWalk.wrap64_in _ (by omega)]; exact hpre
  clear hpre hTW
  refine wp_region_quiet_below (by kernel_rfl) (by kernel_rfl) ?_
  repeat (quiet_step (first | (go_at_call_of 13 (Value.string (bs cl)); exact K1.out _ _) | (go_at_call_of 13 (Value.string (bs l)); exact K3.out _ _) | (go_at_call_of 13 (Value.string ((bs l).extract (bs cl).size (bs l).size)); exact K2.out _ _) | (go_at_call 17; exact K4.out _ _)))
  refine wpQuiet_nil ?_
  intro _ hw'
  obtain ⟨⟨dq, osq⟩, hw''⟩ := hw'
  subst hw''
  go_wp2
  go_ret
  exact ⟨rfl, b16.trans ((below_regrown W6 dq osq).mono b16.size)⟩
end Txt
end Go.Proofs.YtgbenpokncmfmaaDoor
