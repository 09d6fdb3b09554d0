/- The walk of the law GridCheck. -/
import Derived.Test.YtinhmklpnkikgaaDoorGridded2
import Derived.Test.YtinhmklpnkikgaaDoorGridRef
import Derived.Lib.QuietBelow
import Derived.BigQuiet
import Derived.Deep.RegionHeld3
namespace Go.Proofs.YtinhmklpnkikgaaDoor
open Go.ChangeShapes Go.WideShapes Go.ChangeAt Go.RowKit
namespace Grd
theorem next3 {X W W' : World} {m : Nat} {a0 a1 a2 : Value} (hb : Below W.heap.size W W')
    (h : Below X.heap.size X W ∧ W.cell? ⟨m, 0, none⟩ = some a0 ∧ W.cell? ⟨m, 1, none⟩ = some a1 ∧ W.cell? ⟨m, 2, none⟩ = some a2) :
    Below X.heap.size X W' ∧ W'.cell? ⟨m, 0, none⟩ = some a0 ∧ W'.cell? ⟨m, 1, none⟩ = some a1 ∧ W'.cell? ⟨m, 2, none⟩ = some a2 := by
  obtain ⟨k0, d0, d1, d2⟩ := h
  exact ⟨k0.trans (hb.mono k0.size), cell_keep hb d0, cell_keep hb d1, cell_keep hb d2⟩
theorem start3 {X : World} {m : Nat} {a0 a1 a2 : Value} (d0 : X.cell? ⟨m, 0, none⟩ = some a0) (d1 : X.cell? ⟨m, 1, none⟩ = some a1) (d2 : X.cell? ⟨m, 2, none⟩ = some a2) (W : World) (hW : W = X.drew) :
    Below X.heap.size X W ∧ W.cell? ⟨m, 0, none⟩ = some a0 ∧ W.cell? ⟨m, 1, none⟩ = some a1 ∧ W.cell? ⟨m, 2, none⟩ = some a2 := by
  subst hW
  exact ⟨(Below.refl _ _).drew, by rw [World.cell?_drew]; exact d0, by rw [World.cell?_drew]; exact d1, by rw [World.cell?_drew]; exact d2⟩
set_option maxHeartbeats 4000000 in
theorem gridCheck_bad (a h pw ph : Int) (v : Value) (cs : List C) (w : World) (hT : Txt.Tab w) (hS : SliceAt w v cs) (hs : isSize pw ph = false) :
    Calls Tryd.prog 3 #[.agg #[.int .i64 a, .int .i64 h, v], .int .i64 pw, .int .i64 ph] w fun e w' => e = .returned (.bool true) ∧ Below w.heap.size w w' := by
  have HT : Hid (∀ W, Below w.heap.size w W → Txt.Tab W) := fun W k => Tab.next hT k
  have HS : Hid (∀ W, Below w.heap.size w W → SliceAt W v cs) := fun W k => hS.below k
  have H : Hid (isSize pw ph = false) := hs
  have kk : Below w.heap.size w (w.alloc (.cells #[.int .i64 a, .int .i64 h, v] 24)) := (Below.refl _ _).alloc (Nat.le_refl _) _
  have x0 := heap_alloc_new w (.cells #[.int .i64 a, .int .i64 h, v] 24)
  clear hT hS hs
  go_enter Tryd.func3, Tryd.ntmps3
  go_wp2_with (first
    | (go_at_call 9; refine (new_bad pw ph _ H.out).mono ?_; rintro e W1 ⟨rfl, b1⟩; have y0 := carry x0 b1; have k1 := kk.trans (b1.mono kk.size))
    | (refine wpList_store_row rfl 24 (.tmp 7) _ rfl W1.heap.size #[.int .i64 0, .int .i64 0, .slice none 0 0] rfl rfl _ _ (heap_alloc_new W1 _) (by kernel_rfl) rfl (one3v _ _ _ _ _) ?_
       obtain ⟨m1, a1⟩ := var_new W1 24 #[.int .i64 0, .int .i64 0, .slice none 0 0] #[.int .i64 0, .int .i64 0, .slice none 0 0]
       generalize ((W1.alloc (.cells #[.int .i64 0, .int .i64 0, .slice none 0 0] 24)).setRow W1.heap.size #[.int .i64 0, .int .i64 0, .slice none 0 0]) = X at *
       have kX := k1.trans (a1.mono k1.size)
       have z0 := carry y0 a1))
  obtain ⟨e0, e1, e2, _⟩ := cells3 z0
  have y0 : ∀ d os, (Sort.grow (redrawn X d) os).cell? ⟨w.heap.size, 0, none⟩ = some (.int .i64 a) := fun d os => cell_regrown e0 d os
  have y1 : ∀ d os, (Sort.grow (redrawn X d) os).cell? ⟨w.heap.size, 1, none⟩ = some (.int .i64 h) := fun d os => cell_regrown e1 d os
  have y2 : ∀ d os, (Sort.grow (redrawn X d) os).cell? ⟨w.heap.size, 2, none⟩ = some v := fun d os => cell_regrown e2 d os
  have KB : ∀ d os, Below w.heap.size w (Sort.grow (redrawn X d) os) := fun d os => kX.trans ((below_regrown X d os).mono kX.size)
  obtain ⟨er, her⟩ : ∃ q, gridErr a h cs = q := ⟨_, rfl⟩
  have K1 : Hid (∀ d os, Calls Tryd.prog 10 #[] (Sort.grow (redrawn X d) os) fun e w'' => e = .returned (.bool true) ∧ ∃ p : Regrown, w'' = Sort.grow (redrawn X p.d) p.os) := fun d os => Calls.regrown_of (gridded_any _ (HT.out _ (KB d os)))
  have K2 : Hid (∀ d os, Calls Tryd.prog 11 #[.agg #[.int .i64 a, .int .i64 h, v]] (Sort.grow (redrawn X d) os) fun e w'' => e = .returned (.int .i64 er) ∧ ∃ p : Regrown, w'' = Sort.grow (redrawn X p.d) p.os) := fun d os => Calls.regrown_of (by have := check_any a h v cs _ (HT.out _ (KB d os)) (HS.out _ (KB d os)); rwa [her] at this)
  have K3 : Hid (∀ d os, Calls Tryd.prog 12 #[.agg #[.int .i64 a, .int .i64 h, v]] (Sort.grow (redrawn X d) os) fun e w'' => e = .returned (.int .i64 er) ∧ ∃ p : Regrown, w'' = Sort.grow (redrawn X p.d) p.os) := fun d os => Calls.regrown_of (by have := ref_any a h v cs _ (HS.out _ (KB d os)); rwa [her] at this)
  have ne : (er != er) = false := by simp
  clear her KB
  refine wp_region_quiet_below (by kernel_rfl) (by kernel_rfl) ?_
  repeat (first | go_big_quiet_skip | quiet_step (first | (go_at_call 10; exact K1.out _ _) | (go_at_call 11; exact K2.out _ _) | (go_at_call 12; exact K3.out _ _)))
  refine wpQuiet_nil ?_
  intro _ hw'
  obtain ⟨⟨dq, os⟩, hw''⟩ := hw'
  subst hw''
  have kR := below_regrown X dq os
  have k3 : Below w.heap.size w (Sort.grow (redrawn X dq) os) := kX.trans (kR.mono kX.size)
  have mR := carry m1 kR
  generalize Sort.grow (redrawn X dq) os = W3 at *
  clear K1 K2 K3 y0 y1 y2
  obtain ⟨f0, f1, f2, _⟩ := cells3 mR
  have HZ : Hid (Calls Tryd.prog 13 #[.int .i64 pw, .int .i64 ph] W3 fun e w' => e = .returned (.bool false) ∧ W3 = w') := by
    have := size_any pw ph W3
    rwa [H.out] at this
  go_wp2_with (first
    | (go_at_call 13; refine HZ.out.mono ?_; rintro e W4 ⟨rfl, rfl⟩)
    | (go_at_call 14; refine (noGrid_none _).mono ?_; rintro e W5 ⟨rfl, b5⟩))
  go_ret
  exact ⟨rfl, k3.trans (b5.mono k3.size)⟩
set_option maxHeartbeats 4000000 in
theorem gridCheck_good (a h pw ph : Int) (v : Value) (cs : List C) (w : World) (hT : Txt.Tab w) (hS : SliceAt w v cs) (hs : isSize pw ph = true) :
    Calls Tryd.prog 3 #[.agg #[.int .i64 a, .int .i64 h, v], .int .i64 pw, .int .i64 ph] w fun e w' => e = .returned (.bool true) ∧ Below w.heap.size w w' := by
  have HT : Hid (∀ W, Below w.heap.size w W → Txt.Tab W) := fun W k => Tab.next hT k
  have HS : Hid (∀ W, Below w.heap.size w W → SliceAt W v cs) := fun W k => hS.below k
  have H : Hid (isSize pw ph = true) := hs
  have ⟨_, p1, _⟩ := prod_in pw ph hs
  have HLE : Hid ((List.replicate (pw * ph).toNat blank).length ≤ 1000000) := by unfold Hid; rw [List.length_replicate]; omega
  have kk : Below w.heap.size w (w.alloc (.cells #[.int .i64 a, .int .i64 h, v] 24)) := (Below.refl _ _).alloc (Nat.le_refl _) _
  have x0 := heap_alloc_new w (.cells #[.int .i64 a, .int .i64 h, v] 24)
  clear hT hS hs p1
  have KN : Hid (∀ W, Calls Tryd.prog 9 #[.int .i64 pw, .int .i64 ph] W fun e w' => ∃ v, e = .returned (.tuple #[.agg #[.int .i64 pw, .int .i64 ph, v], .int .i64 0]) ∧ OwnG w' W.heap.size v (List.replicate (pw * ph).toNat blank) ∧ Below W.heap.size W w') := fun W => new_good pw ph W H.out
  have KR : Hid (∀ W, Calls Tryd.prog 16 #[.int .i64 pw, .int .i64 ph] W fun e w' => ∃ v, e = .returned (.agg #[.int .i64 pw, .int .i64 ph, v]) ∧ OwnG w' W.heap.size v (List.replicate (pw * ph).toNat blank) ∧ Below W.heap.size W w') := fun W => newGrid_any pw ph W H.out
  generalize List.replicate (pw * ph).toNat blank = bl at HLE KN KR
  go_enter Tryd.func3, Tryd.ntmps3
  go_wp2_with (first
    | (go_at_call 9; refine (KN.out _).mono ?_; rintro e W1 ⟨_, rfl, ⟨g1, c1, r1, t1, rfl, hg1, hc1, hm1, h1⟩, b1⟩; have y0 := carry x0 b1; have k1 := kk.trans (b1.mono kk.size))
    | (refine wpList_store_row rfl 24 (.tmp 7) _ rfl W1.heap.size #[.int .i64 pw, .int .i64 ph, .slice (some ⟨g1, 0, none⟩) bl.length c1] rfl rfl _ _ (heap_alloc_new W1 _) (by kernel_rfl) rfl (one3v _ _ _ _ _) ?_
       obtain ⟨m1, a1⟩ := var_new W1 24 #[.int .i64 0, .int .i64 0, .slice none 0 0] #[.int .i64 pw, .int .i64 ph, .slice (some ⟨g1, 0, none⟩) bl.length c1]
       generalize ((W1.alloc (.cells #[.int .i64 0, .int .i64 0, .slice none 0 0] 24)).setRow W1.heap.size #[.int .i64 pw, .int .i64 ph, .slice (some ⟨g1, 0, none⟩) bl.length c1]) = X at *
       have kX := k1.trans (a1.mono k1.size)
       have z0 := carry y0 a1))
  obtain ⟨e0, e1, e2, _⟩ := cells3 z0
  have HSX : Hid (SliceAt X (.slice (some ⟨g1, 0, none⟩) bl.length c1) bl) := (OwnG.slice (base := 0) ⟨g1, c1, r1, t1, rfl, by omega, hc1, hm1, h1⟩).below a1
  clear y0
  have y0 : ∀ d os, (Sort.grow (redrawn X d) os).cell? ⟨w.heap.size, 0, none⟩ = some (.int .i64 a) := fun d os => cell_regrown e0 d os
  have y1 : ∀ d os, (Sort.grow (redrawn X d) os).cell? ⟨w.heap.size, 1, none⟩ = some (.int .i64 h) := fun d os => cell_regrown e1 d os
  have y2 : ∀ d os, (Sort.grow (redrawn X d) os).cell? ⟨w.heap.size, 2, none⟩ = some v := fun d os => cell_regrown e2 d os
  have KB : ∀ d os, Below w.heap.size w (Sort.grow (redrawn X d) os) := fun d os => kX.trans ((below_regrown X d os).mono kX.size)
  obtain ⟨er, her⟩ : ∃ q, gridErr a h cs = q := ⟨_, rfl⟩
  have K1 : Hid (∀ d os, Calls Tryd.prog 10 #[] (Sort.grow (redrawn X d) os) fun e w'' => e = .returned (.bool true) ∧ ∃ p : Regrown, w'' = Sort.grow (redrawn X p.d) p.os) := fun d os => Calls.regrown_of (gridded_any _ (HT.out _ (KB d os)))
  have K2 : Hid (∀ d os, Calls Tryd.prog 11 #[.agg #[.int .i64 a, .int .i64 h, v]] (Sort.grow (redrawn X d) os) fun e w'' => e = .returned (.int .i64 er) ∧ ∃ p : Regrown, w'' = Sort.grow (redrawn X p.d) p.os) := fun d os => Calls.regrown_of (by have := check_any a h v cs _ (HT.out _ (KB d os)) (HS.out _ (KB d os)); rwa [her] at this)
  have K3 : Hid (∀ d os, Calls Tryd.prog 12 #[.agg #[.int .i64 a, .int .i64 h, v]] (Sort.grow (redrawn X d) os) fun e w'' => e = .returned (.int .i64 er) ∧ ∃ p : Regrown, w'' = Sort.grow (redrawn X p.d) p.os) := fun d os => Calls.regrown_of (by have := ref_any a h v cs _ (HS.out _ (KB d os)); rwa [her] at this)
  have ne : (er != er) = false := by simp
  clear her KB
  refine wp_region_quiet_below (by kernel_rfl) (by kernel_rfl) ?_
  repeat (first | go_big_quiet_skip | quiet_step (first | (go_at_call 10; exact K1.out _ _) | (go_at_call 11; exact K2.out _ _) | (go_at_call 12; exact K3.out _ _)))
  refine wpQuiet_nil ?_
  intro _ hw'
  obtain ⟨⟨dq, os⟩, hw''⟩ := hw'
  subst hw''
  have kR := below_regrown X dq os
  have k3 : Below w.heap.size w (Sort.grow (redrawn X dq) os) := kX.trans (kR.mono kX.size)
  have mR := carry m1 kR
  have HSR := HSX.out.below kR
  generalize Sort.grow (redrawn X dq) os = W3 at *
  clear K1 K2 K3 y0 y1 y2 HSX h1 m1 z0 e0 e1 e2 a1 b1
  obtain ⟨f0, f1, f2, _⟩ := cells3 mR
  have HSW : Hid (SliceAt W3 (.slice (some ⟨g1, 0, none⟩) bl.length c1) bl) := HSR
  clear HSR
  generalize W1.heap.size = M at *
  have HZ : Hid (Calls Tryd.prog 13 #[.int .i64 pw, .int .i64 ph] W3 fun e w' => e = .returned (.bool true) ∧ W3 = w') := by
    have := size_any pw ph W3
    rwa [H.out] at this
  go_wp2_with (go_at_call 13; refine HZ.out.mono ?_; rintro e W4 ⟨rfl, rfl⟩)
  have kd : Below W3.heap.size W3 W3.drew := (Below.refl _ _).drew
  go_region_held3 (fun W => Below W3.heap.size W3 W ∧ W.cell? ⟨M, 0, none⟩ = some (.int .i64 pw) ∧ W.cell? ⟨M, 1, none⟩ = some (.int .i64 ph) ∧ W.cell? ⟨M, 2, none⟩ = some (.slice (some ⟨g1, 0, none⟩) bl.length c1))
    (first
      | (exact next3 b6 (by assumption))
      | (exact next3 b5 (by assumption))
      | (exact start3 f0 f1 f2 _ rfl))
    (first
      | (go_at_call 16; refine (KR.out _).mono ?_; rintro e W5 ⟨v5, rfl, o5, b5⟩; have k5 := kd.trans (b5.mono kd.size))
      | (go_at_call 15; refine (same_any pw ph _ v5 bl _ (HSW.out.below k5) o5.slice HLE.out).mono ?_; rintro e W6 ⟨rfl, b6⟩; have k6 := k5.trans (b6.mono k5.size)))
  go_wp2_with fail
  go_ret
  exact ⟨rfl, k3.trans (k6.mono k3.size)⟩
theorem gridCheck_walk (a h pw ph : Int) (v : Value) (cs : List C) (w : World) (hT : Txt.Tab w) (hS : SliceAt w v cs) :
    Calls Tryd.prog 3 #[.agg #[.int .i64 a, .int .i64 h, v], .int .i64 pw, .int .i64 ph] w fun e w' => e = .returned (.bool true) ∧ Below w.heap.size w w' := by
  cases hs : isSize pw ph with
  | false => exact gridCheck_bad a h pw ph v cs w hT hS hs
  | true => exact gridCheck_good a h pw ph v cs w hT hS hs
end Grd
end Go.Proofs.YtinhmklpnkikgaaDoor
