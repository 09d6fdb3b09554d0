/- The walk of the reference's CheckGrid. -/
import Derived.Test.YtnkeahfcpbepjaaGreatDoorPartD
import Derived.Test.YtnkeahfcpbepjaaGreatDoorPartE
import Derived.Test.YtnkeahfcpbepjaaGreatDoorPartF
namespace Go.Proofs.YtnkeahfcpbepjaaGreatDoor
open Go.ChangeShapes Go.WideShapes Go.ChangeAt Go.RowKit
namespace Grd
open Txt (wd)
open Sty (isSt)
theorem isStyle_to (f b x : Int) (v : Bool) (h : isSt (f, b, x) = v) (w : World) : Calls Tryz.prog 123 #[.agg #[.int .i64 f, .int .i64 b, .int .i64 x]] w fun e w' => e = .returned (.bool v) ∧ Below w.heap.size w w' := by
  have := Sty.isStyle_any f b x w
  rwa [h] at this
theorem size_false (a b : Int) (h : isSize a b = false) : (a < 1 ∨ 120 < a) ∨ (b < 1 ∨ 60 < b) := by
  unfold isSize at h
  have := of_decide_eq_false h
  omega
set_option maxHeartbeats 1000000 in
theorem ref_size1 (a b : Int) (v : Value) (w : World) (h : isSize a b = false) :
    Calls Tryz.prog 121 #[.agg #[.int .i64 a, .int .i64 b, v]] w fun e w' => e = .returned (.int .i64 3) ∧ Below w.heap.size w w' := by
  rcases size_false a b h with (h1 | h1) | h2
  · go_enter Tryz.func121, Tryz.ntmps121
    go_wp2_with fail
    go_ret
    exact ⟨rfl, (Below.refl _ _).alloc (Nat.le_refl _) _⟩
  · have h1' : 1 ≤ a := by omega
    go_enter Tryz.func121, Tryz.ntmps121
    go_wp2_with fail
    go_ret
    exact ⟨rfl, (Below.refl _ _).alloc (Nat.le_refl _) _⟩
  · by_cases ha : 1 ≤ a ∧ a ≤ 120
    · obtain ⟨ha1, ha2⟩ := ha
      rcases h2 with h2 | h2
      · go_enter Tryz.func121, Tryz.ntmps121
        go_wp2_with fail
        go_ret
        exact ⟨rfl, (Below.refl _ _).alloc (Nat.le_refl _) _⟩
      · have h2' : 1 ≤ b := by omega
        go_enter Tryz.func121, Tryz.ntmps121
        go_wp2_with fail
        go_ret
        exact ⟨rfl, (Below.refl _ _).alloc (Nat.le_refl _) _⟩
    · by_cases h1 : a < 1
      · clear h2 ha
        go_enter Tryz.func121, Tryz.ntmps121
        go_wp2_with fail
        go_ret
        exact ⟨rfl, (Below.refl _ _).alloc (Nat.le_refl _) _⟩
      · have h1' : 1 ≤ a := by omega
        have h1'' : 120 < a := by omega
        clear h2 ha
        go_enter Tryz.func121, Tryz.ntmps121
        go_wp2_with fail
        go_ret
        exact ⟨rfl, (Below.refl _ _).alloc (Nat.le_refl _) _⟩
set_option maxHeartbeats 1000000 in
theorem ref_size2 (a b : Int) (ad : Option Addr) (L c : Nat) (w : World) (h : isSize a b = true) (hL : (L : Int) ≠ a * b) :
    Calls Tryz.prog 121 #[.agg #[.int .i64 a, .int .i64 b, .slice ad L c]] w fun e w' => e = .returned (.int .i64 3) ∧ Below w.heap.size w w' := by
  have ⟨p0, p1, p2, p3, p4, p5⟩ := prod_in a b h
  clear h
  obtain ⟨p, hp⟩ : ∃ p, p = a * b := ⟨_, rfl⟩
  rw [← hp] at hL p0 p1
  have e1 : a * b = p := hp.symm
  clear hp
  have ne : ((L : Int) != p) = true := by simpa using hL
  clear hL
  go_enter Tryz.func121, Tryz.ntmps121
  go_wp2_with fail
  go_ret
  exact ⟨rfl, (Below.refl _ _).alloc (Nat.le_refl _) _⟩
set_option maxHeartbeats 4000000 in
set_option maxRecDepth 100000 in
theorem ref_rows (n hh : Nat) (b o c : Nat) (cs : List C) (w : World) (hC : CellsAt w b o cs) (hs : isSize n hh = true) (hL : cs.length = n * hh) :
    Calls Tryz.prog 121 #[.agg #[.int .i64 (n : Int), .int .i64 (hh : Int), .slice (some ⟨b, o, none⟩) cs.length c]] w fun e w' => e = .returned (.int .i64 (firstErr (cellR n cs) 0 (n * hh))) ∧ Below w.heap.size w w' := by
  have HC : Hid (CellsAt w b o cs) := hC
  have ⟨p0, p1, p2, p3, p4, p5⟩ := prod_in n hh hs
  clear hs hC
  have e1 : (n : Int) * (hh : Int) = (cs.length : Int) := by rw [hL]; simp
  have l1 : cs.length ≤ 7200 := by rw [hL]; omega
  have HMOD : Hid (∀ k, k < cs.length → ¬ k % n + 1 = n → k + 1 < cs.length) := fun k hk hl => by
    rcases Nat.lt_or_ge (k + 1) cs.length with h | h
    · exact h
    · exfalso
      apply hl
      have e : k + 1 = n * hh := by omega
      have hn1 : 1 ≤ n := by omega
      have hlt := Nat.mod_lt k (show 0 < n by omega)
      have h1 : (k + 1) % n = 0 := by rw [e]; exact Nat.mul_mod_right n hh
      rw [Nat.add_mod] at h1
      rcases Nat.lt_or_ge (k % n + 1) n with h2 | h2
      · rcases Nat.lt_or_ge 1 n with h3 | h3
        · rw [Nat.mod_eq_of_lt h3, Nat.mod_eq_of_lt h2] at h1
          omega
        · omega
      · omega
  rw [← hL]
  clear hL p0 p1
  have ne : ((cs.length : Int) != (cs.length : Int)) = false := by simp
  generalize hl : cs.length = L at *
  have HLn : Hid (cs.length = L) := hl
  clear hl
  go_enter Tryz.func121, Tryz.ntmps121
  go_wp2_with fail
  go_loopg [39] L (fun g i wr => ∃ k : Nat, i = .int .i64 (k : Int) ∧ k ≤ L ∧ L - k ≤ g ∧ Below w.heap.size w wr ∧ wr.heap[w.heap.size]? = some (.cells #[.int .i64 (n : Int), .int .i64 (hh : Int), .slice (some ⟨b, o, none⟩) L c] 24 (0, 0)) ∧ firstErr (cellR n cs) k (L - k) = firstErr (cellR n cs) 0 L)
  case atStart => exact ⟨0, rfl, by omega, by omega, (Below.refl _ _).alloc (Nat.le_refl _) _, heap_alloc_new _ _, rfl⟩
  case round =>
    obtain ⟨k, rfl, hk, hg, hb, hv, hf⟩ := hrel
    have HF1 : Hid (firstErr (cellR n cs) k (L - k) = firstErr (cellR n cs) 0 L) := hf
    clear hf
    have ⟨g0, g1, g2, _⟩ := cells3 hv
    by_cases hlt : k < L
    · have HST : Hid (firstErr (cellR n cs) k (L - k) = if cellR n cs k = 0 then firstErr (cellR n cs) (k + 1) (L - (k + 1)) else cellR n cs k) := first_step (cellR n cs) k L hlt
      have lt1 : ((k : Int) < (L : Int)) := by omega
      obtain ⟨t0, t1, t2, t3⟩ := HC.out.below hb k (by rw [HLn.out]; exact hlt)
      have HCW : Hid (CellsAt wr b o cs) := HC.out.below hb
      rcases hcc : cs.getD k z0 with ⟨r, f, bk, xx⟩
      rw [hcc] at t0 t1 t2 t3
      dsimp only at t0 t1 t2 t3
      have HCC : Hid (cs.getD k z0 = (r, f, bk, xx)) := hcc
      clear hcc
      have ⟨c0, c1, c2, c3⟩ := cells4_new wr 91 (.int .i32 r) (.int .i64 f) (.int .i64 bk) (.int .i64 xx)
      have kb : Below wr.heap.size wr (wr.alloc (.cells #[.int .i32 r, .int .i64 f, .int .i64 bk, .int .i64 xx] 91)) := (Below.refl _ _).alloc (Nat.le_refl _) _
      have g0' := cell_keep kb g0
      have g1' := cell_keep kb g1
      have g2' := cell_keep kb g2
      by_cases hr : r = 0
      · cases hs : isSt (f, bk, xx) with
        | false =>
          have HZ : cellR n cs k = 4 := by unfold cellR; rw [HCC.out]; dsimp only; rw [if_pos (Or.inr hs)]
          have HV : Hid ((4 : Int) = firstErr (cellR n cs) 0 L) := by unfold Hid; rw [← HF1.out, HST.out, HZ, if_neg (by decide)]
          subst hr
          have HW : Hid (wd 0 = 0) := wd0
          have HS : Hid (isSt (f, bk, xx) = false) := hs
          clear hs HZ
          go_wp2_with (first | (go_at_call 69; refine (widthOf_to 0 _ 0 HW.out).mono ?_; rintro e W1 ⟨rfl, b1⟩; have d0 := cell_keep b1 c0; have d1 := cell_keep b1 c1; have d2 := cell_keep b1 c2; have d3 := cell_keep b1 c3; have G0 := cell_keep b1 g0'; have G1 := cell_keep b1 g1'; have G2 := cell_keep b1 g2'; have kw1 : Below wr.heap.size wr W1 := kb.trans (b1.mono kb.size)) | (go_at_call 123; refine (isStyle_to f bk xx _ HS.out _).mono ?_; rintro e W2 ⟨rfl, b2⟩; have e0 := cell_keep b2 d0; have e1 := cell_keep b2 d1; have e2 := cell_keep b2 d2; have e3 := cell_keep b2 d3; have E0 := cell_keep b2 G0; have E1 := cell_keep b2 G1; have E2 := cell_keep b2 G2; have kw2 : Below wr.heap.size wr W2 := kw1.trans (b2.mono kw1.size)))
          go_ret
          exact ⟨Txt.ret_int HV.out, hb.trans (kw2.mono hb.size)⟩
        | true =>
          by_cases hx0 : k % n = 0
          · have HZ : cellR n cs k = 5 := by unfold cellR; rw [HCC.out]; dsimp only; rw [if_neg (by simp [hr, hs])]; rw [if_pos ⟨hr, Or.inl hx0⟩]
            have HV : Hid ((5 : Int) = firstErr (cellR n cs) 0 L) := by unfold Hid; rw [← HF1.out, HST.out, HZ, if_neg (by decide)]
            subst hr
            have HW : Hid (wd 0 = 0) := wd0
            have nx : ((k : Int) % (n : Int) == 0) = true := by rw [← Int.natCast_emod, hx0]; rfl
            have HS : Hid (isSt (f, bk, xx) = true) := hs
            clear hs HZ
            go_wp2_with (first | (go_at_call 69; refine (widthOf_to 0 _ 0 HW.out).mono ?_; rintro e W1 ⟨rfl, b1⟩; have d0 := cell_keep b1 c0; have d1 := cell_keep b1 c1; have d2 := cell_keep b1 c2; have d3 := cell_keep b1 c3; have G0 := cell_keep b1 g0'; have G1 := cell_keep b1 g1'; have G2 := cell_keep b1 g2'; have kw1 : Below wr.heap.size wr W1 := kb.trans (b1.mono kb.size)) | (go_at_call 123; refine (isStyle_to f bk xx _ HS.out _).mono ?_; rintro e W2 ⟨rfl, b2⟩; have e0 := cell_keep b2 d0; have e1 := cell_keep b2 d1; have e2 := cell_keep b2 d2; have e3 := cell_keep b2 d3; have E0 := cell_keep b2 G0; have E1 := cell_keep b2 G1; have E2 := cell_keep b2 G2; have kw2 : Below wr.heap.size wr W2 := kw1.trans (b2.mono kw1.size)))
            have y0 : ∀ d os, (Sort.grow (redrawn W2 d) os).cell? ⟨wr.heap.size, 0, none⟩ = some (.int .i32 0) := fun d os => cell_regrown e0 d os
            have y1 : ∀ d os, (Sort.grow (redrawn W2 d) os).cell? ⟨wr.heap.size, 1, none⟩ = some (.int .i64 f) := fun d os => cell_regrown e1 d os
            have y2 : ∀ d os, (Sort.grow (redrawn W2 d) os).cell? ⟨wr.heap.size, 2, none⟩ = some (.int .i64 bk) := fun d os => cell_regrown e2 d os
            have y3 : ∀ d os, (Sort.grow (redrawn W2 d) os).cell? ⟨wr.heap.size, 3, none⟩ = some (.int .i64 xx) := fun d os => cell_regrown e3 d os
            have z0 : ∀ d os, (Sort.grow (redrawn W2 d) os).cell? ⟨w.heap.size, 0, none⟩ = some (.int .i64 (n : Int)) := fun d os => cell_regrown E0 d os
            have z2 : ∀ d os, (Sort.grow (redrawn W2 d) os).cell? ⟨w.heap.size, 2, none⟩ = some (.slice (some ⟨b, o, none⟩) L c) := fun d os => cell_regrown E2 d os
            refine wp_region_quiet_below (by kernel_rfl) (by kernel_rfl) ?_
            repeat (first | go_big_quiet_skip | quiet_step (fail))
            refine wpQuiet_nil ?_
            intro _ hw'
            obtain ⟨⟨dq, os⟩, hw''⟩ := hw'
            subst hw''
            have b3 := below_regrown W2 dq os
            have kw3 : Below wr.heap.size wr (Sort.grow (redrawn W2 dq) os) := kw2.trans (b3.mono kw2.size)
            have F0 := cell_keep b3 E0
            have F2 := cell_keep b3 E2
            have N0 := fun (a : Addr) (v : Value) (h : wr.cell? a = some v) => cell_keep kw3 h
            clear y0 y1 y2 y3 z0 z2
            generalize Sort.grow (redrawn W2 dq) os = W3 at *
            go_wp2_with fail
            go_ret
            exact ⟨Txt.ret_int HV.out, hb.trans (kw3.mono hb.size)⟩
          · have hk0 : 0 < k := by
              rcases Nat.eq_zero_or_pos k with h | h
              · exact absurd (by rw [h]; simp) hx0
              · exact h
            obtain ⟨q0, q1, q2, q3⟩ := HCW.out (k - 1) (by rw [HLn.out]; omega)
            rcases hpp : cs.getD (k - 1) z0 with ⟨rp, fp, bp, xp⟩
            rw [hpp] at q0 q1 q2 q3
            dsimp only at q0 q1 q2 q3
            have nx : ((k : Int) % (n : Int) == 0) = false := by rw [← Int.natCast_emod]; simp only [beq_eq_false_iff_ne, ne_eq]; omega

            by_cases hp2 : wd rp = 2
            · by_cases hq : (fp, bp, xp) = (f, bk, xx)
              · have HZ : cellR n cs k = 0 := by unfold cellR; rw [HCC.out]; dsimp only; rw [if_neg (by simp [hr, hs])]; rw [if_neg (by rw [hpp]; simp [hx0, hp2, hq]), if_neg (by rw [hr, wd0]; simp)]
                have HV : Hid (firstErr (cellR n cs) (k + 1) (L - (k + 1)) = firstErr (cellR n cs) 0 L) := by unfold Hid; rw [← HF1.out, HST.out, if_pos HZ]
                subst hr
                have HW : Hid (wd 0 = 0) := wd0
                have HP : Hid (wd rp = 2) := hp2
                clear hp2
                have nq : ∀ w, (binOp .neq 26 (.agg #[.int .i64 fp, .int .i64 bp, .int .i64 xp]) (.agg #[.int .i64 f, .int .i64 bk, .int .i64 xx])).run Tryz.prog w = .ok (.bool false) w := fun w => by rw [Sty.neq_agg]; simp [hq]
                clear hq hpp
                have HS : Hid (isSt (f, bk, xx) = true) := hs
                clear hs HZ
                go_wp2_with (first | (go_at_call 69; refine (widthOf_to 0 _ 0 HW.out).mono ?_; rintro e W1 ⟨rfl, b1⟩; have d0 := cell_keep b1 c0; have d1 := cell_keep b1 c1; have d2 := cell_keep b1 c2; have d3 := cell_keep b1 c3; have G0 := cell_keep b1 g0'; have G1 := cell_keep b1 g1'; have G2 := cell_keep b1 g2'; have kw1 : Below wr.heap.size wr W1 := kb.trans (b1.mono kb.size)) | (go_at_call 123; refine (isStyle_to f bk xx _ HS.out _).mono ?_; rintro e W2 ⟨rfl, b2⟩; have e0 := cell_keep b2 d0; have e1 := cell_keep b2 d1; have e2 := cell_keep b2 d2; have e3 := cell_keep b2 d3; have E0 := cell_keep b2 G0; have E1 := cell_keep b2 G1; have E2 := cell_keep b2 G2; have kw2 : Below wr.heap.size wr W2 := kw1.trans (b2.mono kw1.size)))
                have y0 : ∀ d os, (Sort.grow (redrawn W2 d) os).cell? ⟨wr.heap.size, 0, none⟩ = some (.int .i32 0) := fun d os => cell_regrown e0 d os
                have y1 : ∀ d os, (Sort.grow (redrawn W2 d) os).cell? ⟨wr.heap.size, 1, none⟩ = some (.int .i64 f) := fun d os => cell_regrown e1 d os
                have y2 : ∀ d os, (Sort.grow (redrawn W2 d) os).cell? ⟨wr.heap.size, 2, none⟩ = some (.int .i64 bk) := fun d os => cell_regrown e2 d os
                have y3 : ∀ d os, (Sort.grow (redrawn W2 d) os).cell? ⟨wr.heap.size, 3, none⟩ = some (.int .i64 xx) := fun d os => cell_regrown e3 d os
                have z0 : ∀ d os, (Sort.grow (redrawn W2 d) os).cell? ⟨w.heap.size, 0, none⟩ = some (.int .i64 (n : Int)) := fun d os => cell_regrown E0 d os
                have z2 : ∀ d os, (Sort.grow (redrawn W2 d) os).cell? ⟨w.heap.size, 2, none⟩ = some (.slice (some ⟨b, o, none⟩) L c) := fun d os => cell_regrown E2 d os
                have u0 : ∀ d os, (Sort.grow (redrawn W2 d) os).cell? ⟨b, o + (k - 1) * 4, none⟩ = some (.int .i32 rp) := fun d os => cell_regrown (cell_keep kw2 q0) d os
                have u1 : ∀ d os, (Sort.grow (redrawn W2 d) os).cell? ⟨b, o + (k - 1) * 4 + 1, none⟩ = some (.int .i64 fp) := fun d os => cell_regrown (cell_keep kw2 q1) d os
                have u2 : ∀ d os, (Sort.grow (redrawn W2 d) os).cell? ⟨b, o + (k - 1) * 4 + 2, none⟩ = some (.int .i64 bp) := fun d os => cell_regrown (cell_keep kw2 q2) d os
                have u3 : ∀ d os, (Sort.grow (redrawn W2 d) os).cell? ⟨b, o + (k - 1) * 4 + 3, none⟩ = some (.int .i64 xp) := fun d os => cell_regrown (cell_keep kw2 q3) d os
                have hwr : IntKind.i64.wrap ((k : Int) - 1) = ((k - 1 : Nat) : Int) := by unfold IntKind.wrap; simp [IntKind.bits, IntKind.signed]; omega
                have hkp : k - 1 < L := by omega
                have K4 : Hid (∀ d os, Calls Tryz.prog 69 #[.int .i32 rp] (Sort.grow (redrawn W2 d) os) fun e w'' => e = .returned (.int .i64 2) ∧ ∃ p : Regrown, w'' = Sort.grow (redrawn W2 p.d) p.os) := fun d os => Calls.regrown_of (widthOf_to rp _ 2 HP.out)
                refine wp_region_quiet_below (by kernel_rfl) (by kernel_rfl) ?_
                repeat (first | go_big_quiet_skip | quiet_step (first | (go_at_call 69; exact K4.out _ _)))
                refine wpQuiet_nil ?_
                intro _ hw'
                obtain ⟨⟨dq, os⟩, hw''⟩ := hw'
                subst hw''
                have b3 := below_regrown W2 dq os
                have kw3 : Below wr.heap.size wr (Sort.grow (redrawn W2 dq) os) := kw2.trans (b3.mono kw2.size)
                have F0 := cell_keep b3 E0
                have F2 := cell_keep b3 E2
                have N0 := fun (a : Addr) (v : Value) (h : wr.cell? a = some v) => cell_keep kw3 h
                clear y0 y1 y2 y3 z0 z2 u0 u1 u2 u3
                generalize Sort.grow (redrawn W2 dq) os = W3 at *
                go_wp2_with fail
                go_roundg (L - (k + 1))
                case measure => omega
                case rel => exact ⟨k + 1, rfl, by omega, by omega, hb.trans (kw3.mono hb.size), carry hv kw3, HV.out⟩
              · have HZ : cellR n cs k = 5 := by unfold cellR; rw [HCC.out]; dsimp only; rw [if_neg (by simp [hr, hs])]; rw [if_pos ⟨hr, Or.inr (Or.inr (by rw [hpp]; exact hq))⟩]
                have HV : Hid ((5 : Int) = firstErr (cellR n cs) 0 L) := by unfold Hid; rw [← HF1.out, HST.out, HZ, if_neg (by decide)]
                subst hr
                have HW : Hid (wd 0 = 0) := wd0
                have HP : Hid (wd rp = 2) := hp2
                clear hp2
                have nq : ∀ w, (binOp .neq 26 (.agg #[.int .i64 fp, .int .i64 bp, .int .i64 xp]) (.agg #[.int .i64 f, .int .i64 bk, .int .i64 xx])).run Tryz.prog w = .ok (.bool true) w := fun w => by rw [Sty.neq_agg]; simp [hq]
                clear hq hpp
                have HS : Hid (isSt (f, bk, xx) = true) := hs
                clear hs HZ
                go_wp2_with (first | (go_at_call 69; refine (widthOf_to 0 _ 0 HW.out).mono ?_; rintro e W1 ⟨rfl, b1⟩; have d0 := cell_keep b1 c0; have d1 := cell_keep b1 c1; have d2 := cell_keep b1 c2; have d3 := cell_keep b1 c3; have G0 := cell_keep b1 g0'; have G1 := cell_keep b1 g1'; have G2 := cell_keep b1 g2'; have kw1 : Below wr.heap.size wr W1 := kb.trans (b1.mono kb.size)) | (go_at_call 123; refine (isStyle_to f bk xx _ HS.out _).mono ?_; rintro e W2 ⟨rfl, b2⟩; have e0 := cell_keep b2 d0; have e1 := cell_keep b2 d1; have e2 := cell_keep b2 d2; have e3 := cell_keep b2 d3; have E0 := cell_keep b2 G0; have E1 := cell_keep b2 G1; have E2 := cell_keep b2 G2; have kw2 : Below wr.heap.size wr W2 := kw1.trans (b2.mono kw1.size)))
                have y0 : ∀ d os, (Sort.grow (redrawn W2 d) os).cell? ⟨wr.heap.size, 0, none⟩ = some (.int .i32 0) := fun d os => cell_regrown e0 d os
                have y1 : ∀ d os, (Sort.grow (redrawn W2 d) os).cell? ⟨wr.heap.size, 1, none⟩ = some (.int .i64 f) := fun d os => cell_regrown e1 d os
                have y2 : ∀ d os, (Sort.grow (redrawn W2 d) os).cell? ⟨wr.heap.size, 2, none⟩ = some (.int .i64 bk) := fun d os => cell_regrown e2 d os
                have y3 : ∀ d os, (Sort.grow (redrawn W2 d) os).cell? ⟨wr.heap.size, 3, none⟩ = some (.int .i64 xx) := fun d os => cell_regrown e3 d os
                have z0 : ∀ d os, (Sort.grow (redrawn W2 d) os).cell? ⟨w.heap.size, 0, none⟩ = some (.int .i64 (n : Int)) := fun d os => cell_regrown E0 d os
                have z2 : ∀ d os, (Sort.grow (redrawn W2 d) os).cell? ⟨w.heap.size, 2, none⟩ = some (.slice (some ⟨b, o, none⟩) L c) := fun d os => cell_regrown E2 d os
                have u0 : ∀ d os, (Sort.grow (redrawn W2 d) os).cell? ⟨b, o + (k - 1) * 4, none⟩ = some (.int .i32 rp) := fun d os => cell_regrown (cell_keep kw2 q0) d os
                have u1 : ∀ d os, (Sort.grow (redrawn W2 d) os).cell? ⟨b, o + (k - 1) * 4 + 1, none⟩ = some (.int .i64 fp) := fun d os => cell_regrown (cell_keep kw2 q1) d os
                have u2 : ∀ d os, (Sort.grow (redrawn W2 d) os).cell? ⟨b, o + (k - 1) * 4 + 2, none⟩ = some (.int .i64 bp) := fun d os => cell_regrown (cell_keep kw2 q2) d os
                have u3 : ∀ d os, (Sort.grow (redrawn W2 d) os).cell? ⟨b, o + (k - 1) * 4 + 3, none⟩ = some (.int .i64 xp) := fun d os => cell_regrown (cell_keep kw2 q3) d os
                have hwr : IntKind.i64.wrap ((k : Int) - 1) = ((k - 1 : Nat) : Int) := by unfold IntKind.wrap; simp [IntKind.bits, IntKind.signed]; omega
                have hkp : k - 1 < L := by omega
                have K4 : Hid (∀ d os, Calls Tryz.prog 69 #[.int .i32 rp] (Sort.grow (redrawn W2 d) os) fun e w'' => e = .returned (.int .i64 2) ∧ ∃ p : Regrown, w'' = Sort.grow (redrawn W2 p.d) p.os) := fun d os => Calls.regrown_of (widthOf_to rp _ 2 HP.out)
                refine wp_region_quiet_below (by kernel_rfl) (by kernel_rfl) ?_
                repeat (first | go_big_quiet_skip | quiet_step (first | (go_at_call 69; exact K4.out _ _)))
                refine wpQuiet_nil ?_
                intro _ hw'
                obtain ⟨⟨dq, os⟩, hw''⟩ := hw'
                subst hw''
                have b3 := below_regrown W2 dq os
                have kw3 : Below wr.heap.size wr (Sort.grow (redrawn W2 dq) os) := kw2.trans (b3.mono kw2.size)
                have F0 := cell_keep b3 E0
                have F2 := cell_keep b3 E2
                have N0 := fun (a : Addr) (v : Value) (h : wr.cell? a = some v) => cell_keep kw3 h
                clear y0 y1 y2 y3 z0 z2 u0 u1 u2 u3
                generalize Sort.grow (redrawn W2 dq) os = W3 at *
                go_wp2_with fail
                go_ret
                exact ⟨Txt.ret_int HV.out, hb.trans (kw3.mono hb.size)⟩
            · have HZ : cellR n cs k = 5 := by unfold cellR; rw [HCC.out]; dsimp only; rw [if_neg (by simp [hr, hs])]; rw [if_pos ⟨hr, Or.inr (Or.inl (by rw [hpp]; exact hp2))⟩]
              have HV : Hid ((5 : Int) = firstErr (cellR n cs) 0 L) := by unfold Hid; rw [← HF1.out, HST.out, HZ, if_neg (by decide)]
              subst hr
              have HW : Hid (wd 0 = 0) := wd0
              have np : (wd rp != 2) = true := by simpa using hp2
              clear hpp
              have HS : Hid (isSt (f, bk, xx) = true) := hs
              clear hs HZ
              go_wp2_with (first | (go_at_call 69; refine (widthOf_to 0 _ 0 HW.out).mono ?_; rintro e W1 ⟨rfl, b1⟩; have d0 := cell_keep b1 c0; have d1 := cell_keep b1 c1; have d2 := cell_keep b1 c2; have d3 := cell_keep b1 c3; have G0 := cell_keep b1 g0'; have G1 := cell_keep b1 g1'; have G2 := cell_keep b1 g2'; have kw1 : Below wr.heap.size wr W1 := kb.trans (b1.mono kb.size)) | (go_at_call 123; refine (isStyle_to f bk xx _ HS.out _).mono ?_; rintro e W2 ⟨rfl, b2⟩; have e0 := cell_keep b2 d0; have e1 := cell_keep b2 d1; have e2 := cell_keep b2 d2; have e3 := cell_keep b2 d3; have E0 := cell_keep b2 G0; have E1 := cell_keep b2 G1; have E2 := cell_keep b2 G2; have kw2 : Below wr.heap.size wr W2 := kw1.trans (b2.mono kw1.size)))
              have y0 : ∀ d os, (Sort.grow (redrawn W2 d) os).cell? ⟨wr.heap.size, 0, none⟩ = some (.int .i32 0) := fun d os => cell_regrown e0 d os
              have y1 : ∀ d os, (Sort.grow (redrawn W2 d) os).cell? ⟨wr.heap.size, 1, none⟩ = some (.int .i64 f) := fun d os => cell_regrown e1 d os
              have y2 : ∀ d os, (Sort.grow (redrawn W2 d) os).cell? ⟨wr.heap.size, 2, none⟩ = some (.int .i64 bk) := fun d os => cell_regrown e2 d os
              have y3 : ∀ d os, (Sort.grow (redrawn W2 d) os).cell? ⟨wr.heap.size, 3, none⟩ = some (.int .i64 xx) := fun d os => cell_regrown e3 d os
              have z0 : ∀ d os, (Sort.grow (redrawn W2 d) os).cell? ⟨w.heap.size, 0, none⟩ = some (.int .i64 (n : Int)) := fun d os => cell_regrown E0 d os
              have z2 : ∀ d os, (Sort.grow (redrawn W2 d) os).cell? ⟨w.heap.size, 2, none⟩ = some (.slice (some ⟨b, o, none⟩) L c) := fun d os => cell_regrown E2 d os
              have u0 : ∀ d os, (Sort.grow (redrawn W2 d) os).cell? ⟨b, o + (k - 1) * 4, none⟩ = some (.int .i32 rp) := fun d os => cell_regrown (cell_keep kw2 q0) d os
              have u1 : ∀ d os, (Sort.grow (redrawn W2 d) os).cell? ⟨b, o + (k - 1) * 4 + 1, none⟩ = some (.int .i64 fp) := fun d os => cell_regrown (cell_keep kw2 q1) d os
              have u2 : ∀ d os, (Sort.grow (redrawn W2 d) os).cell? ⟨b, o + (k - 1) * 4 + 2, none⟩ = some (.int .i64 bp) := fun d os => cell_regrown (cell_keep kw2 q2) d os
              have u3 : ∀ d os, (Sort.grow (redrawn W2 d) os).cell? ⟨b, o + (k - 1) * 4 + 3, none⟩ = some (.int .i64 xp) := fun d os => cell_regrown (cell_keep kw2 q3) d os
              have hwr : IntKind.i64.wrap ((k : Int) - 1) = ((k - 1 : Nat) : Int) := by unfold IntKind.wrap; simp [IntKind.bits, IntKind.signed]; omega
              have hkp : k - 1 < L := by omega
              have K4 : Hid (∀ d os, Calls Tryz.prog 69 #[.int .i32 rp] (Sort.grow (redrawn W2 d) os) fun e w'' => e = .returned (.int .i64 (wd rp)) ∧ ∃ p : Regrown, w'' = Sort.grow (redrawn W2 p.d) p.os) := fun d os => Calls.regrown_of (Txt.widthOf_any rp _)
              refine wp_region_quiet_below (by kernel_rfl) (by kernel_rfl) ?_
              repeat (first | go_big_quiet_skip | quiet_step (first | (go_at_call 69; exact K4.out _ _)))
              refine wpQuiet_nil ?_
              intro _ hw'
              obtain ⟨⟨dq, os⟩, hw''⟩ := hw'
              subst hw''
              have b3 := below_regrown W2 dq os
              have kw3 : Below wr.heap.size wr (Sort.grow (redrawn W2 dq) os) := kw2.trans (b3.mono kw2.size)
              have F0 := cell_keep b3 E0
              have F2 := cell_keep b3 E2
              have N0 := fun (a : Addr) (v : Value) (h : wr.cell? a = some v) => cell_keep kw3 h
              clear y0 y1 y2 y3 z0 z2 u0 u1 u2 u3
              generalize Sort.grow (redrawn W2 dq) os = W3 at *
              go_wp2_with fail
              go_ret
              exact ⟨Txt.ret_int HV.out, hb.trans (kw3.mono hb.size)⟩
      · by_cases hw : wd r = 0
        · have HZ : cellR n cs k = 4 := by unfold cellR; rw [HCC.out]; dsimp only; rw [if_pos (Or.inl ⟨hr, hw⟩)]
          have HV : Hid ((4 : Int) = firstErr (cellR n cs) 0 L) := by unfold Hid; rw [← HF1.out, HST.out, HZ, if_neg (by decide)]
          have nr : (r != 0) = true := by simpa using hr
          have nr' : (r == 0) = false := by simpa using hr
          have HW : Hid (wd r = 0) := hw
          clear hw HZ
          go_wp2_with (go_at_call 69; refine (widthOf_to r _ 0 HW.out).mono ?_; rintro e W1 ⟨rfl, b1⟩; have d0 := cell_keep b1 c0; have d1 := cell_keep b1 c1; have d2 := cell_keep b1 c2; have d3 := cell_keep b1 c3; have G0 := cell_keep b1 g0'; have G1 := cell_keep b1 g1'; have G2 := cell_keep b1 g2'; have kw1 : Below wr.heap.size wr W1 := kb.trans (b1.mono kb.size))
          go_ret
          exact ⟨Txt.ret_int HV.out, hb.trans (kw1.mono hb.size)⟩
        · cases hs : isSt (f, bk, xx) with
          | false =>
            have HZ : cellR n cs k = 4 := by unfold cellR; rw [HCC.out]; dsimp only; rw [if_pos (Or.inr hs)]
            have HV : Hid ((4 : Int) = firstErr (cellR n cs) 0 L) := by unfold Hid; rw [← HF1.out, HST.out, HZ, if_neg (by decide)]
            have nr : (r != 0) = true := by simpa using hr
            have nr' : (r == 0) = false := by simpa using hr
            have HW : Hid (wd r = wd r) := rfl
            have nw : (wd r == 0) = false := by simpa using hw
            have HS : Hid (isSt (f, bk, xx) = false) := hs
            clear hs HZ
            go_wp2_with (first | (go_at_call 69; refine (widthOf_to r _ _ HW.out).mono ?_; rintro e W1 ⟨rfl, b1⟩; have d0 := cell_keep b1 c0; have d1 := cell_keep b1 c1; have d2 := cell_keep b1 c2; have d3 := cell_keep b1 c3; have G0 := cell_keep b1 g0'; have G1 := cell_keep b1 g1'; have G2 := cell_keep b1 g2'; have kw1 : Below wr.heap.size wr W1 := kb.trans (b1.mono kb.size)) | (go_at_call 123; refine (isStyle_to f bk xx _ HS.out _).mono ?_; rintro e W2 ⟨rfl, b2⟩; have e0 := cell_keep b2 d0; have e1 := cell_keep b2 d1; have e2 := cell_keep b2 d2; have e3 := cell_keep b2 d3; have E0 := cell_keep b2 G0; have E1 := cell_keep b2 G1; have E2 := cell_keep b2 G2; have kw2 : Below wr.heap.size wr W2 := kw1.trans (b2.mono kw1.size)))
            go_ret
            exact ⟨Txt.ret_int HV.out, hb.trans (kw2.mono hb.size)⟩
          | true =>
            by_cases h2 : wd r = 2
            · by_cases hl : k % n + 1 = n
              · have HZ : cellR n cs k = 5 := by unfold cellR; rw [HCC.out]; dsimp only; rw [if_neg (by simp [hw, hs])]; rw [if_neg (by simp [hr]), if_pos ⟨h2, Or.inl hl⟩]
                have HV : Hid ((5 : Int) = firstErr (cellR n cs) 0 L) := by unfold Hid; rw [← HF1.out, HST.out, HZ, if_neg (by decide)]
                have nr : (r != 0) = true := by simpa using hr
                have nr' : (r == 0) = false := by simpa using hr
                have HW : Hid (wd r = 2) := h2
                clear h2 hw
                have nl : ((k : Int) % (n : Int) == (n : Int) - 1) = true := by rw [← Int.natCast_emod]; simp only [beq_iff_eq]; omega
                have HS : Hid (isSt (f, bk, xx) = true) := hs
                clear hs HZ
                go_wp2_with (first | (go_at_call 69; refine (widthOf_to r _ 2 HW.out).mono ?_; rintro e W1 ⟨rfl, b1⟩; have d0 := cell_keep b1 c0; have d1 := cell_keep b1 c1; have d2 := cell_keep b1 c2; have d3 := cell_keep b1 c3; have G0 := cell_keep b1 g0'; have G1 := cell_keep b1 g1'; have G2 := cell_keep b1 g2'; have kw1 : Below wr.heap.size wr W1 := kb.trans (b1.mono kb.size)) | (go_at_call 123; refine (isStyle_to f bk xx _ HS.out _).mono ?_; rintro e W2 ⟨rfl, b2⟩; have e0 := cell_keep b2 d0; have e1 := cell_keep b2 d1; have e2 := cell_keep b2 d2; have e3 := cell_keep b2 d3; have E0 := cell_keep b2 G0; have E1 := cell_keep b2 G1; have E2 := cell_keep b2 G2; have kw2 : Below wr.heap.size wr W2 := kw1.trans (b2.mono kw1.size)))
                have y0 : ∀ d os, (Sort.grow (redrawn W2 d) os).cell? ⟨wr.heap.size, 0, none⟩ = some (.int .i32 r) := fun d os => cell_regrown e0 d os
                have y1 : ∀ d os, (Sort.grow (redrawn W2 d) os).cell? ⟨wr.heap.size, 1, none⟩ = some (.int .i64 f) := fun d os => cell_regrown e1 d os
                have y2 : ∀ d os, (Sort.grow (redrawn W2 d) os).cell? ⟨wr.heap.size, 2, none⟩ = some (.int .i64 bk) := fun d os => cell_regrown e2 d os
                have y3 : ∀ d os, (Sort.grow (redrawn W2 d) os).cell? ⟨wr.heap.size, 3, none⟩ = some (.int .i64 xx) := fun d os => cell_regrown e3 d os
                have z0 : ∀ d os, (Sort.grow (redrawn W2 d) os).cell? ⟨w.heap.size, 0, none⟩ = some (.int .i64 (n : Int)) := fun d os => cell_regrown E0 d os
                have z2 : ∀ d os, (Sort.grow (redrawn W2 d) os).cell? ⟨w.heap.size, 2, none⟩ = some (.slice (some ⟨b, o, none⟩) L c) := fun d os => cell_regrown E2 d os
                refine wp_region_quiet_below (by kernel_rfl) (by kernel_rfl) ?_
                repeat (first | go_big_quiet_skip | quiet_step (fail))
                refine wpQuiet_nil ?_
                intro _ hw'
                obtain ⟨⟨dq, os⟩, hw''⟩ := hw'
                subst hw''
                have b3 := below_regrown W2 dq os
                have kw3 : Below wr.heap.size wr (Sort.grow (redrawn W2 dq) os) := kw2.trans (b3.mono kw2.size)
                have F0 := cell_keep b3 E0
                have F2 := cell_keep b3 E2
                have N0 := fun (a : Addr) (v : Value) (h : wr.cell? a = some v) => cell_keep kw3 h
                clear y0 y1 y2 y3 z0 z2
                generalize Sort.grow (redrawn W2 dq) os = W3 at *
                go_wp2_with fail
                go_ret
                exact ⟨Txt.ret_int HV.out, hb.trans (kw3.mono hb.size)⟩
              · have hk1 : k + 1 < L := by
                  have hmod := HMOD.out k hlt hl
                  exact hmod
                obtain ⟨s0, _⟩ := HCW.out (k + 1) (by rw [HLn.out]; exact hk1)
                generalize hrn : (cs.getD (k + 1) z0).1 = rn at s0
                have nl : ((k : Int) % (n : Int) == (n : Int) - 1) = false := by rw [← Int.natCast_emod]; simp only [beq_eq_false_iff_ne, ne_eq]; omega
                have hkL : ((k : Int) + 1) < (L : Int) := by omega

                by_cases hn : rn = 0
                · have HZ : cellR n cs k = 0 := by unfold cellR; rw [HCC.out]; dsimp only; rw [if_neg (by simp [hw, hs])]; rw [if_neg (by simp [hr]), if_neg (by rw [hrn]; simp [hl, hn])]
                  have HV : Hid (firstErr (cellR n cs) (k + 1) (L - (k + 1)) = firstErr (cellR n cs) 0 L) := by unfold Hid; rw [← HF1.out, HST.out, if_pos HZ]
                  have nr : (r != 0) = true := by simpa using hr
                  have nr' : (r == 0) = false := by simpa using hr
                  have HW : Hid (wd r = 2) := h2
                  clear h2 hw hrn
                  subst hn
                  have HS : Hid (isSt (f, bk, xx) = true) := hs
                  clear hs HZ
                  go_wp2_with (first | (go_at_call 69; refine (widthOf_to r _ 2 HW.out).mono ?_; rintro e W1 ⟨rfl, b1⟩; have d0 := cell_keep b1 c0; have d1 := cell_keep b1 c1; have d2 := cell_keep b1 c2; have d3 := cell_keep b1 c3; have G0 := cell_keep b1 g0'; have G1 := cell_keep b1 g1'; have G2 := cell_keep b1 g2'; have kw1 : Below wr.heap.size wr W1 := kb.trans (b1.mono kb.size)) | (go_at_call 123; refine (isStyle_to f bk xx _ HS.out _).mono ?_; rintro e W2 ⟨rfl, b2⟩; have e0 := cell_keep b2 d0; have e1 := cell_keep b2 d1; have e2 := cell_keep b2 d2; have e3 := cell_keep b2 d3; have E0 := cell_keep b2 G0; have E1 := cell_keep b2 G1; have E2 := cell_keep b2 G2; have kw2 : Below wr.heap.size wr W2 := kw1.trans (b2.mono kw1.size)))
                  have y0 : ∀ d os, (Sort.grow (redrawn W2 d) os).cell? ⟨wr.heap.size, 0, none⟩ = some (.int .i32 r) := fun d os => cell_regrown e0 d os
                  have y1 : ∀ d os, (Sort.grow (redrawn W2 d) os).cell? ⟨wr.heap.size, 1, none⟩ = some (.int .i64 f) := fun d os => cell_regrown e1 d os
                  have y2 : ∀ d os, (Sort.grow (redrawn W2 d) os).cell? ⟨wr.heap.size, 2, none⟩ = some (.int .i64 bk) := fun d os => cell_regrown e2 d os
                  have y3 : ∀ d os, (Sort.grow (redrawn W2 d) os).cell? ⟨wr.heap.size, 3, none⟩ = some (.int .i64 xx) := fun d os => cell_regrown e3 d os
                  have z0 : ∀ d os, (Sort.grow (redrawn W2 d) os).cell? ⟨w.heap.size, 0, none⟩ = some (.int .i64 (n : Int)) := fun d os => cell_regrown E0 d os
                  have z2 : ∀ d os, (Sort.grow (redrawn W2 d) os).cell? ⟨w.heap.size, 2, none⟩ = some (.slice (some ⟨b, o, none⟩) L c) := fun d os => cell_regrown E2 d os
                  refine wp_region_quiet_below (by kernel_rfl) (by kernel_rfl) ?_
                  repeat (first | go_big_quiet_skip | quiet_step (fail))
                  refine wpQuiet_nil ?_
                  intro _ hw'
                  obtain ⟨⟨dq, os⟩, hw''⟩ := hw'
                  subst hw''
                  have b3 := below_regrown W2 dq os
                  have kw3 : Below wr.heap.size wr (Sort.grow (redrawn W2 dq) os) := kw2.trans (b3.mono kw2.size)
                  have F0 := cell_keep b3 E0
                  have F2 := cell_keep b3 E2
                  have N0 := fun (a : Addr) (v : Value) (h : wr.cell? a = some v) => cell_keep kw3 h
                  clear y0 y1 y2 y3 z0 z2
                  generalize Sort.grow (redrawn W2 dq) os = W3 at *
                  have s1 := N0 _ _ s0
                  clear N0
                  go_wp2_with fail
                  go_roundg (L - (k + 1))
                  case measure => omega
                  case rel => exact ⟨k + 1, rfl, by omega, by omega, hb.trans (kw3.mono hb.size), carry hv kw3, HV.out⟩
                · have HZ : cellR n cs k = 5 := by unfold cellR; rw [HCC.out]; dsimp only; rw [if_neg (by simp [hw, hs])]; rw [if_neg (by simp [hr]), if_pos ⟨h2, Or.inr (by rw [hrn]; exact hn)⟩]
                  have HV : Hid ((5 : Int) = firstErr (cellR n cs) 0 L) := by unfold Hid; rw [← HF1.out, HST.out, HZ, if_neg (by decide)]
                  have nr : (r != 0) = true := by simpa using hr
                  have nr' : (r == 0) = false := by simpa using hr
                  have HW : Hid (wd r = 2) := h2
                  clear h2 hw hrn
                  have nn : (rn != 0) = true := by simpa using hn
                  have HS : Hid (isSt (f, bk, xx) = true) := hs
                  clear hs HZ
                  go_wp2_with (first | (go_at_call 69; refine (widthOf_to r _ 2 HW.out).mono ?_; rintro e W1 ⟨rfl, b1⟩; have d0 := cell_keep b1 c0; have d1 := cell_keep b1 c1; have d2 := cell_keep b1 c2; have d3 := cell_keep b1 c3; have G0 := cell_keep b1 g0'; have G1 := cell_keep b1 g1'; have G2 := cell_keep b1 g2'; have kw1 : Below wr.heap.size wr W1 := kb.trans (b1.mono kb.size)) | (go_at_call 123; refine (isStyle_to f bk xx _ HS.out _).mono ?_; rintro e W2 ⟨rfl, b2⟩; have e0 := cell_keep b2 d0; have e1 := cell_keep b2 d1; have e2 := cell_keep b2 d2; have e3 := cell_keep b2 d3; have E0 := cell_keep b2 G0; have E1 := cell_keep b2 G1; have E2 := cell_keep b2 G2; have kw2 : Below wr.heap.size wr W2 := kw1.trans (b2.mono kw1.size)))
                  have y0 : ∀ d os, (Sort.grow (redrawn W2 d) os).cell? ⟨wr.heap.size, 0, none⟩ = some (.int .i32 r) := fun d os => cell_regrown e0 d os
                  have y1 : ∀ d os, (Sort.grow (redrawn W2 d) os).cell? ⟨wr.heap.size, 1, none⟩ = some (.int .i64 f) := fun d os => cell_regrown e1 d os
                  have y2 : ∀ d os, (Sort.grow (redrawn W2 d) os).cell? ⟨wr.heap.size, 2, none⟩ = some (.int .i64 bk) := fun d os => cell_regrown e2 d os
                  have y3 : ∀ d os, (Sort.grow (redrawn W2 d) os).cell? ⟨wr.heap.size, 3, none⟩ = some (.int .i64 xx) := fun d os => cell_regrown e3 d os
                  have z0 : ∀ d os, (Sort.grow (redrawn W2 d) os).cell? ⟨w.heap.size, 0, none⟩ = some (.int .i64 (n : Int)) := fun d os => cell_regrown E0 d os
                  have z2 : ∀ d os, (Sort.grow (redrawn W2 d) os).cell? ⟨w.heap.size, 2, none⟩ = some (.slice (some ⟨b, o, none⟩) L c) := fun d os => cell_regrown E2 d os
                  refine wp_region_quiet_below (by kernel_rfl) (by kernel_rfl) ?_
                  repeat (first | go_big_quiet_skip | quiet_step (fail))
                  refine wpQuiet_nil ?_
                  intro _ hw'
                  obtain ⟨⟨dq, os⟩, hw''⟩ := hw'
                  subst hw''
                  have b3 := below_regrown W2 dq os
                  have kw3 : Below wr.heap.size wr (Sort.grow (redrawn W2 dq) os) := kw2.trans (b3.mono kw2.size)
                  have F0 := cell_keep b3 E0
                  have F2 := cell_keep b3 E2
                  have N0 := fun (a : Addr) (v : Value) (h : wr.cell? a = some v) => cell_keep kw3 h
                  clear y0 y1 y2 y3 z0 z2
                  generalize Sort.grow (redrawn W2 dq) os = W3 at *
                  have s1 := N0 _ _ s0
                  clear N0
                  go_wp2_with fail
                  go_ret
                  exact ⟨Txt.ret_int HV.out, hb.trans (kw3.mono hb.size)⟩
            · have HZ : cellR n cs k = 0 := by unfold cellR; rw [HCC.out]; dsimp only; rw [if_neg (by simp [hw, hs])]; rw [if_neg (by simp [hr]), if_neg (by simp [h2])]
              have HV : Hid (firstErr (cellR n cs) (k + 1) (L - (k + 1)) = firstErr (cellR n cs) 0 L) := by unfold Hid; rw [← HF1.out, HST.out, if_pos HZ]
              have nr : (r != 0) = true := by simpa using hr
              have nr' : (r == 0) = false := by simpa using hr
              have nw : (wd r == 0) = false := by simpa using hw
              have n2 : (wd r == 2) = false := by simpa using h2
              have HW : Hid (wd r = wd r) := rfl
              have HS : Hid (isSt (f, bk, xx) = true) := hs
              clear hs HZ
              go_wp2_with (first | (go_at_call 69; refine (widthOf_to r _ _ HW.out).mono ?_; rintro e W1 ⟨rfl, b1⟩; have d0 := cell_keep b1 c0; have d1 := cell_keep b1 c1; have d2 := cell_keep b1 c2; have d3 := cell_keep b1 c3; have G0 := cell_keep b1 g0'; have G1 := cell_keep b1 g1'; have G2 := cell_keep b1 g2'; have kw1 : Below wr.heap.size wr W1 := kb.trans (b1.mono kb.size)) | (go_at_call 123; refine (isStyle_to f bk xx _ HS.out _).mono ?_; rintro e W2 ⟨rfl, b2⟩; have e0 := cell_keep b2 d0; have e1 := cell_keep b2 d1; have e2 := cell_keep b2 d2; have e3 := cell_keep b2 d3; have E0 := cell_keep b2 G0; have E1 := cell_keep b2 G1; have E2 := cell_keep b2 G2; have kw2 : Below wr.heap.size wr W2 := kw1.trans (b2.mono kw1.size)))
              have y0 : ∀ d os, (Sort.grow (redrawn W2 d) os).cell? ⟨wr.heap.size, 0, none⟩ = some (.int .i32 r) := fun d os => cell_regrown e0 d os
              have y1 : ∀ d os, (Sort.grow (redrawn W2 d) os).cell? ⟨wr.heap.size, 1, none⟩ = some (.int .i64 f) := fun d os => cell_regrown e1 d os
              have y2 : ∀ d os, (Sort.grow (redrawn W2 d) os).cell? ⟨wr.heap.size, 2, none⟩ = some (.int .i64 bk) := fun d os => cell_regrown e2 d os
              have y3 : ∀ d os, (Sort.grow (redrawn W2 d) os).cell? ⟨wr.heap.size, 3, none⟩ = some (.int .i64 xx) := fun d os => cell_regrown e3 d os
              have z0 : ∀ d os, (Sort.grow (redrawn W2 d) os).cell? ⟨w.heap.size, 0, none⟩ = some (.int .i64 (n : Int)) := fun d os => cell_regrown E0 d os
              have z2 : ∀ d os, (Sort.grow (redrawn W2 d) os).cell? ⟨w.heap.size, 2, none⟩ = some (.slice (some ⟨b, o, none⟩) L c) := fun d os => cell_regrown E2 d os
              refine wp_region_quiet_below (by kernel_rfl) (by kernel_rfl) ?_
              repeat (first | go_big_quiet_skip | quiet_step (fail))
              refine wpQuiet_nil ?_
              intro _ hw'
              obtain ⟨⟨dq, os⟩, hw''⟩ := hw'
              subst hw''
              have b3 := below_regrown W2 dq os
              have kw3 : Below wr.heap.size wr (Sort.grow (redrawn W2 dq) os) := kw2.trans (b3.mono kw2.size)
              have F0 := cell_keep b3 E0
              have F2 := cell_keep b3 E2
              have N0 := fun (a : Addr) (v : Value) (h : wr.cell? a = some v) => cell_keep kw3 h
              clear y0 y1 y2 y3 z0 z2
              generalize Sort.grow (redrawn W2 dq) os = W3 at *
              go_wp2_with fail
              go_roundg (L - (k + 1))
              case measure => omega
              case rel => exact ⟨k + 1, rfl, by omega, by omega, hb.trans (kw3.mono hb.size), carry hv kw3, HV.out⟩
    · have lt1 : ¬ ((k : Int) < (L : Int)) := by omega
      have HV : Hid (0 = firstErr (cellR n cs) 0 L) := by unfold Hid; rw [← HF1.out, first_end _ _ _ hlt]
      go_wp2_with fail
      go_ret
      exact ⟨Txt.ret_int HV.out, hb⟩
theorem ref_any (a h : Int) (v : Value) (cs : List C) (w : World) (hS : SliceAt w v cs) :
    Calls Tryz.prog 121 #[.agg #[.int .i64 a, .int .i64 h, v]] w fun e w' => e = .returned (.int .i64 (gridErr a h cs)) ∧ Below w.heap.size w w' := by
  unfold gridErr
  cases hs : isSize a h with
  | false => rw [if_pos (Or.inl rfl)]; exact ref_size1 a h v w hs
  | true =>
    obtain ⟨p0, p1, p2, p3, p4, p5⟩ := prod_in a h hs
    by_cases hL : (cs.length : Int) = a * h
    · rw [if_neg (by simp [hL])]
      rcases hS with ⟨rfl, _⟩ | ⟨_, b, o, c, rfl, hc, hm, hC⟩
      · exfalso
        have : 1 * 1 ≤ a * h := Int.mul_le_mul p2 p4 (by omega) (by omega)
        simp at hL
        omega
      · obtain ⟨n, rfl⟩ := Int.eq_ofNat_of_zero_le (show 0 ≤ a by omega)
        obtain ⟨m, rfl⟩ := Int.eq_ofNat_of_zero_le (show 0 ≤ h by omega)
        rw [Int.toNat_natCast, Int.toNat_natCast, errs_same n m cs (by exact_mod_cast hL)]
        exact ref_rows n m b o c cs w hC hs (by exact_mod_cast hL)
    · rw [if_pos (Or.inr hL)]
      obtain ⟨ad, c, rfl⟩ := hS.shape
      exact ref_size2 a h ad cs.length c w hs hL
end Grd
end Go.Proofs.YtnkeahfcpbepjaaGreatDoor

/- The walk of the reference's CleanOf. -/
namespace Go.Proofs.YtnkeahfcpbepjaaGreatDoor
open Go.ChangeShapes Go.WideShapes Go.ChangeAt Go.RowKit Go.Maps
namespace Txt

set_option maxHeartbeats 1000000 in
theorem cleanOf_any (s : ByteArray) (w : World) (hs : s.size ≤ 281474976710656) :
    Calls Tryz.prog 30 #[.string s] w fun e w' => e = .returned (.string (bs (cleanL (runes s)))) ∧ Below w.heap.size w w' := by
  go_enter Tryz.func30, Tryz.ntmps30
  go_wp2
  go_loopw [3] (fun a wr => ∃ (pos f : Nat) (acc : List UInt8), wr.heap[w.heap.size]? = some (.stringIter s pos) ∧ Below w.heap.size w wr ∧ a = .string (bs acc) ∧ acc ++ cleanL (rs s f pos) = cleanL (runes s) ∧ s.size ≤ pos + f ∧ acc.length ≤ 4 * pos ∧ pos ≤ s.size) (fun _ wr => s.size - wr.iterPos w.heap.size)
  case atStart =>
    exact ⟨0, s.size, [], World.iter_heap w s 0, (Below.refl _ w).alloc (Nat.le_refl _) _, rfl, by simp [runes], by omega, by simp, by omega⟩
  case round =>
    obtain ⟨pos, f, acc, hit, hbw, rfl, hc, hf, hal, hps⟩ := hrel
    have HC : Hid (acc ++ cleanL (rs s f pos) = cleanL (runes s)) := hc
    clear hc
    have hsz : w.heap.size < wr.heap.size := (Array.getElem?_eq_some_iff.1 hit).1
    by_cases hp : pos < s.size
    · have hnx : ∀ ty, (Instr.next (.pointer (some ⟨w.heap.size, 0, none⟩)) true ty).run Tryz.prog wr = _ := fun ty => Lib.run_next_any_at wr w.heap.size s pos ty hit hp
      have hwd := width_pos s pos hp
      have hfit := decode_fits s pos hp
      obtain ⟨f, rfl⟩ : ∃ g, f = g + 1 := ⟨f - 1, by omega⟩
      have HR : Hid (rs s (f + 1) pos = (((Utf8.decode s pos).1 : Int), (Utf8.decode s pos).2) :: rs s f (pos + (Utf8.decode s pos).2)) := rs_step s f pos hp
      have hit2 := Lib.iterAt_heap wr w.heap.size s pos (pos + (Utf8.decode s pos).2) hit
      have hbw2 := Lib.below_iterAt hbw (k := w.heap.size) (Nat.le_refl _) s (pos + (Utf8.decode s pos).2)
      have hsz2 : w.heap.size < (wr.iterAt w.heap.size s (pos + (Utf8.decode s pos).2)).heap.size := by rw [Lib.iterAt_size]; exact hsz
      have HI : Hid (wr.iterPos w.heap.size = pos) := by simp only [Hid, World.iterPos, hit]
      clear hit
      generalize Utf8.decode s pos = d at *
      have hl4 := encodeRune_length d.1
      by_cases hpos : 0 < wd d.1
      · have HE : Hid (Utf8.encode (d.1 : Int) = bs (Lib.encodeRune d.1)) := encode_eq d.1
        have hsum : ¬ 9223372036854775807 < (bs acc).size + (Utf8.encode (d.1 : Int)).size := by rw [HE.out, bs_size, bs_size]; omega
        go_wp2_with (go_at_call 69; refine (widthOf_any _ _).mono ?_; rintro e W1 ⟨rfl, b1⟩)
        go_roundw
        case rel =>
          refine ⟨pos + d.2, f, acc ++ Lib.encodeRune d.1, (b1.block _ hsz2).trans hit2, hbw2.trans (b1.mono (by omega)), ?_, ?_, by omega, by simp; omega, by omega⟩
          · rw [← bs_append, ← HE.out]
          · rw [← HC.out, HR.out]; simp [cleanL, hpos]
        case measure =>
          rw [HI.out]
          simp only [World.iterPos, (b1.block _ hsz2).trans hit2]
          omega
      · have hz : ¬ 0 < wd d.1 := hpos
        go_wp2_with (go_at_call 69; refine (widthOf_any _ _).mono ?_; rintro e W1 ⟨rfl, b1⟩)
        go_roundw
        case rel =>
          refine ⟨pos + d.2, f, acc, (b1.block _ hsz2).trans hit2, hbw2.trans (b1.mono (by omega)), rfl, ?_, by omega, by omega, by omega⟩
          rw [← HC.out, HR.out]; simp only [cleanL]; rw [if_neg (by omega)]; rfl
        case measure =>
          rw [HI.out]
          simp only [World.iterPos, (b1.block _ hsz2).trans hit2]
          omega
    · have hnx : ∀ ty, (Instr.next (.pointer (some ⟨w.heap.size, 0, none⟩)) true ty).run Tryz.prog wr = _ := fun ty => Lib.run_next_end_at wr w.heap.size s pos ty hit hp
      go_wp2
      go_ret
      have := HC.out
      rw [rs_end s f pos hp, cleanL, List.append_nil] at this
      subst this
      exact ⟨rfl, hbw⟩
end Txt
end Go.Proofs.YtnkeahfcpbepjaaGreatDoor
