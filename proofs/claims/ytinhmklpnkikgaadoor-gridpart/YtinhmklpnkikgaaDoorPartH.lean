/- The walk of the reference's CheckGrid. -/
import Derived.Test.YtinhmklpnkikgaaDoorPartD
import Derived.Test.YtinhmklpnkikgaaDoorPartF
import Derived.Test.YtinhmklpnkikgaaDoorPartE
import Derived.WalkSmall
import Derived.Maps.AppendAt
namespace Go.Proofs.YtinhmklpnkikgaaDoor
open Go.ChangeShapes Go.WideShapes Go.ChangeAt Go.RowKit
namespace Grd
open Txt (wd)
open Sty (isSt)
theorem widthOf_to (r : Int) (w : World) (v : Int) (h : wd r = v) : Calls Tryd.prog 19 #[.int .i32 r] w fun e w' => e = .returned (.int .i64 v) ∧ Below w.heap.size w w' := by
  have := Txt.widthOf_any r w
  rwa [h] at this
theorem isStyle_to (f b x : Int) (v : Bool) (h : isSt (f, b, x) = v) (w : World) : Calls Tryd.prog 20 #[.agg #[.int .i64 f, .int .i64 b, .int .i64 x]] w fun e w' => e = .returned (.bool v) ∧ Below w.heap.size w w' := by
  have := Sty.isStyle_any f b x w
  rwa [h] at this
theorem size_false (a b : Int) (h : isSize a b = false) : (a < 1 ∨ 120 < a) ∨ (b < 1 ∨ 60 < b) := by
  unfold isSize at h
  have := of_decide_eq_false h
  omega
set_option maxHeartbeats 1000000 in
theorem ref_size1 (a b : Int) (v : Value) (w : World) (h : isSize a b = false) :
    Calls Tryd.prog 12 #[.agg #[.int .i64 a, .int .i64 b, v]] w fun e w' => e = .returned (.int .i64 3) ∧ Below w.heap.size w w' := by
  rcases size_false a b h with (h1 | h1) | h2
  · go_enter Tryd.func12, Tryd.ntmps12
    go_wp2_with fail
    go_ret
    exact ⟨rfl, (Below.refl _ _).alloc (Nat.le_refl _) _⟩
  · have h1' : 1 ≤ a := by omega
    go_enter Tryd.func12, Tryd.ntmps12
    go_wp2_with fail
    go_ret
    exact ⟨rfl, (Below.refl _ _).alloc (Nat.le_refl _) _⟩
  · by_cases ha : 1 ≤ a ∧ a ≤ 120
    · obtain ⟨ha1, ha2⟩ := ha
      rcases h2 with h2 | h2
      · go_enter Tryd.func12, Tryd.ntmps12
        go_wp2_with fail
        go_ret
        exact ⟨rfl, (Below.refl _ _).alloc (Nat.le_refl _) _⟩
      · have h2' : 1 ≤ b := by omega
        go_enter Tryd.func12, Tryd.ntmps12
        go_wp2_with fail
        go_ret
        exact ⟨rfl, (Below.refl _ _).alloc (Nat.le_refl _) _⟩
    · by_cases h1 : a < 1
      · clear h2 ha
        go_enter Tryd.func12, Tryd.ntmps12
        go_wp2_with fail
        go_ret
        exact ⟨rfl, (Below.refl _ _).alloc (Nat.le_refl _) _⟩
      · have h1' : 1 ≤ a := by omega
        have h1'' : 120 < a := by omega
        clear h2 ha
        go_enter Tryd.func12, Tryd.ntmps12
        go_wp2_with fail
        go_ret
        exact ⟨rfl, (Below.refl _ _).alloc (Nat.le_refl _) _⟩
set_option maxHeartbeats 1000000 in
theorem ref_size2 (a b : Int) (ad : Option Addr) (L c : Nat) (w : World) (h : isSize a b = true) (hL : (L : Int) ≠ a * b) :
    Calls Tryd.prog 12 #[.agg #[.int .i64 a, .int .i64 b, .slice ad L c]] w fun e w' => e = .returned (.int .i64 3) ∧ Below w.heap.size w w' := by
  have ⟨p0, p1, p2, p3, p4, p5⟩ := prod_in a b h
  clear h
  obtain ⟨p, hp⟩ : ∃ p, p = a * b := ⟨_, rfl⟩
  rw [← hp] at hL p0 p1
  have e1 : a * b = p := hp.symm
  clear hp
  have ne : ((L : Int) != p) = true := by simpa using hL
  clear hL
  go_enter Tryd.func12, Tryd.ntmps12
  go_wp2_with fail
  go_ret
  exact ⟨rfl, (Below.refl _ _).alloc (Nat.le_refl _) _⟩
set_option maxHeartbeats 4000000 in
set_option maxRecDepth 100000 in
theorem ref_rows (n hh : Nat) (b o c : Nat) (cs : List C) (w : World) (hC : CellsAt w b o cs) (hs : isSize n hh = true) (hL : cs.length = n * hh) :
    Calls Tryd.prog 12 #[.agg #[.int .i64 (n : Int), .int .i64 (hh : Int), .slice (some ⟨b, o, none⟩) cs.length c]] w fun e w' => e = .returned (.int .i64 (firstErr (cellR n cs) 0 (n * hh))) ∧ Below w.heap.size w w' := by
  have HC : Hid (CellsAt w b o cs) := hC
  have ⟨p0, p1, p2, p3, p4, p5⟩ := prod_in n hh hs
  clear hs hC
  have e1 : (n : Int) * (hh : Int) = (cs.length : Int) := by rw [hL]; simp
  have l1 : cs.length ≤ 7200 := by rw [hL]; omega
  have HMOD : Hid (∀ k, k < cs.length → ¬ k % n + 1 = n → k + 1 < cs.length) := fun k hk hl => by
    rcases Nat.lt_or_ge (k + 1) cs.length with h | h
    · exact h
    · exfalso
      apply hl
      have e : k + 1 = n * hh := by omega
      have hn1 : 1 ≤ n := by omega
      have hlt := Nat.mod_lt k (show 0 < n by omega)
      have h1 : (k + 1) % n = 0 := by rw [e]; exact Nat.mul_mod_right n hh
      rw [Nat.add_mod] at h1
      rcases Nat.lt_or_ge (k % n + 1) n with h2 | h2
      · rcases Nat.lt_or_ge 1 n with h3 | h3
        · rw [Nat.mod_eq_of_lt h3, Nat.mod_eq_of_lt h2] at h1
          omega
        · omega
      · omega
  rw [← hL]
  clear hL p0 p1
  have ne : ((cs.length : Int) != (cs.length : Int)) = false := by simp
  generalize hl : cs.length = L at *
  have HLn : Hid (cs.length = L) := hl
  clear hl
  go_enter Tryd.func12, Tryd.ntmps12
  go_wp2_with fail
  go_loopg [39] L (fun g i wr => ∃ k : Nat, i = .int .i64 (k : Int) ∧ k ≤ L ∧ L - k ≤ g ∧ Below w.heap.size w wr ∧ wr.heap[w.heap.size]? = some (.cells #[.int .i64 (n : Int), .int .i64 (hh : Int), .slice (some ⟨b, o, none⟩) L c] 24 (0, 0)) ∧ firstErr (cellR n cs) k (L - k) = firstErr (cellR n cs) 0 L)
  case atStart => exact ⟨0, rfl, by omega, by omega, (Below.refl _ _).alloc (Nat.le_refl _) _, heap_alloc_new _ _, rfl⟩
  case round =>
    obtain ⟨k, rfl, hk, hg, hb, hv, hf⟩ := hrel
    have HF1 : Hid (firstErr (cellR n cs) k (L - k) = firstErr (cellR n cs) 0 L) := hf
    clear hf
    have ⟨g0, g1, g2, _⟩ := cells3 hv
    by_cases hlt : k < L
    · have HST : Hid (firstErr (cellR n cs) k (L - k) = if cellR n cs k = 0 then firstErr (cellR n cs) (k + 1) (L - (k + 1)) else cellR n cs k) := first_step (cellR n cs) k L hlt
      have lt1 : ((k : Int) < (L : Int)) := by omega
      obtain ⟨t0, t1, t2, t3⟩ := HC.out.below hb k (by rw [HLn.out]; exact hlt)
      have HCW : Hid (CellsAt wr b o cs) := HC.out.below hb
      rcases hcc : cs.getD k z0 with ⟨r, f, bk, xx⟩
      rw [hcc] at t0 t1 t2 t3
      dsimp only at t0 t1 t2 t3
      have HCC : Hid (cs.getD k z0 = (r, f, bk, xx)) := hcc
      clear hcc
      have ⟨c0, c1, c2, c3⟩ := cells4_new wr 40 (.int .i32 r) (.int .i64 f) (.int .i64 bk) (.int .i64 xx)
      have kb : Below wr.heap.size wr (wr.alloc (.cells #[.int .i32 r, .int .i64 f, .int .i64 bk, .int .i64 xx] 40)) := (Below.refl _ _).alloc (Nat.le_refl _) _
      have g0' := cell_keep kb g0
      have g1' := cell_keep kb g1
      have g2' := cell_keep kb g2
      by_cases hr : r = 0
      · cases hs : isSt (f, bk, xx) with
        | false =>
          have HZ : cellR n cs k = 4 := by unfold cellR; rw [HCC.out]; dsimp only; rw [if_pos (Or.inr hs)]
          have HV : Hid ((4 : Int) = firstErr (cellR n cs) 0 L) := by unfold Hid; rw [← HF1.out, HST.out, HZ, if_neg (by decide)]
          subst hr
          have HW : Hid (wd 0 = 0) := wd0
          have HS : Hid (isSt (f, bk, xx) = false) := hs
          clear hs HZ
          go_wp2_with (first | (go_at_call 19; refine (widthOf_to 0 _ 0 HW.out).mono ?_; rintro e W1 ⟨rfl, b1⟩; have d0 := cell_keep b1 c0; have d1 := cell_keep b1 c1; have d2 := cell_keep b1 c2; have d3 := cell_keep b1 c3; have G0 := cell_keep b1 g0'; have G1 := cell_keep b1 g1'; have G2 := cell_keep b1 g2'; have kw1 : Below wr.heap.size wr W1 := kb.trans (b1.mono kb.size)) | (go_at_call 20; refine (isStyle_to f bk xx _ HS.out _).mono ?_; rintro e W2 ⟨rfl, b2⟩; have e0 := cell_keep b2 d0; have e1 := cell_keep b2 d1; have e2 := cell_keep b2 d2; have e3 := cell_keep b2 d3; have E0 := cell_keep b2 G0; have E1 := cell_keep b2 G1; have E2 := cell_keep b2 G2; have kw2 : Below wr.heap.size wr W2 := kw1.trans (b2.mono kw1.size)))
          go_ret
          exact ⟨Txt.ret_int HV.out, hb.trans (kw2.mono hb.size)⟩
        | true =>
          by_cases hx0 : k % n = 0
          · have HZ : cellR n cs k = 5 := by unfold cellR; rw [HCC.out]; dsimp only; rw [if_neg (by simp [hr, hs])]; rw [if_pos ⟨hr, Or.inl hx0⟩]
            have HV : Hid ((5 : Int) = firstErr (cellR n cs) 0 L) := by unfold Hid; rw [← HF1.out, HST.out, HZ, if_neg (by decide)]
            subst hr
            have HW : Hid (wd 0 = 0) := wd0
            have nx : ((k : Int) % (n : Int) == 0) = true := by rw [← Int.natCast_emod, hx0]; rfl
            have HS : Hid (isSt (f, bk, xx) = true) := hs
            clear hs HZ
            go_wp2_with (first | (go_at_call 19; refine (widthOf_to 0 _ 0 HW.out).mono ?_; rintro e W1 ⟨rfl, b1⟩; have d0 := cell_keep b1 c0; have d1 := cell_keep b1 c1; have d2 := cell_keep b1 c2; have d3 := cell_keep b1 c3; have G0 := cell_keep b1 g0'; have G1 := cell_keep b1 g1'; have G2 := cell_keep b1 g2'; have kw1 : Below wr.heap.size wr W1 := kb.trans (b1.mono kb.size)) | (go_at_call 20; refine (isStyle_to f bk xx _ HS.out _).mono ?_; rintro e W2 ⟨rfl, b2⟩; have e0 := cell_keep b2 d0; have e1 := cell_keep b2 d1; have e2 := cell_keep b2 d2; have e3 := cell_keep b2 d3; have E0 := cell_keep b2 G0; have E1 := cell_keep b2 G1; have E2 := cell_keep b2 G2; have kw2 : Below wr.heap.size wr W2 := kw1.trans (b2.mono kw1.size)))
            have y0 : ∀ d os, (Sort.grow (redrawn W2 d) os).cell? ⟨wr.heap.size, 0, none⟩ = some (.int .i32 0) := fun d os => cell_regrown e0 d os
            have y1 : ∀ d os, (Sort.grow (redrawn W2 d) os).cell? ⟨wr.heap.size, 1, none⟩ = some (.int .i64 f) := fun d os => cell_regrown e1 d os
            have y2 : ∀ d os, (Sort.grow (redrawn W2 d) os).cell? ⟨wr.heap.size, 2, none⟩ = some (.int .i64 bk) := fun d os => cell_regrown e2 d os
            have y3 : ∀ d os, (Sort.grow (redrawn W2 d) os).cell? ⟨wr.heap.size, 3, none⟩ = some (.int .i64 xx) := fun d os => cell_regrown e3 d os
            have z0 : ∀ d os, (Sort.grow (redrawn W2 d) os).cell? ⟨w.heap.size, 0, none⟩ = some (.int .i64 (n : Int)) := fun d os => cell_regrown E0 d os
            have z2 : ∀ d os, (Sort.grow (redrawn W2 d) os).cell? ⟨w.heap.size, 2, none⟩ = some (.slice (some ⟨b, o, none⟩) L c) := fun d os => cell_regrown E2 d os
            refine wp_region_quiet_below (by kernel_rfl) (by kernel_rfl) ?_
            repeat (first | go_big_quiet_skip | quiet_step (fail))
            refine wpQuiet_nil ?_
            intro _ hw'
            obtain ⟨⟨dq, os⟩, hw''⟩ := hw'
            subst hw''
            have b3 := below_regrown W2 dq os
            have kw3 : Below wr.heap.size wr (Sort.grow (redrawn W2 dq) os) := kw2.trans (b3.mono kw2.size)
            have F0 := cell_keep b3 E0
            have F2 := cell_keep b3 E2
            have N0 := fun (a : Addr) (v : Value) (h : wr.cell? a = some v) => cell_keep kw3 h
            clear y0 y1 y2 y3 z0 z2
            generalize Sort.grow (redrawn W2 dq) os = W3 at *
            go_wp2_with fail
            go_ret
            exact ⟨Txt.ret_int HV.out, hb.trans (kw3.mono hb.size)⟩
          · have hk0 : 0 < k := by
              rcases Nat.eq_zero_or_pos k with h | h
              · exact absurd (by rw [h]; simp) hx0
              · exact h
            obtain ⟨q0, q1, q2, q3⟩ := HCW.out (k - 1) (by rw [HLn.out]; omega)
            rcases hpp : cs.getD (k - 1) z0 with ⟨rp, fp, bp, xp⟩
            rw [hpp] at q0 q1 q2 q3
            dsimp only at q0 q1 q2 q3
            have nx : ((k : Int) % (n : Int) == 0) = false := by rw [← Int.natCast_emod]; simp only [beq_eq_false_iff_ne, ne_eq]; omega

            by_cases hp2 : wd rp = 2
            · by_cases hq : (fp, bp, xp) = (f, bk, xx)
              · have HZ : cellR n cs k = 0 := by unfold cellR; rw [HCC.out]; dsimp only; rw [if_neg (by simp [hr, hs])]; rw [if_neg (by rw [hpp]; simp [hx0, hp2, hq]), if_neg (by rw [hr, wd0]; simp)]
                have HV : Hid (firstErr (cellR n cs) (k + 1) (L - (k + 1)) = firstErr (cellR n cs) 0 L) := by unfold Hid; rw [← HF1.out, HST.out, if_pos HZ]
                subst hr
                have HW : Hid (wd 0 = 0) := wd0
                have HP : Hid (wd rp = 2) := hp2
                clear hp2
                have nq : ∀ w, (binOp .neq 38 (.agg #[.int .i64 fp, .int .i64 bp, .int .i64 xp]) (.agg #[.int .i64 f, .int .i64 bk, .int .i64 xx])).run Tryd.prog w = .ok (.bool false) w := fun w => by rw [Sty.neq_agg]; simp [hq]
                clear hq hpp
                have HS : Hid (isSt (f, bk, xx) = true) := hs
                clear hs HZ
                go_wp2_with (first | (go_at_call 19; refine (widthOf_to 0 _ 0 HW.out).mono ?_; rintro e W1 ⟨rfl, b1⟩; have d0 := cell_keep b1 c0; have d1 := cell_keep b1 c1; have d2 := cell_keep b1 c2; have d3 := cell_keep b1 c3; have G0 := cell_keep b1 g0'; have G1 := cell_keep b1 g1'; have G2 := cell_keep b1 g2'; have kw1 : Below wr.heap.size wr W1 := kb.trans (b1.mono kb.size)) | (go_at_call 20; refine (isStyle_to f bk xx _ HS.out _).mono ?_; rintro e W2 ⟨rfl, b2⟩; have e0 := cell_keep b2 d0; have e1 := cell_keep b2 d1; have e2 := cell_keep b2 d2; have e3 := cell_keep b2 d3; have E0 := cell_keep b2 G0; have E1 := cell_keep b2 G1; have E2 := cell_keep b2 G2; have kw2 : Below wr.heap.size wr W2 := kw1.trans (b2.mono kw1.size)))
                have y0 : ∀ d os, (Sort.grow (redrawn W2 d) os).cell? ⟨wr.heap.size, 0, none⟩ = some (.int .i32 0) := fun d os => cell_regrown e0 d os
                have y1 : ∀ d os, (Sort.grow (redrawn W2 d) os).cell? ⟨wr.heap.size, 1, none⟩ = some (.int .i64 f) := fun d os => cell_regrown e1 d os
                have y2 : ∀ d os, (Sort.grow (redrawn W2 d) os).cell? ⟨wr.heap.size, 2, none⟩ = some (.int .i64 bk) := fun d os => cell_regrown e2 d os
                have y3 : ∀ d os, (Sort.grow (redrawn W2 d) os).cell? ⟨wr.heap.size, 3, none⟩ = some (.int .i64 xx) := fun d os => cell_regrown e3 d os
                have z0 : ∀ d os, (Sort.grow (redrawn W2 d) os).cell? ⟨w.heap.size, 0, none⟩ = some (.int .i64 (n : Int)) := fun d os => cell_regrown E0 d os
                have z2 : ∀ d os, (Sort.grow (redrawn W2 d) os).cell? ⟨w.heap.size, 2, none⟩ = some (.slice (some ⟨b, o, none⟩) L c) := fun d os => cell_regrown E2 d os
                have u0 : ∀ d os, (Sort.grow (redrawn W2 d) os).cell? ⟨b, o + (k - 1) * 4, none⟩ = some (.int .i32 rp) := fun d os => cell_regrown (cell_keep kw2 q0) d os
                have u1 : ∀ d os, (Sort.grow (redrawn W2 d) os).cell? ⟨b, o + (k - 1) * 4 + 1, none⟩ = some (.int .i64 fp) := fun d os => cell_regrown (cell_keep kw2 q1) d os
                have u2 : ∀ d os, (Sort.grow (redrawn W2 d) os).cell? ⟨b, o + (k - 1) * 4 + 2, none⟩ = some (.int .i64 bp) := fun d os => cell_regrown (cell_keep kw2 q2) d os
                have u3 : ∀ d os, (Sort.grow (redrawn W2 d) os).cell? ⟨b, o + (k - 1) * 4 + 3, none⟩ = some (.int .i64 xp) := fun d os => cell_regrown (cell_keep kw2 q3) d os
                have hwr : IntKind.i64.wrap ((k : Int) - 1) = ((k - 1 : Nat) : Int) := by unfold IntKind.wrap; simp [IntKind.bits, IntKind.signed]; omega
                have hkp : k - 1 < L := by omega
                have K4 : Hid (∀ d os, Calls Tryd.prog 19 #[.int .i32 rp] (Sort.grow (redrawn W2 d) os) fun e w'' => e = .returned (.int .i64 2) ∧ ∃ p : Regrown, w'' = Sort.grow (redrawn W2 p.d) p.os) := fun d os => Calls.regrown_of (widthOf_to rp _ 2 HP.out)
                refine wp_region_quiet_below (by kernel_rfl) (by kernel_rfl) ?_
                repeat (first | go_big_quiet_skip | quiet_step (first | (go_at_call 19; exact K4.out _ _)))
                refine wpQuiet_nil ?_
                intro _ hw'
                obtain ⟨⟨dq, os⟩, hw''⟩ := hw'
                subst hw''
                have b3 := below_regrown W2 dq os
                have kw3 : Below wr.heap.size wr (Sort.grow (redrawn W2 dq) os) := kw2.trans (b3.mono kw2.size)
                have F0 := cell_keep b3 E0
                have F2 := cell_keep b3 E2
                have N0 := fun (a : Addr) (v : Value) (h : wr.cell? a = some v) => cell_keep kw3 h
                clear y0 y1 y2 y3 z0 z2 u0 u1 u2 u3
                generalize Sort.grow (redrawn W2 dq) os = W3 at *
                go_wp2_with fail
                go_roundg (L - (k + 1))
                case measure => omega
                case rel => exact ⟨k + 1, rfl, by omega, by omega, hb.trans (kw3.mono hb.size), carry hv kw3, HV.out⟩
              · have HZ : cellR n cs k = 5 := by unfold cellR; rw [HCC.out]; dsimp only; rw [if_neg (by simp [hr, hs])]; rw [if_pos ⟨hr, Or.inr (Or.inr (by rw [hpp]; exact hq))⟩]
                have HV : Hid ((5 : Int) = firstErr (cellR n cs) 0 L) := by unfold Hid; rw [← HF1.out, HST.out, HZ, if_neg (by decide)]
                subst hr
                have HW : Hid (wd 0 = 0) := wd0
                have HP : Hid (wd rp = 2) := hp2
                clear hp2
                have nq : ∀ w, (binOp .neq 38 (.agg #[.int .i64 fp, .int .i64 bp, .int .i64 xp]) (.agg #[.int .i64 f, .int .i64 bk, .int .i64 xx])).run Tryd.prog w = .ok (.bool true) w := fun w => by rw [Sty.neq_agg]; simp [hq]
                clear hq hpp
                have HS : Hid (isSt (f, bk, xx) = true) := hs
                clear hs HZ
                go_wp2_with (first | (go_at_call 19; refine (widthOf_to 0 _ 0 HW.out).mono ?_; rintro e W1 ⟨rfl, b1⟩; have d0 := cell_keep b1 c0; have d1 := cell_keep b1 c1; have d2 := cell_keep b1 c2; have d3 := cell_keep b1 c3; have G0 := cell_keep b1 g0'; have G1 := cell_keep b1 g1'; have G2 := cell_keep b1 g2'; have kw1 : Below wr.heap.size wr W1 := kb.trans (b1.mono kb.size)) | (go_at_call 20; refine (isStyle_to f bk xx _ HS.out _).mono ?_; rintro e W2 ⟨rfl, b2⟩; have e0 := cell_keep b2 d0; have e1 := cell_keep b2 d1; have e2 := cell_keep b2 d2; have e3 := cell_keep b2 d3; have E0 := cell_keep b2 G0; have E1 := cell_keep b2 G1; have E2 := cell_keep b2 G2; have kw2 : Below wr.heap.size wr W2 := kw1.trans (b2.mono kw1.size)))
                have y0 : ∀ d os, (Sort.grow (redrawn W2 d) os).cell? ⟨wr.heap.size, 0, none⟩ = some (.int .i32 0) := fun d os => cell_regrown e0 d os
                have y1 : ∀ d os, (Sort.grow (redrawn W2 d) os).cell? ⟨wr.heap.size, 1, none⟩ = some (.int .i64 f) := fun d os => cell_regrown e1 d os
                have y2 : ∀ d os, (Sort.grow (redrawn W2 d) os).cell? ⟨wr.heap.size, 2, none⟩ = some (.int .i64 bk) := fun d os => cell_regrown e2 d os
                have y3 : ∀ d os, (Sort.grow (redrawn W2 d) os).cell? ⟨wr.heap.size, 3, none⟩ = some (.int .i64 xx) := fun d os => cell_regrown e3 d os
                have z0 : ∀ d os, (Sort.grow (redrawn W2 d) os).cell? ⟨w.heap.size, 0, none⟩ = some (.int .i64 (n : Int)) := fun d os => cell_regrown E0 d os
                have z2 : ∀ d os, (Sort.grow (redrawn W2 d) os).cell? ⟨w.heap.size, 2, none⟩ = some (.slice (some ⟨b, o, none⟩) L c) := fun d os => cell_regrown E2 d os
                have u0 : ∀ d os, (Sort.grow (redrawn W2 d) os).cell? ⟨b, o + (k - 1) * 4, none⟩ = some (.int .i32 rp) := fun d os => cell_regrown (cell_keep kw2 q0) d os
                have u1 : ∀ d os, (Sort.grow (redrawn W2 d) os).cell? ⟨b, o + (k - 1) * 4 + 1, none⟩ = some (.int .i64 fp) := fun d os => cell_regrown (cell_keep kw2 q1) d os
                have u2 : ∀ d os, (Sort.grow (redrawn W2 d) os).cell? ⟨b, o + (k - 1) * 4 + 2, none⟩ = some (.int .i64 bp) := fun d os => cell_regrown (cell_keep kw2 q2) d os
                have u3 : ∀ d os, (Sort.grow (redrawn W2 d) os).cell? ⟨b, o + (k - 1) * 4 + 3, none⟩ = some (.int .i64 xp) := fun d os => cell_regrown (cell_keep kw2 q3) d os
                have hwr : IntKind.i64.wrap ((k : Int) - 1) = ((k - 1 : Nat) : Int) := by unfold IntKind.wrap; simp [IntKind.bits, IntKind.signed]; omega
                have hkp : k - 1 < L := by omega
                have K4 : Hid (∀ d os, Calls Tryd.prog 19 #[.int .i32 rp] (Sort.grow (redrawn W2 d) os) fun e w'' => e = .returned (.int .i64 2) ∧ ∃ p : Regrown, w'' = Sort.grow (redrawn W2 p.d) p.os) := fun d os => Calls.regrown_of (widthOf_to rp _ 2 HP.out)
                refine wp_region_quiet_below (by kernel_rfl) (by kernel_rfl) ?_
                repeat (first | go_big_quiet_skip | quiet_step (first | (go_at_call 19; exact K4.out _ _)))
                refine wpQuiet_nil ?_
                intro _ hw'
                obtain ⟨⟨dq, os⟩, hw''⟩ := hw'
                subst hw''
                have b3 := below_regrown W2 dq os
                have kw3 : Below wr.heap.size wr (Sort.grow (redrawn W2 dq) os) := kw2.trans (b3.mono kw2.size)
                have F0 := cell_keep b3 E0
                have F2 := cell_keep b3 E2
                have N0 := fun (a : Addr) (v : Value) (h : wr.cell? a = some v) => cell_keep kw3 h
                clear y0 y1 y2 y3 z0 z2 u0 u1 u2 u3
                generalize Sort.grow (redrawn W2 dq) os = W3 at *
                go_wp2_with fail
                go_ret
                exact ⟨Txt.ret_int HV.out, hb.trans (kw3.mono hb.size)⟩
            · have HZ : cellR n cs k = 5 := by unfold cellR; rw [HCC.out]; dsimp only; rw [if_neg (by simp [hr, hs])]; rw [if_pos ⟨hr, Or.inr (Or.inl (by rw [hpp]; exact hp2))⟩]
              have HV : Hid ((5 : Int) = firstErr (cellR n cs) 0 L) := by unfold Hid; rw [← HF1.out, HST.out, HZ, if_neg (by decide)]
              subst hr
              have HW : Hid (wd 0 = 0) := wd0
              have np : (wd rp != 2) = true := by simpa using hp2
              clear hpp
              have HS : Hid (isSt (f, bk, xx) = true) := hs
              clear hs HZ
              go_wp2_with (first | (go_at_call 19; refine (widthOf_to 0 _ 0 HW.out).mono ?_; rintro e W1 ⟨rfl, b1⟩; have d0 := cell_keep b1 c0; have d1 := cell_keep b1 c1; have d2 := cell_keep b1 c2; have d3 := cell_keep b1 c3; have G0 := cell_keep b1 g0'; have G1 := cell_keep b1 g1'; have G2 := cell_keep b1 g2'; have kw1 : Below wr.heap.size wr W1 := kb.trans (b1.mono kb.size)) | (go_at_call 20; refine (isStyle_to f bk xx _ HS.out _).mono ?_; rintro e W2 ⟨rfl, b2⟩; have e0 := cell_keep b2 d0; have e1 := cell_keep b2 d1; have e2 := cell_keep b2 d2; have e3 := cell_keep b2 d3; have E0 := cell_keep b2 G0; have E1 := cell_keep b2 G1; have E2 := cell_keep b2 G2; have kw2 : Below wr.heap.size wr W2 := kw1.trans (b2.mono kw1.size)))
              have y0 : ∀ d os, (Sort.grow (redrawn W2 d) os).cell? ⟨wr.heap.size, 0, none⟩ = some (.int .i32 0) := fun d os => cell_regrown e0 d os
              have y1 : ∀ d os, (Sort.grow (redrawn W2 d) os).cell? ⟨wr.heap.size, 1, none⟩ = some (.int .i64 f) := fun d os => cell_regrown e1 d os
              have y2 : ∀ d os, (Sort.grow (redrawn W2 d) os).cell? ⟨wr.heap.size, 2, none⟩ = some (.int .i64 bk) := fun d os => cell_regrown e2 d os
              have y3 : ∀ d os, (Sort.grow (redrawn W2 d) os).cell? ⟨wr.heap.size, 3, none⟩ = some (.int .i64 xx) := fun d os => cell_regrown e3 d os
              have z0 : ∀ d os, (Sort.grow (redrawn W2 d) os).cell? ⟨w.heap.size, 0, none⟩ = some (.int .i64 (n : Int)) := fun d os => cell_regrown E0 d os
              have z2 : ∀ d os, (Sort.grow (redrawn W2 d) os).cell? ⟨w.heap.size, 2, none⟩ = some (.slice (some ⟨b, o, none⟩) L c) := fun d os => cell_regrown E2 d os
              have u0 : ∀ d os, (Sort.grow (redrawn W2 d) os).cell? ⟨b, o + (k - 1) * 4, none⟩ = some (.int .i32 rp) := fun d os => cell_regrown (cell_keep kw2 q0) d os
              have u1 : ∀ d os, (Sort.grow (redrawn W2 d) os).cell? ⟨b, o + (k - 1) * 4 + 1, none⟩ = some (.int .i64 fp) := fun d os => cell_regrown (cell_keep kw2 q1) d os
              have u2 : ∀ d os, (Sort.grow (redrawn W2 d) os).cell? ⟨b, o + (k - 1) * 4 + 2, none⟩ = some (.int .i64 bp) := fun d os => cell_regrown (cell_keep kw2 q2) d os
              have u3 : ∀ d os, (Sort.grow (redrawn W2 d) os).cell? ⟨b, o + (k - 1) * 4 + 3, none⟩ = some (.int .i64 xp) := fun d os => cell_regrown (cell_keep kw2 q3) d os
              have hwr : IntKind.i64.wrap ((k : Int) - 1) = ((k - 1 : Nat) : Int) := by unfold IntKind.wrap; simp [IntKind.bits, IntKind.signed]; omega
              have hkp : k - 1 < L := by omega
              have K4 : Hid (∀ d os, Calls Tryd.prog 19 #[.int .i32 rp] (Sort.grow (redrawn W2 d) os) fun e w'' => e = .returned (.int .i64 (wd rp)) ∧ ∃ p : Regrown, w'' = Sort.grow (redrawn W2 p.d) p.os) := fun d os => Calls.regrown_of (Txt.widthOf_any rp _)
              refine wp_region_quiet_below (by kernel_rfl) (by kernel_rfl) ?_
              repeat (first | go_big_quiet_skip | quiet_step (first | (go_at_call 19; exact K4.out _ _)))
              refine wpQuiet_nil ?_
              intro _ hw'
              obtain ⟨⟨dq, os⟩, hw''⟩ := hw'
              subst hw''
              have b3 := below_regrown W2 dq os
              have kw3 : Below wr.heap.size wr (Sort.grow (redrawn W2 dq) os) := kw2.trans (b3.mono kw2.size)
              have F0 := cell_keep b3 E0
              have F2 := cell_keep b3 E2
              have N0 := fun (a : Addr) (v : Value) (h : wr.cell? a = some v) => cell_keep kw3 h
              clear y0 y1 y2 y3 z0 z2 u0 u1 u2 u3
              generalize Sort.grow (redrawn W2 dq) os = W3 at *
              go_wp2_with fail
              go_ret
              exact ⟨Txt.ret_int HV.out, hb.trans (kw3.mono hb.size)⟩
      · by_cases hw : wd r = 0
        · have HZ : cellR n cs k = 4 := by unfold cellR; rw [HCC.out]; dsimp only; rw [if_pos (Or.inl ⟨hr, hw⟩)]
          have HV : Hid ((4 : Int) = firstErr (cellR n cs) 0 L) := by unfold Hid; rw [← HF1.out, HST.out, HZ, if_neg (by decide)]
          have nr : (r != 0) = true := by simpa using hr
          have nr' : (r == 0) = false := by simpa using hr
          have HW : Hid (wd r = 0) := hw
          clear hw HZ
          go_wp2_with (go_at_call 19; refine (widthOf_to r _ 0 HW.out).mono ?_; rintro e W1 ⟨rfl, b1⟩; have d0 := cell_keep b1 c0; have d1 := cell_keep b1 c1; have d2 := cell_keep b1 c2; have d3 := cell_keep b1 c3; have G0 := cell_keep b1 g0'; have G1 := cell_keep b1 g1'; have G2 := cell_keep b1 g2'; have kw1 : Below wr.heap.size wr W1 := kb.trans (b1.mono kb.size))
          go_ret
          exact ⟨Txt.ret_int HV.out, hb.trans (kw1.mono hb.size)⟩
        · cases hs : isSt (f, bk, xx) with
          | false =>
            have HZ : cellR n cs k = 4 := by unfold cellR; rw [HCC.out]; dsimp only; rw [if_pos (Or.inr hs)]
            have HV : Hid ((4 : Int) = firstErr (cellR n cs) 0 L) := by unfold Hid; rw [← HF1.out, HST.out, HZ, if_neg (by decide)]
            have nr : (r != 0) = true := by simpa using hr
            have nr' : (r == 0) = false := by simpa using hr
            have HW : Hid (wd r = wd r) := rfl
            have nw : (wd r == 0) = false := by simpa using hw
            have HS : Hid (isSt (f, bk, xx) = false) := hs
            clear hs HZ
            go_wp2_with (first | (go_at_call 19; refine (widthOf_to r _ _ HW.out).mono ?_; rintro e W1 ⟨rfl, b1⟩; have d0 := cell_keep b1 c0; have d1 := cell_keep b1 c1; have d2 := cell_keep b1 c2; have d3 := cell_keep b1 c3; have G0 := cell_keep b1 g0'; have G1 := cell_keep b1 g1'; have G2 := cell_keep b1 g2'; have kw1 : Below wr.heap.size wr W1 := kb.trans (b1.mono kb.size)) | (go_at_call 20; refine (isStyle_to f bk xx _ HS.out _).mono ?_; rintro e W2 ⟨rfl, b2⟩; have e0 := cell_keep b2 d0; have e1 := cell_keep b2 d1; have e2 := cell_keep b2 d2; have e3 := cell_keep b2 d3; have E0 := cell_keep b2 G0; have E1 := cell_keep b2 G1; have E2 := cell_keep b2 G2; have kw2 : Below wr.heap.size wr W2 := kw1.trans (b2.mono kw1.size)))
            go_ret
            exact ⟨Txt.ret_int HV.out, hb.trans (kw2.mono hb.size)⟩
          | true =>
            by_cases h2 : wd r = 2
            · by_cases hl : k % n + 1 = n
              · have HZ : cellR n cs k = 5 := by unfold cellR; rw [HCC.out]; dsimp only; rw [if_neg (by simp [hw, hs])]; rw [if_neg (by simp [hr]), if_pos ⟨h2, Or.inl hl⟩]
                have HV : Hid ((5 : Int) = firstErr (cellR n cs) 0 L) := by unfold Hid; rw [← HF1.out, HST.out, HZ, if_neg (by decide)]
                have nr : (r != 0) = true := by simpa using hr
                have nr' : (r == 0) = false := by simpa using hr
                have HW : Hid (wd r = 2) := h2
                clear h2 hw
                have nl : ((k : Int) % (n : Int) == (n : Int) - 1) = true := by rw [← Int.natCast_emod]; simp only [beq_iff_eq]; omega
                have HS : Hid (isSt (f, bk, xx) = true) := hs
                clear hs HZ
                go_wp2_with (first | (go_at_call 19; refine (widthOf_to r _ 2 HW.out).mono ?_; rintro e W1 ⟨rfl, b1⟩; have d0 := cell_keep b1 c0; have d1 := cell_keep b1 c1; have d2 := cell_keep b1 c2; have d3 := cell_keep b1 c3; have G0 := cell_keep b1 g0'; have G1 := cell_keep b1 g1'; have G2 := cell_keep b1 g2'; have kw1 : Below wr.heap.size wr W1 := kb.trans (b1.mono kb.size)) | (go_at_call 20; refine (isStyle_to f bk xx _ HS.out _).mono ?_; rintro e W2 ⟨rfl, b2⟩; have e0 := cell_keep b2 d0; have e1 := cell_keep b2 d1; have e2 := cell_keep b2 d2; have e3 := cell_keep b2 d3; have E0 := cell_keep b2 G0; have E1 := cell_keep b2 G1; have E2 := cell_keep b2 G2; have kw2 : Below wr.heap.size wr W2 := kw1.trans (b2.mono kw1.size)))
                have y0 : ∀ d os, (Sort.grow (redrawn W2 d) os).cell? ⟨wr.heap.size, 0, none⟩ = some (.int .i32 r) := fun d os => cell_regrown e0 d os
                have y1 : ∀ d os, (Sort.grow (redrawn W2 d) os).cell? ⟨wr.heap.size, 1, none⟩ = some (.int .i64 f) := fun d os => cell_regrown e1 d os
                have y2 : ∀ d os, (Sort.grow (redrawn W2 d) os).cell? ⟨wr.heap.size, 2, none⟩ = some (.int .i64 bk) := fun d os => cell_regrown e2 d os
                have y3 : ∀ d os, (Sort.grow (redrawn W2 d) os).cell? ⟨wr.heap.size, 3, none⟩ = some (.int .i64 xx) := fun d os => cell_regrown e3 d os
                have z0 : ∀ d os, (Sort.grow (redrawn W2 d) os).cell? ⟨w.heap.size, 0, none⟩ = some (.int .i64 (n : Int)) := fun d os => cell_regrown E0 d os
                have z2 : ∀ d os, (Sort.grow (redrawn W2 d) os).cell? ⟨w.heap.size, 2, none⟩ = some (.slice (some ⟨b, o, none⟩) L c) := fun d os => cell_regrown E2 d os
                refine wp_region_quiet_below (by kernel_rfl) (by kernel_rfl) ?_
                repeat (first | go_big_quiet_skip | quiet_step (fail))
                refine wpQuiet_nil ?_
                intro _ hw'
                obtain ⟨⟨dq, os⟩, hw''⟩ := hw'
                subst hw''
                have b3 := below_regrown W2 dq os
                have kw3 : Below wr.heap.size wr (Sort.grow (redrawn W2 dq) os) := kw2.trans (b3.mono kw2.size)
                have F0 := cell_keep b3 E0
                have F2 := cell_keep b3 E2
                have N0 := fun (a : Addr) (v : Value) (h : wr.cell? a = some v) => cell_keep kw3 h
                clear y0 y1 y2 y3 z0 z2
                generalize Sort.grow (redrawn W2 dq) os = W3 at *
                go_wp2_with fail
                go_ret
                exact ⟨Txt.ret_int HV.out, hb.trans (kw3.mono hb.size)⟩
              · have hk1 : k + 1 < L := by
                  have hmod := HMOD.out k hlt hl
                  exact hmod
                obtain ⟨s0, _⟩ := HCW.out (k + 1) (by rw [HLn.out]; exact hk1)
                generalize hrn : (cs.getD (k + 1) z0).1 = rn at s0
                have nl : ((k : Int) % (n : Int) == (n : Int) - 1) = false := by rw [← Int.natCast_emod]; simp only [beq_eq_false_iff_ne, ne_eq]; omega
                have hkL : ((k : Int) + 1) < (L : Int) := by omega

                by_cases hn : rn = 0
                · have HZ : cellR n cs k = 0 := by unfold cellR; rw [HCC.out]; dsimp only; rw [if_neg (by simp [hw, hs])]; rw [if_neg (by simp [hr]), if_neg (by rw [hrn]; simp [hl, hn])]
                  have HV : Hid (firstErr (cellR n cs) (k + 1) (L - (k + 1)) = firstErr (cellR n cs) 0 L) := by unfold Hid; rw [← HF1.out, HST.out, if_pos HZ]
                  have nr : (r != 0) = true := by simpa using hr
                  have nr' : (r == 0) = false := by simpa using hr
                  have HW : Hid (wd r = 2) := h2
                  clear h2 hw hrn
                  subst hn
                  have HS : Hid (isSt (f, bk, xx) = true) := hs
                  clear hs HZ
                  go_wp2_with (first | (go_at_call 19; refine (widthOf_to r _ 2 HW.out).mono ?_; rintro e W1 ⟨rfl, b1⟩; have d0 := cell_keep b1 c0; have d1 := cell_keep b1 c1; have d2 := cell_keep b1 c2; have d3 := cell_keep b1 c3; have G0 := cell_keep b1 g0'; have G1 := cell_keep b1 g1'; have G2 := cell_keep b1 g2'; have kw1 : Below wr.heap.size wr W1 := kb.trans (b1.mono kb.size)) | (go_at_call 20; refine (isStyle_to f bk xx _ HS.out _).mono ?_; rintro e W2 ⟨rfl, b2⟩; have e0 := cell_keep b2 d0; have e1 := cell_keep b2 d1; have e2 := cell_keep b2 d2; have e3 := cell_keep b2 d3; have E0 := cell_keep b2 G0; have E1 := cell_keep b2 G1; have E2 := cell_keep b2 G2; have kw2 : Below wr.heap.size wr W2 := kw1.trans (b2.mono kw1.size)))
                  have y0 : ∀ d os, (Sort.grow (redrawn W2 d) os).cell? ⟨wr.heap.size, 0, none⟩ = some (.int .i32 r) := fun d os => cell_regrown e0 d os
                  have y1 : ∀ d os, (Sort.grow (redrawn W2 d) os).cell? ⟨wr.heap.size, 1, none⟩ = some (.int .i64 f) := fun d os => cell_regrown e1 d os
                  have y2 : ∀ d os, (Sort.grow (redrawn W2 d) os).cell? ⟨wr.heap.size, 2, none⟩ = some (.int .i64 bk) := fun d os => cell_regrown e2 d os
                  have y3 : ∀ d os, (Sort.grow (redrawn W2 d) os).cell? ⟨wr.heap.size, 3, none⟩ = some (.int .i64 xx) := fun d os => cell_regrown e3 d os
                  have z0 : ∀ d os, (Sort.grow (redrawn W2 d) os).cell? ⟨w.heap.size, 0, none⟩ = some (.int .i64 (n : Int)) := fun d os => cell_regrown E0 d os
                  have z2 : ∀ d os, (Sort.grow (redrawn W2 d) os).cell? ⟨w.heap.size, 2, none⟩ = some (.slice (some ⟨b, o, none⟩) L c) := fun d os => cell_regrown E2 d os
                  refine wp_region_quiet_below (by kernel_rfl) (by kernel_rfl) ?_
                  repeat (first | go_big_quiet_skip | quiet_step (fail))
                  refine wpQuiet_nil ?_
                  intro _ hw'
                  obtain ⟨⟨dq, os⟩, hw''⟩ := hw'
                  subst hw''
                  have b3 := below_regrown W2 dq os
                  have kw3 : Below wr.heap.size wr (Sort.grow (redrawn W2 dq) os) := kw2.trans (b3.mono kw2.size)
                  have F0 := cell_keep b3 E0
                  have F2 := cell_keep b3 E2
                  have N0 := fun (a : Addr) (v : Value) (h : wr.cell? a = some v) => cell_keep kw3 h
                  clear y0 y1 y2 y3 z0 z2
                  generalize Sort.grow (redrawn W2 dq) os = W3 at *
                  have s1 := N0 _ _ s0
                  clear N0
                  go_wp2_with fail
                  go_roundg (L - (k + 1))
                  case measure => omega
                  case rel => exact ⟨k + 1, rfl, by omega, by omega, hb.trans (kw3.mono hb.size), carry hv kw3, HV.out⟩
                · have HZ : cellR n cs k = 5 := by unfold cellR; rw [HCC.out]; dsimp only; rw [if_neg (by simp [hw, hs])]; rw [if_neg (by simp [hr]), if_pos ⟨h2, Or.inr (by rw [hrn]; exact hn)⟩]
                  have HV : Hid ((5 : Int) = firstErr (cellR n cs) 0 L) := by unfold Hid; rw [← HF1.out, HST.out, HZ, if_neg (by decide)]
                  have nr : (r != 0) = true := by simpa using hr
                  have nr' : (r == 0) = false := by simpa using hr
                  have HW : Hid (wd r = 2) := h2
                  clear h2 hw hrn
                  have nn : (rn != 0) = true := by simpa using hn
                  have HS : Hid (isSt (f, bk, xx) = true) := hs
                  clear hs HZ
                  go_wp2_with (first | (go_at_call 19; refine (widthOf_to r _ 2 HW.out).mono ?_; rintro e W1 ⟨rfl, b1⟩; have d0 := cell_keep b1 c0; have d1 := cell_keep b1 c1; have d2 := cell_keep b1 c2; have d3 := cell_keep b1 c3; have G0 := cell_keep b1 g0'; have G1 := cell_keep b1 g1'; have G2 := cell_keep b1 g2'; have kw1 : Below wr.heap.size wr W1 := kb.trans (b1.mono kb.size)) | (go_at_call 20; refine (isStyle_to f bk xx _ HS.out _).mono ?_; rintro e W2 ⟨rfl, b2⟩; have e0 := cell_keep b2 d0; have e1 := cell_keep b2 d1; have e2 := cell_keep b2 d2; have e3 := cell_keep b2 d3; have E0 := cell_keep b2 G0; have E1 := cell_keep b2 G1; have E2 := cell_keep b2 G2; have kw2 : Below wr.heap.size wr W2 := kw1.trans (b2.mono kw1.size)))
                  have y0 : ∀ d os, (Sort.grow (redrawn W2 d) os).cell? ⟨wr.heap.size, 0, none⟩ = some (.int .i32 r) := fun d os => cell_regrown e0 d os
                  have y1 : ∀ d os, (Sort.grow (redrawn W2 d) os).cell? ⟨wr.heap.size, 1, none⟩ = some (.int .i64 f) := fun d os => cell_regrown e1 d os
                  have y2 : ∀ d os, (Sort.grow (redrawn W2 d) os).cell? ⟨wr.heap.size, 2, none⟩ = some (.int .i64 bk) := fun d os => cell_regrown e2 d os
                  have y3 : ∀ d os, (Sort.grow (redrawn W2 d) os).cell? ⟨wr.heap.size, 3, none⟩ = some (.int .i64 xx) := fun d os => cell_regrown e3 d os
                  have z0 : ∀ d os, (Sort.grow (redrawn W2 d) os).cell? ⟨w.heap.size, 0, none⟩ = some (.int .i64 (n : Int)) := fun d os => cell_regrown E0 d os
                  have z2 : ∀ d os, (Sort.grow (redrawn W2 d) os).cell? ⟨w.heap.size, 2, none⟩ = some (.slice (some ⟨b, o, none⟩) L c) := fun d os => cell_regrown E2 d os
                  refine wp_region_quiet_below (by kernel_rfl) (by kernel_rfl) ?_
                  repeat (first | go_big_quiet_skip | quiet_step (fail))
                  refine wpQuiet_nil ?_
                  intro _ hw'
                  obtain ⟨⟨dq, os⟩, hw''⟩ := hw'
                  subst hw''
                  have b3 := below_regrown W2 dq os
                  have kw3 : Below wr.heap.size wr (Sort.grow (redrawn W2 dq) os) := kw2.trans (b3.mono kw2.size)
                  have F0 := cell_keep b3 E0
                  have F2 := cell_keep b3 E2
                  have N0 := fun (a : Addr) (v : Value) (h : wr.cell? a = some v) => cell_keep kw3 h
                  clear y0 y1 y2 y3 z0 z2
                  generalize Sort.grow (redrawn W2 dq) os = W3 at *
                  have s1 := N0 _ _ s0
                  clear N0
                  go_wp2_with fail
                  go_ret
                  exact ⟨Txt.ret_int HV.out, hb.trans (kw3.mono hb.size)⟩
            · have HZ : cellR n cs k = 0 := by unfold cellR; rw [HCC.out]; dsimp only; rw [if_neg (by simp [hw, hs])]; rw [if_neg (by simp [hr]), if_neg (by simp [h2])]
              have HV : Hid (firstErr (cellR n cs) (k + 1) (L - (k + 1)) = firstErr (cellR n cs) 0 L) := by unfold Hid; rw [← HF1.out, HST.out, if_pos HZ]
              have nr : (r != 0) = true := by simpa using hr
              have nr' : (r == 0) = false := by simpa using hr
              have nw : (wd r == 0) = false := by simpa using hw
              have n2 : (wd r == 2) = false := by simpa using h2
              have HW : Hid (wd r = wd r) := rfl
              have HS : Hid (isSt (f, bk, xx) = true) := hs
              clear hs HZ
              go_wp2_with (first | (go_at_call 19; refine (widthOf_to r _ _ HW.out).mono ?_; rintro e W1 ⟨rfl, b1⟩; have d0 := cell_keep b1 c0; have d1 := cell_keep b1 c1; have d2 := cell_keep b1 c2; have d3 := cell_keep b1 c3; have G0 := cell_keep b1 g0'; have G1 := cell_keep b1 g1'; have G2 := cell_keep b1 g2'; have kw1 : Below wr.heap.size wr W1 := kb.trans (b1.mono kb.size)) | (go_at_call 20; refine (isStyle_to f bk xx _ HS.out _).mono ?_; rintro e W2 ⟨rfl, b2⟩; have e0 := cell_keep b2 d0; have e1 := cell_keep b2 d1; have e2 := cell_keep b2 d2; have e3 := cell_keep b2 d3; have E0 := cell_keep b2 G0; have E1 := cell_keep b2 G1; have E2 := cell_keep b2 G2; have kw2 : Below wr.heap.size wr W2 := kw1.trans (b2.mono kw1.size)))
              have y0 : ∀ d os, (Sort.grow (redrawn W2 d) os).cell? ⟨wr.heap.size, 0, none⟩ = some (.int .i32 r) := fun d os => cell_regrown e0 d os
              have y1 : ∀ d os, (Sort.grow (redrawn W2 d) os).cell? ⟨wr.heap.size, 1, none⟩ = some (.int .i64 f) := fun d os => cell_regrown e1 d os
              have y2 : ∀ d os, (Sort.grow (redrawn W2 d) os).cell? ⟨wr.heap.size, 2, none⟩ = some (.int .i64 bk) := fun d os => cell_regrown e2 d os
              have y3 : ∀ d os, (Sort.grow (redrawn W2 d) os).cell? ⟨wr.heap.size, 3, none⟩ = some (.int .i64 xx) := fun d os => cell_regrown e3 d os
              have z0 : ∀ d os, (Sort.grow (redrawn W2 d) os).cell? ⟨w.heap.size, 0, none⟩ = some (.int .i64 (n : Int)) := fun d os => cell_regrown E0 d os
              have z2 : ∀ d os, (Sort.grow (redrawn W2 d) os).cell? ⟨w.heap.size, 2, none⟩ = some (.slice (some ⟨b, o, none⟩) L c) := fun d os => cell_regrown E2 d os
              refine wp_region_quiet_below (by kernel_rfl) (by kernel_rfl) ?_
              repeat (first | go_big_quiet_skip | quiet_step (fail))
              refine wpQuiet_nil ?_
              intro _ hw'
              obtain ⟨⟨dq, os⟩, hw''⟩ := hw'
              subst hw''
              have b3 := below_regrown W2 dq os
              have kw3 : Below wr.heap.size wr (Sort.grow (redrawn W2 dq) os) := kw2.trans (b3.mono kw2.size)
              have F0 := cell_keep b3 E0
              have F2 := cell_keep b3 E2
              have N0 := fun (a : Addr) (v : Value) (h : wr.cell? a = some v) => cell_keep kw3 h
              clear y0 y1 y2 y3 z0 z2
              generalize Sort.grow (redrawn W2 dq) os = W3 at *
              go_wp2_with fail
              go_roundg (L - (k + 1))
              case measure => omega
              case rel => exact ⟨k + 1, rfl, by omega, by omega, hb.trans (kw3.mono hb.size), carry hv kw3, HV.out⟩
    · have lt1 : ¬ ((k : Int) < (L : Int)) := by omega
      have HV : Hid (0 = firstErr (cellR n cs) 0 L) := by unfold Hid; rw [← HF1.out, first_end _ _ _ hlt]
      go_wp2_with fail
      go_ret
      exact ⟨Txt.ret_int HV.out, hb⟩
theorem ref_any (a h : Int) (v : Value) (cs : List C) (w : World) (hS : SliceAt w v cs) :
    Calls Tryd.prog 12 #[.agg #[.int .i64 a, .int .i64 h, v]] w fun e w' => e = .returned (.int .i64 (gridErr a h cs)) ∧ Below w.heap.size w w' := by
  unfold gridErr
  cases hs : isSize a h with
  | false => rw [if_pos (Or.inl rfl)]; exact ref_size1 a h v w hs
  | true =>
    obtain ⟨p0, p1, p2, p3, p4, p5⟩ := prod_in a h hs
    by_cases hL : (cs.length : Int) = a * h
    · rw [if_neg (by simp [hL])]
      rcases hS with ⟨rfl, _⟩ | ⟨_, b, o, c, rfl, hc, hm, hC⟩
      · exfalso
        have : 1 * 1 ≤ a * h := Int.mul_le_mul p2 p4 (by omega) (by omega)
        simp at hL
        omega
      · obtain ⟨n, rfl⟩ := Int.eq_ofNat_of_zero_le (show 0 ≤ a by omega)
        obtain ⟨m, rfl⟩ := Int.eq_ofNat_of_zero_le (show 0 ≤ h by omega)
        rw [Int.toNat_natCast, Int.toNat_natCast, errs_same n m cs (by exact_mod_cast hL)]
        exact ref_rows n m b o c cs w hC hs (by exact_mod_cast hL)
    · rw [if_pos (Or.inr hL)]
      obtain ⟨ad, c, rfl⟩ := hS.shape
      exact ref_size2 a h ad cs.length c w hs hL
end Grd
end Go.Proofs.YtinhmklpnkikgaaDoor

/- The reference's CheckGrid, its answer named. -/
namespace Go.Proofs.YtinhmklpnkikgaaDoor
open Go.ChangeShapes Go.WideShapes Go.ChangeAt Go.RowKit
namespace Grd
theorem ref_to (a h : Int) (v : Value) (cs : List C) (q : Int) (hq : gridErr a h cs = q) (w : World) (hS : SliceAt w v cs) :
    Calls Tryd.prog 12 #[.agg #[.int .i64 a, .int .i64 h, v]] w fun e w' => e = .returned (.int .i64 q) ∧ Below w.heap.size w w' := by
  have := ref_any a h v cs w hS
  rwa [hq] at this
theorem pos_of_ok (n hh : Nat) (cs : List C) (hok : gridErr n hh cs = 0) : cs ≠ [] ∧ cs.length ≤ 7200 := by
  obtain ⟨hsize, hL, _⟩ := (gridErr_zero n hh cs).1 hok
  have ⟨_, p1, p2, _, p4, _⟩ := prod_in n hh hsize
  refine ⟨fun h => ?_, ?_⟩
  · rw [h, List.length_nil] at hL
    have : 0 < n * hh := Nat.mul_pos (by omega) (by omega)
    omega
  · have : ((n * hh : Nat) : Int) ≤ 7200 := by rw [Int.natCast_mul]; exact p1
    omega
theorem SliceAt.open {w : World} {v : Value} {cs : List C} (h : SliceAt w v cs) (hne : cs ≠ []) : ∃ b o c, v = .slice (some ⟨b, o, none⟩) cs.length c ∧ cs.length ≤ c ∧ c ≤ 9223372036854775807 ∧ CellsAt w b o cs := by
  rcases h with ⟨h, _⟩ | ⟨_, h⟩
  · exact absurd h hne
  · exact h
theorem size_of_ok (a h : Int) (cs : List C) (hok : gridErr a h cs = 0) : ∃ n hh : Nat, a = (n : Int) ∧ h = (hh : Int) := by
  unfold gridErr at hok
  by_cases hs : isSize a h = false ∨ (cs.length : Int) ≠ a * h
  · rw [if_pos hs] at hok; exact absurd hok (by decide)
  · have h1 : isSize a h = true := by simpa using (not_or.1 hs).1
    have ⟨_, _, p2, _, p4, _⟩ := prod_in a h h1
    exact ⟨a.toNat, h.toNat, by omega, by omega⟩
end Grd
end Go.Proofs.YtinhmklpnkikgaaDoor

/- The reference's MendRow. -/
namespace Go.Proofs.YtinhmklpnkikgaaDoor
open Go.ChangeShapes Go.WideShapes Go.ChangeAt Go.RowKit
namespace Grd
open Txt (wd)
/-- The cells below i are mended, the others not yet. -/
def mendPre (cs : List C) (i : Nat) : List C := (mendM cs).take i ++ cs.drop i
theorem mendPre_len (cs : List C) (i : Nat) (h : i ≤ cs.length) : (mendPre cs i).length = cs.length := by
  unfold mendPre; rw [List.length_append, List.length_take, List.length_drop, mendM_len]; omega
theorem mendPre_at (cs : List C) (i j : Nat) (hi : i ≤ cs.length) (h : i ≤ j) : (mendPre cs i).getD j z0 = cs.getD j z0 := by
  unfold mendPre
  simp only [List.getD]
  rw [List.getElem?_append_right (by rw [List.length_take, mendM_len]; omega), List.length_take, mendM_len, Nat.min_eq_left hi, List.getElem?_drop, show i + (j - i) = j by omega]
theorem mendPre_same (cs : List C) (i : Nat) (h : i < cs.length) (hl : loose cs i = false) : mendPre cs (i + 1) = mendPre cs i := by
  unfold mendPre
  have e1 : (mendM cs).take (i + 1) = (mendM cs).take i ++ [cs.getD i z0] := by
    rw [List.take_add_one]
    congr 1
    have := mendM_at cs i h
    rw [hl] at this
    simp only [List.getD] at this
    have hlt : i < (mendM cs).length := by rw [mendM_len]; exact h
    rw [List.getElem?_eq_getElem hlt] at this ⊢
    simp only [Option.getD_some] at this
    rw [this]
    rfl
  have e2 : cs.drop i = cs.getD i z0 :: cs.drop (i + 1) := by
    have : cs.getD i z0 = cs[i] := by simp [List.getD, h]
    rw [this, List.getElem_cons_drop]
  rw [e1, e2, List.append_assoc]
  rfl
theorem mendPre_set (cs : List C) (i : Nat) (h : i < cs.length) (hl : loose cs i = true) : mendPre cs (i + 1) = setR (mendPre cs i) i := by
  have hle := mendPre_len cs i (by omega)
  have hle2 := mendPre_len cs (i + 1) (by omega)
  refine ext_getD _ _ (by unfold setR; rw [List.length_set, hle, hle2]) fun j hj => ?_
  rw [hle2] at hj
  unfold setR
  rw [getD_set _ _ _ _ (by rw [hle]; exact h), mendPre_at cs i i (by omega) (Nat.le_refl _)]
  by_cases hji : j = i
  · subst hji
    rw [if_pos rfl]
    unfold mendPre
    have hlt : j < (mendM cs).length := by rw [mendM_len]; exact h
    have := mendM_at cs j h
    rw [if_pos hl] at this
    rw [← this]
    simp only [List.getD]
    rw [List.getElem?_append_left (by rw [List.length_take]; omega), List.getElem?_take]
    simp
  · rw [if_neg hji]
    by_cases hlt : i < j
    · rw [mendPre_at cs (i + 1) j (by omega) (by omega), mendPre_at cs i j (by omega) (by omega)]
    · unfold mendPre
      simp only [List.getD]
      rw [List.getElem?_append_left (by rw [List.length_take, mendM_len]; omega), List.getElem?_append_left (by rw [List.length_take, mendM_len]; omega), List.getElem?_take, List.getElem?_take, if_pos (by omega), if_pos (by omega)]
theorem mendPre_zero (cs : List C) : mendPre cs 0 = cs := by simp [mendPre]
theorem mendPre_all (cs : List C) (i : Nat) (h : cs.length ≤ i) : mendPre cs i = mendL cs := by
  unfold mendPre
  rw [mendL_eq, List.take_of_length_le (by rw [mendM_len]; exact h), List.drop_of_length_le h, List.append_nil]
/-- The cell at i is the second half of the rune before it. -/
def second (cs : List C) (i : Nat) : Bool := decide (0 < i ∧ i < cs.length ∧ (cs.getD i z0).1 = 0 ∧ wd (cs.getD (i - 1) z0).1 = 2)
theorem loose_wide (cs : List C) (i : Nat) (hw : wd (cs.getD i z0).1 = 2) : loose cs i = (decide (i + 1 = cs.length) || decide ((cs.getD (i + 1) z0).1 ≠ 0)) := by
  have hn : ¬ (cs.getD i z0).1 = 0 := by intro h; rw [h, wd0] at hw; exact absurd hw (by decide)
  unfold loose
  rw [if_neg hn, hw]
  simp
theorem loose_none (cs : List C) (i : Nat) (hi : i < cs.length) (hr : (cs.getD i z0).1 = 0) (hs : second cs i = false) : loose cs i = true := by
  unfold loose
  unfold second at hs
  rw [if_pos hr]
  rw [decide_eq_false_iff_not] at hs
  by_cases h0 : i = 0
  · simp [h0]
  · have : wd (cs.getD (i - 1) z0).1 ≠ 2 := fun h => hs ⟨by omega, hi, hr, h⟩
    simp [this, -List.getD_eq_getElem?_getD]
theorem loose_narrow (cs : List C) (i : Nat) (hr : ¬ (cs.getD i z0).1 = 0) (hw : ¬ wd (cs.getD i z0).1 = 2) : loose cs i = false := by
  unfold loose
  rw [if_neg hr]
  simp [hw, -List.getD_eq_getElem?_getD]
end Grd
end Go.Proofs.YtinhmklpnkikgaaDoor

/- The walk of the reference's MendRow. -/
namespace Go.Proofs.YtinhmklpnkikgaaDoor
open Go.ChangeShapes Go.WideShapes Go.ChangeAt Go.RowKit
namespace Grd
open Txt (wd)
/-- A slice that reads as a row, alone in the block g. -/
def RowB (w : World) (g : Nat) (v : Value) (row : List C) : Prop := ∃ (cap : Nat) (rest : List Value), v = .slice (some ⟨g, 0, none⟩) row.length cap ∧ row.length ≤ cap ∧ cap ≤ 9223372036854775807 ∧ w.heap[g]? = some (.cells (flat row ++ rest).toArray 40 (0, 0))
theorem RowB.below {w w' : World} {g : Nat} {v : Value} {row : List C} (h : RowB w g v row) (hb : Below w.heap.size w w') : RowB w' g v row := by
  obtain ⟨cap, rest, hv, h1, h2, h3⟩ := h
  exact ⟨cap, rest, hv, h1, h2, carry h3 hb⟩
theorem RowB.cells {w : World} {g : Nat} {v : Value} {row : List C} (h : RowB w g v row) : CellsAt w g 0 row := by
  obtain ⟨cap, rest, _, _, _, h3⟩ := h
  exact cellsAt_flat h3
theorem RowB.own {w : World} {g base : Nat} {v : Value} {row : List C} (h : RowB w g v row) (hb : base ≤ g) : OwnG w base v row := by
  obtain ⟨cap, rest, hv, h1, h2, h3⟩ := h
  exact ⟨g, cap, rest, ⟨_, rfl⟩, hv, hb, h1, h2, h3⟩
theorem rowB_of_row {w : World} {base : Nat} {v : Value} {cs : List C} (h : w.ownsRow base 40 4 v cs.length (flat cs)) (hn : v ≠ .slice none 0 0) : ∃ g, base ≤ g ∧ RowB w g v cs := by
  obtain ⟨_, h | ⟨g, cap, cur, hv, hg, hh, hc, hm, hs, htk⟩⟩ := h
  · exact absurd h.1 hn
  · refine ⟨g, hg, cap, cur.toList.drop (cs.length * 4), hv, hc, by unfold maxLen at hm; omega, ?_⟩
    rw [hh, ← htk, List.take_append_drop]
set_option maxHeartbeats 1000000 in
theorem clone_row (b o c : Nat) (cs : List C) (w : World) (hC : CellsAt w b o cs) (hbig : cs.length * 32 ≤ 140737488355328) :
    Calls Tryd.prog 39 #[.slice (some ⟨b, o, none⟩) cs.length c] w fun e w' => ∃ v' g, e = .returned v' ∧ w.heap.size ≤ g ∧ RowB w' g v' cs ∧ Below w.heap.size w w' := by
  obtain ⟨i0, hi, hzz⟩ := Option.map_eq_some_iff.1 info_cell
  simp only [Prod.mk.injEq] at hzz
  obtain ⟨hz0, hz1, hz2⟩ := hzz
  have kb : Below w.heap.size w (w.alloc (.cells #[] 40)) := (Below.refl _ _).alloc (Nat.le_refl _) _
  have HS : Hid (∀ j u, (flat cs)[j]? = some u → (w.alloc (.cells #[] 40)).cell? ((⟨b, o, none⟩ : Addr).add j) = some u) := cellsAt_src (hC.below kb)
  have HF : Hid ((flat cs).length = cs.length * 4) := flat_len cs
  have HO : Hid (∀ u ∈ flat cs, u.oneCell' = true) := flat_one cs
  have qn : ∀ (w : World) (a : Option Addr) (n c n' c' : Nat), (binOp .eql 22 (.slice a n c) (.slice none n' c')).run Tryd.prog w = .ok (.bool a.isNone) w := fun w a n c n' c' => Lib.run_eql_slice_nil w _ _ a n c n' c' und_cells
  clear hC
  go_enter Tryd.func39, Tryd.ntmps39
  go_wp2_with (at_builtin; refine wpList_append_own _ rfl _ _ 22 rfl w.heap.size 40 i0 (.agg #[.int .i32 0, .int .i64 0, .int .i64 0, .int .i64 0]) 4 32 und_cells hi hz0 hz1 hz2 rfl (by decide) _ _ _ rfl (World.ownsRow_made w #[] 0 (Nat.le_refl _) (Nat.zero_le _) rfl) ⟨b, o, none⟩ cs.length c (flat cs) rfl HF.out HS.out HO.out ?qc4 ?qc5 ?qc6 ?_)
  case qc4 => unfold maxLen; omega
  case qc5 => omega
  case qc6 => simp
  intro v' w1 hown hgrow hnil
  obtain ⟨g, hg, hrow⟩ := rowB_of_row (by simpa using hown) hnil
  go_wp2_with fail
  go_ret
  exact ⟨v', g, rfl, hg, hrow, ((Below.refl _ w).alloc (Nat.le_refl _) _).grown hgrow (by simp) (by intro k hk; simp [Value.ownBlock] at hk; omega)⟩
set_option maxHeartbeats 4000000 in
theorem mendRow_any (b o c : Nat) (cs : List C) (w : World) (hC : CellsAt w b o cs) (hn : cs.length ≤ 1000000) :
    Calls Tryd.prog 29 #[.slice (some ⟨b, o, none⟩) cs.length c] w fun e w' => ∃ v' g, e = .returned v' ∧ w.heap.size ≤ g ∧ RowB w' g v' (mendL cs) ∧ Below w.heap.size w w' := by
  have HC := clone_row b o c cs w hC (by omega)
  clear hC
  generalize hl : cs.length = L at *
  have HL : Hid (cs.length = L) := hl
  clear hl
  go_enter Tryd.func29, Tryd.ntmps29
  go_wp2_with (go_at_call 39; refine HC.mono ?_; rintro e W1 ⟨_, g, rfl, hg, ⟨cap, rest, rfl, hlc, hcm, hgh⟩, b1⟩)
  rw [HL.out] at hlc
  have hgW : g < W1.heap.size := blk_lt hgh
  have ap0 : Apart w.heap.size [g] w W1 := .of b1 (Nat.le_refl _)
  have hl0 : cs.length = L := HL.out
  simp only [hl0]
  clear hl0 HC
  go_loopg [4] L (fun q i wr => ∃ k : Nat, i = .int .i64 (k : Int) ∧ k ≤ L ∧ L - k ≤ q ∧ second cs k = false ∧ Apart w.heap.size [g] w wr ∧ wr.heap[g]? = some (.cells (flat (mendPre cs k) ++ rest).toArray 40 (0, 0)))
  case atStart => exact ⟨0, rfl, by omega, by omega, by simp [second], ap0, by rw [mendPre_zero]; exact hgh⟩
  case round =>
    clear hgh ap0 b1
    obtain ⟨k, rfl, hk, hq, hsec, hap, hv⟩ := hrel
    by_cases hlt : k < L
    · have lt1 : ((k : Int) < (L : Int)) := by omega
      have hpl : (mendPre cs k).length = L := by rw [mendPre_len cs k (by rw [HL.out]; omega), HL.out]
      have hC : CellsAt wr g 0 (mendPre cs k) := cellsAt_flat hv
      have c0 := (hC k (by rw [hpl]; exact hlt)).1
      rw [mendPre_at cs k k (by rw [HL.out]; omega) (Nat.le_refl _), Nat.zero_add] at c0
      have c1 : k + 1 < L → wr.cell? ⟨g, (k + 1) * 4, none⟩ = some (.int .i32 (cs.getD (k + 1) z0).1) := fun h => by
        have := (hC (k + 1) (by rw [hpl]; exact h)).1
        rwa [mendPre_at cs k (k + 1) (by rw [HL.out]; omega) (by omega), Nat.zero_add] at this
      have hNW : w.heap.size ≤ wr.heap.size := hap.1.size
      clear hC
      by_cases hw2 : wd (cs.getD k z0).1 = 2
      · by_cases hk1 : k + 1 < L
        · have c1 := c1 hk1
          by_cases hz : (cs.getD (k + 1) z0).1 = 0
          · have HE : Hid (mendPre cs (k + 2) = mendPre cs k) := by
              have l0 : loose cs k = false := by
                rw [loose_wide cs k hw2, hz, HL.out]
                simp
                omega
              have l1 : loose cs (k + 1) = false := by
                unfold loose
                rw [if_pos hz, Nat.add_sub_cancel]
                simp [hw2, -List.getD_eq_getElem?_getD]
              unfold Hid
              rw [mendPre_same cs (k + 1) (by rw [HL.out]; exact hk1) l1, mendPre_same cs k (by rw [HL.out]; exact hlt) l0]
            have HS2 : Hid (second cs (k + 2) = false) := by
              unfold Hid second
              rw [decide_eq_false_iff_not]
              rintro ⟨_, _, _, h2⟩
              rw [show k + 2 - 1 = k + 1 by omega, hz, wd0] at h2
              exact absurd h2 (by decide)
            have HW : Hid (wd (cs.getD k z0).1 = 2) := hw2
            have lt2 : ((k : Int) + 1 < (L : Int)) := by omega
            rw [hz] at c1
            clear hsec hw2 hz hpl
            generalize (cs.getD k z0).1 = r0 at *
            go_wp2_with (go_at_call 19; refine (widthOf_to r0 _ _ HW.out).mono ?_; rintro e W2 ⟨rfl, b2⟩; have d0 := cell_keep b2 c0; have d1 := cell_keep b2 c1; have hv2 := carry hv b2; have hfz : W2.frozen? ⟨g, k * 4, none⟩ = false := frozen_of hv2 _)
            go_roundg (L - (k + 2))
            case measure => omega
            case rel => exact ⟨k + 2, by first | rfl | (simp; omega), by omega, by omega, HS2.out, hap.step b2 hNW, by rw [HE.out]; exact hv2⟩
          · have hlo : loose cs k = true := by
              rw [loose_wide cs k hw2]
              simp [hz, -List.getD_eq_getElem?_getD]
            have HE : Hid (flat (mendPre cs (k + 1)) ++ rest = (flat (mendPre cs k) ++ rest).set (k * 4) (.int .i32 32)) := by
              unfold Hid
              rw [mendPre_set cs k (by rw [HL.out]; exact hlt) hlo, List.set_append_left _ _ (by rw [flat_len, hpl]; omega), flat_set _ k (by rw [hpl]; exact hlt)]
            have HS1 : Hid (second cs (k + 1) = false) := by
              unfold Hid second
              rw [decide_eq_false_iff_not]
              rintro ⟨_, _, h1, h2⟩
              rw [Nat.add_sub_cancel] at h2
              exact hz h1
            have HW : Hid (wd (cs.getD k z0).1 = 2) := hw2
            have lt2 : ((k : Int) + 1 < (L : Int)) := by omega
            have ne : ((cs.getD (k + 1) z0).1 == 0) = false := by simpa [-List.getD_eq_getElem?_getD] using hz
            clear hsec hw2 hz hpl hlo
            generalize (cs.getD k z0).1 = r0 at *
            generalize (cs.getD (k + 1) z0).1 = r1 at *
            go_wp2_with (go_at_call 19; refine (widthOf_to r0 _ _ HW.out).mono ?_; rintro e W2 ⟨rfl, b2⟩; have d0 := cell_keep b2 c0; have d1 := cell_keep b2 c1; have hv2 := carry hv b2; have hfz : W2.frozen? ⟨g, k * 4, none⟩ = false := frozen_of hv2 _)
            go_roundg (L - (k + 1))
            case measure => omega
            case rel =>
              refine ⟨k + 1, rfl, by omega, by omega, HS1.out, (hap.step b2 hNW).setCell g _ _ (by simp) hg, ?_⟩
              rw [HE.out]
              have := heap_setCell_same W2 g (k * 4) _ _ (.int .i32 32) hv2
              simpa using this
        · have hlo : loose cs k = true := by
            rw [loose_wide cs k hw2, HL.out]
            simp
            omega
          have HE : Hid (flat (mendPre cs (k + 1)) ++ rest = (flat (mendPre cs k) ++ rest).set (k * 4) (.int .i32 32)) := by
            unfold Hid
            rw [mendPre_set cs k (by rw [HL.out]; exact hlt) hlo, List.set_append_left _ _ (by rw [flat_len, hpl]; omega), flat_set _ k (by rw [hpl]; exact hlt)]
          have HS1 : Hid (second cs (k + 1) = false) := by
            unfold Hid second
            rw [decide_eq_false_iff_not]
            rintro ⟨_, h0, _⟩
            rw [HL.out] at h0
            omega
          have HW : Hid (wd (cs.getD k z0).1 = 2) := hw2
          have lt2 : ¬ ((k : Int) + 1 < (L : Int)) := by omega
          have ld2 : decide ((k : Int) + 1 < (L : Int)) = false := decide_eq_false lt2
          clear hsec hw2 hpl hlo c1
          generalize (cs.getD k z0).1 = r0 at *
          go_wp2_with (go_at_call 19; refine (widthOf_to r0 _ _ HW.out).mono ?_; rintro e W2 ⟨rfl, b2⟩; have d0 := cell_keep b2 c0; have hv2 := carry hv b2; have hfz : W2.frozen? ⟨g, k * 4, none⟩ = false := frozen_of hv2 _)
          go_roundg (L - (k + 1))
          case measure => omega
          case rel =>
            refine ⟨k + 1, rfl, by omega, by omega, HS1.out, (hap.step b2 hNW).setCell g _ _ (by simp) hg, ?_⟩
            rw [HE.out]
            have := heap_setCell_same W2 g (k * 4) _ _ (.int .i32 32) hv2
            simpa using this
      · by_cases hz : (cs.getD k z0).1 = 0
        · have hlo : loose cs k = true := loose_none cs k (by rw [HL.out]; exact hlt) hz hsec
          have HE : Hid (flat (mendPre cs (k + 1)) ++ rest = (flat (mendPre cs k) ++ rest).set (k * 4) (.int .i32 32)) := by
            unfold Hid
            rw [mendPre_set cs k (by rw [HL.out]; exact hlt) hlo, List.set_append_left _ _ (by rw [flat_len, hpl]; omega), flat_set _ k (by rw [hpl]; exact hlt)]
          have HS1 : Hid (second cs (k + 1) = false) := by
            unfold Hid second
            rw [decide_eq_false_iff_not]
            rintro ⟨_, _, h1, h2⟩
            rw [Nat.add_sub_cancel] at h2
            exact hw2 h2
          have HW : Hid (wd (cs.getD k z0).1 = 0) := by unfold Hid; rw [hz, wd0]
          rw [hz] at c0 HW
          clear hsec hw2 hz hpl hlo c1
          obtain ⟨r0, hr0⟩ : ∃ q : Int, q = 0 := ⟨0, rfl⟩
          rw [← hr0] at c0 HW
          subst hr0
          go_wp2_with (go_at_call 19; refine (widthOf_to 0 _ _ HW.out).mono ?_; rintro e W2 ⟨rfl, b2⟩; have d0 := cell_keep b2 c0; have hv2 := carry hv b2; have hfz : W2.frozen? ⟨g, k * 4, none⟩ = false := frozen_of hv2 _)
          go_roundg (L - (k + 1))
          case measure => omega
          case rel =>
            refine ⟨k + 1, rfl, by omega, by omega, HS1.out, (hap.step b2 hNW).setCell g _ _ (by simp) hg, ?_⟩
            rw [HE.out]
            have := heap_setCell_same W2 g (k * 4) _ _ (.int .i32 32) hv2
            simpa using this
        · have hlo : loose cs k = false := loose_narrow cs k hz hw2
          have HE : Hid (mendPre cs (k + 1) = mendPre cs k) := mendPre_same cs k (by rw [HL.out]; exact hlt) hlo
          have HS1 : Hid (second cs (k + 1) = false) := by
            unfold Hid second
            rw [decide_eq_false_iff_not]
            rintro ⟨_, _, h1, h2⟩
            rw [Nat.add_sub_cancel] at h2
            exact hw2 h2
          obtain ⟨wv, hwv⟩ : ∃ q, wd (cs.getD k z0).1 = q := ⟨_, rfl⟩
          have HW : Hid (wd (cs.getD k z0).1 = wv) := hwv
          have n2 : (wv == 2) = false := by rw [← hwv]; simpa [-List.getD_eq_getElem?_getD] using hw2
          have nz : ((cs.getD k z0).1 == 0) = false := by simpa [-List.getD_eq_getElem?_getD] using hz
          clear hsec hw2 hz hpl hlo c1 hwv
          generalize (cs.getD k z0).1 = r0 at *
          go_wp2_with (go_at_call 19; refine (widthOf_to r0 _ _ HW.out).mono ?_; rintro e W2 ⟨rfl, b2⟩; have d0 := cell_keep b2 c0; have hv2 := carry hv b2; have hfz : W2.frozen? ⟨g, k * 4, none⟩ = false := frozen_of hv2 _)
          go_roundg (L - (k + 1))
          case measure => omega
          case rel => exact ⟨k + 1, rfl, by omega, by omega, HS1.out, hap.step b2 hNW, by rw [HE.out]; exact hv2⟩
    · have lt1 : ¬ ((k : Int) < (L : Int)) := by omega
      have hml : (mendL cs).length = L := by rw [mendL_len, HL.out]
      rw [mendPre_all cs k (by rw [HL.out]; omega)] at hv
      go_wp2_with fail
      go_ret
      exact ⟨_, rfl, g, hg, ⟨cap, rest, by rw [hml]; rfl, by rw [hml]; exact hlc, hcm, hv⟩, hap.1⟩
end Grd
end Go.Proofs.YtinhmklpnkikgaaDoor

/- The reference's Rows. -/
namespace Go.Proofs.YtinhmklpnkikgaaDoor
open Go.ChangeShapes Go.WideShapes Go.ChangeAt Go.RowKit Go.Maps
namespace Grd
theorem ownsRow_below {w w' : World} {base : Nat} {e : TypeId} {size : Nat} {v : Value} {n : Nat} {xs : List Value} (h : w.ownsRow base e size v n xs) (hb : Below w.heap.size w w') : w'.ownsRow base e size v n xs := by
  refine ⟨h.1, ?_⟩
  rcases h.2 with h2 | ⟨g, cap, cur, hv, hg, hh, r⟩
  · exact .inl h2
  · exact .inr ⟨g, cap, cur, hv, hg, by rw [hb.block g (Array.getElem?_eq_some_iff.1 hh).1]; exact hh, r⟩
theorem ownsRow_mono {w : World} {base base' : Nat} {e : TypeId} {size : Nat} {v : Value} {n : Nat} {xs : List Value} (h : w.ownsRow base e size v n xs) (hb : base' ≤ base) : w.ownsRow base' e size v n xs := by
  refine ⟨h.1, ?_⟩
  rcases h.2 with h2 | ⟨g, cap, cur, hv, hg, r⟩
  · exact .inl h2
  · exact .inr ⟨g, cap, cur, hv, Nat.le_trans hb hg, r⟩
def nilV : Value := .slice none 0 0
/-- Slices that read as rows, each alone in a block of its own. -/
def RowsAt (w : World) (base : Nat) (vs : List Value) (gs : List Nat) (rows : List (List C)) : Prop :=
  vs.length = rows.length ∧ gs.length = rows.length ∧ gs.Nodup ∧ ∀ i, i < rows.length → base ≤ gs.getD i 0 ∧ RowB w (gs.getD i 0) (vs.getD i nilV) (rows.getD i [])
theorem RowsAt.kept {w w' : World} {base : Nat} {vs : List Value} {gs : List Nat} {rows : List (List C)} (h : RowsAt w base vs gs rows) (hk : ∀ i, i < rows.length → w'.heap[gs.getD i 0]? = w.heap[gs.getD i 0]?) : RowsAt w' base vs gs rows := by
  refine ⟨h.1, h.2.1, h.2.2.1, fun i hi => ?_⟩
  obtain ⟨hb, cap, rest, hv, h1, h2, h3⟩ := h.2.2.2 i hi
  exact ⟨hb, cap, rest, hv, h1, h2, by rw [hk i hi]; exact h3⟩
theorem RowsAt.lt {w : World} {base : Nat} {vs : List Value} {gs : List Nat} {rows : List (List C)} (h : RowsAt w base vs gs rows) (i : Nat) (hi : i < rows.length) : gs.getD i 0 < w.heap.size := by
  obtain ⟨_, cap, rest, hv, h1, h2, h3⟩ := h.2.2.2 i hi
  exact blk_lt h3
theorem RowsAt.below {w w' : World} {base : Nat} {vs : List Value} {gs : List Nat} {rows : List (List C)} (h : RowsAt w base vs gs rows) (hb : Below w.heap.size w w') : RowsAt w' base vs gs rows :=
  h.kept fun i hi => hb.block _ (h.lt i hi)
theorem getD_snoc_lt {α : Type} (l : List α) (x d : α) (i : Nat) (h : i < l.length) : (l ++ [x]).getD i d = l.getD i d := by
  simp [List.getD, List.getElem?_append_left h]
theorem getD_snoc_eq {α : Type} (l : List α) (x d : α) : (l ++ [x]).getD l.length d = x := by simp [List.getD]
theorem RowsAt.snoc {w : World} {base : Nat} {vs : List Value} {gs : List Nat} {rows : List (List C)} (h : RowsAt w base vs gs rows) (g : Nat) (v : Value) (row : List C) (hb : base ≤ g) (hr : RowB w g v row) (hne : ∀ i, i < rows.length → gs.getD i 0 ≠ g) : RowsAt w base (vs ++ [v]) (gs ++ [g]) (rows ++ [row]) := by
  obtain ⟨h1, h2, h3, h4⟩ := h
  refine ⟨by simp [h1], by simp [h2], ?_, fun i hi => ?_⟩
  · rw [List.nodup_append]
    refine ⟨h3, by simp, fun a ha b hb => ?_⟩
    obtain rfl : b = g := by simpa using hb
    obtain ⟨i, hi, rfl⟩ := List.getElem_of_mem ha
    have := hne i (by omega)
    simpa [List.getD, List.getElem?_eq_getElem hi] using this
  · rw [List.length_append, List.length_singleton] at hi
    by_cases hlt : i < rows.length
    · rw [getD_snoc_lt _ _ _ _ (by omega), getD_snoc_lt _ _ _ _ (by omega), getD_snoc_lt _ _ _ _ hlt]
      exact h4 i hlt
    · obtain rfl : i = rows.length := by omega
      have e1 := getD_snoc_eq gs g 0
      have e2 := getD_snoc_eq vs v nilV
      have e3 := getD_snoc_eq rows row []
      rw [h2] at e1
      rw [h1] at e2
      rw [e1, e2, e3]
      exact ⟨hb, hr⟩
/-- An owned row of slices lies in no block of cells. -/
theorem own_ne {w : World} {base : Nat} {v : Value} {n : Nat} {xs : List Value} (h : w.ownsRow base 22 1 v n xs) {g : Nat} {A : Array Value} (hg : w.heap[g]? = some (.cells A 40 (0, 0))) : some g ≠ v.ownBlock := by
  obtain ⟨_, h | ⟨q, cap, cur, rfl, _, hq, _⟩⟩ := h
  · rw [h.1]; simp [Value.ownBlock]
  · intro e
    simp only [Value.ownBlock, Option.some.injEq] at e
    subst e
    rw [hq] at hg
    simp at hg
theorem RowsAt.grown {w w' : World} {base base' : Nat} {vs : List Value} {gs : List Nat} {rows : List (List C)} {v : Value} {n : Nat} {xs : List Value} (h : RowsAt w base vs gs rows) (ho : w.ownsRow base' 22 1 v n xs) (hg : w.grownBy w' v.ownBlock) : RowsAt w' base vs gs rows :=
  h.kept fun i hi => by
    obtain ⟨_, cap, rest, _, _, _, h3⟩ := h.2.2.2 i hi
    exact hg.block _ (blk_lt h3) (own_ne ho h3)
theorem RowB.grown {w w' : World} {base' : Nat} {g : Nat} {u : Value} {row : List C} {v : Value} {n : Nat} {xs : List Value} (h : RowB w g u row) (ho : w.ownsRow base' 22 1 v n xs) (hg : w.grownBy w' v.ownBlock) : RowB w' g u row := by
  obtain ⟨cap, rest, h0, h1, h2, h3⟩ := h
  exact ⟨cap, rest, h0, h1, h2, by rw [hg.block _ (blk_lt h3) (own_ne ho h3)]; exact h3⟩
theorem RowB.one {w : World} {g : Nat} {v : Value} {row : List C} (h : RowB w g v row) : v.oneCell' = true := by
  obtain ⟨cap, rest, rfl, _⟩ := h; rfl
def rowsL (n : Nat) (cs : List C) (k : Nat) : List (List C) := (List.range k).map (rowAt n cs)
theorem rowsL_succ (n : Nat) (cs : List C) (k : Nat) : rowsL n cs (k + 1) = rowsL n cs k ++ [rowAt n cs k] := by simp [rowsL, List.range_succ]
theorem rowsL_len (n : Nat) (cs : List C) (k : Nat) : (rowsL n cs k).length = k := by simp [rowsL]
theorem und_rows : Tryd.prog.underlying 55 = some (.slice 22) := by kernel_rfl
theorem info_cells : (Tryd.prog.info? 22).map (fun i => (i.zero, i.size, i.bytes)) = some (some (.slice none 0 0), 1, 24) := by kernel_rfl
theorem own_from {w : World} {base : Nat} {e : TypeId} {size : Nat} {v : Value} {n : Nat} {xs : List Value} (h : w.ownsRow base e size v n xs) : ∀ k, v.ownBlock = some k → base ≤ k := by
  intro k hk
  obtain ⟨_, h | ⟨q, cap, cur, rfl, hq, _⟩⟩ := h
  · rw [h.1] at hk; simp [Value.ownBlock] at hk
  · simp only [Value.ownBlock, Option.some.injEq] at hk; omega
set_option maxHeartbeats 4000000 in
set_option maxRecDepth 100000 in
theorem rows_any (n hh b o cx : Nat) (cs : List C) (w : World) (hC : CellsAt w b o cs) (hs : isSize n hh = true) (hL : cs.length = n * hh) (hc : cs.length ≤ cx) :
    Calls Tryd.prog 28 #[.agg #[.int .i64 (n : Int), .int .i64 (hh : Int), .slice (some ⟨b, o, none⟩) cs.length cx]] w fun e w' => ∃ v vs gs, e = .returned v ∧ w'.ownsRow w.heap.size 22 1 v hh vs ∧ RowsAt w' w.heap.size vs gs (rowsL n cs hh) ∧ Below w.heap.size w w' := by
  have ⟨p0, p1, p2, p3, p4, p5⟩ := prod_in n hh hs
  have HC : Hid (CellsAt w b o cs) := hC
  have HL : Hid (cs.length = n * hh) := hL
  have hl2 : cs.length ≤ 7200 := by
    have : ((n * hh : Nat) : Int) ≤ 7200 := by rw [Int.natCast_mul]; exact p1
    omega
  obtain ⟨i0, hi, hzz⟩ := Option.map_eq_some_iff.1 info_cells
  simp only [Prod.mk.injEq] at hzz
  obtain ⟨hz0, hz1, hz2⟩ := hzz
  have kk : Below w.heap.size w (w.alloc (.cells #[.int .i64 (n : Int), .int .i64 (hh : Int), .slice (some ⟨b, o, none⟩) cs.length cx] 24)) := (Below.refl _ _).alloc (Nat.le_refl _) _
  have x0 := heap_alloc_new w (.cells #[.int .i64 (n : Int), .int .i64 (hh : Int), .slice (some ⟨b, o, none⟩) cs.length cx] 24)
  clear hC hL p0 p1 hs
  go_enter Tryd.func28, Tryd.ntmps28
  go_wp2_with fail
  go_loopg [3, 4] hh (fun q v y wr => ∃ (k : Nat) (vs : List Value) (gs : List Nat), y = .int .i64 (k : Int) ∧ k ≤ hh ∧ hh - k ≤ q ∧ wr.ownsRow (w.heap.size + 1) 22 1 v k vs ∧ RowsAt wr (w.heap.size + 1) vs gs (rowsL n cs k) ∧ Below w.heap.size w wr ∧ wr.heap[w.heap.size]? = some (.cells #[.int .i64 (n : Int), .int .i64 (hh : Int), .slice (some ⟨b, o, none⟩) cs.length cx] 24 (0, 0)))
  case atStart => exact ⟨0, [], [], rfl, by omega, by omega, World.ownsRow_nil _ _ _ _, ⟨rfl, rfl, List.nodup_nil, fun i hi => absurd hi (by simp [rowsL])⟩, kk, x0⟩
  case round =>
    clear kk x0
    obtain ⟨k, vs, gs, rfl, hk, hq, hown, hrows, hb, hv⟩ := hrel
    have ⟨c0, c1, c2, _⟩ := cells3 hv
    have HO : Hid (wr.ownsRow (w.heap.size + 1) 22 1 _ k vs) := hown
    have HRS : Hid (RowsAt wr (w.heap.size + 1) vs gs (rowsL n cs k)) := hrows
    clear hown hrows
    by_cases hlt : k < hh
    · have lt1 : ((k : Int) < (hh : Int)) := by omega
      have hfit := row_fits n hh _ k HL.out hlt
      have hrl := row_len n hh cs k HL.out hlt
      obtain ⟨p, hp⟩ : ∃ p, p = k * n := ⟨_, rfl⟩
      have hq2 : (k + 1) * n = p + n := by rw [hp, Nat.add_mul, Nat.one_mul]
      rw [hq2] at hfit
      have e1 : (k : Int) * (n : Int) = (p : Int) := by rw [hp]; simp
      have e2 : ((k : Int) + 1) * (n : Int) = ((p + n : Nat) : Int) := by rw [← hq2]; simp
      have e3 : p + n - p = n := by omega
      have HCL : Hid (∀ c, Calls Tryd.prog 39 #[.slice (some ⟨b, o + p * 4, none⟩) n c] wr fun e w' => ∃ v' g, e = .returned v' ∧ wr.heap.size ≤ g ∧ RowB w' g v' (rowAt n cs k) ∧ Below wr.heap.size wr w') := fun c => by
        have hpt := (HC.out.below hb).part (k * n) n (by rw [← hp]; omega)
        have := clone_row b (o + k * n * 4) c (rowAt n cs k) wr hpt (by rw [hrl]; omega)
        rw [hrl] at this
        rw [hp]
        exact this
      clear hrl hq2 hp
      go_wp2_with (first
        | (go_at_call 39; rw [e3]; refine (HCL.out _).mono ?_; rintro e W2 ⟨v2, g2, rfl, hg2, hr2, b2⟩
           have HR2 : Hid (RowB W2 g2 v2 (rowAt n cs k)) := hr2
           obtain ⟨cap2, _, rfl, _⟩ := hr2
           have hown2 : W2.ownsRow (w.heap.size + 1) 22 1 _ k vs := ownsRow_below HO.out b2)
        | (at_builtin; refine wpList_append_own _ rfl _ _ 55 rfl (w.heap.size + 1) 22 i0 (.slice none 0 0) 1 24 und_rows hi hz0 hz1 hz2 rfl (by decide) _ _ _ rfl (hown2.alloc _) ⟨W2.heap.size, 0, none⟩ 1 1 [.slice (some ⟨g2, 0, none⟩) (rowAt n cs k).length cap2] rfl rfl (cell_one_new _ _ _) (by intro u hu; simp at hu; rw [hu]; rfl) (by unfold maxLen; omega) (by omega) (by have := hb.size; have := b2.size; have := blk_lt hv; simp; omega) ?_
           intro v3 W3 hown3 hgrow hnil))
      have kZ : Below W2.heap.size W2 (W2.alloc (.cells #[.slice (some ⟨g2, 0, none⟩) (rowAt n cs k).length cap2] 22)) := (Below.refl _ _).alloc (Nat.le_refl _) _
      have hfrom := own_from HO.out
      have kb2 := hb.trans (b2.mono hb.size)
      have hN := blk_lt hv
      have hN2 := b2.size
      go_roundg (hh - (k + 1))
      case measure => omega
      case rel =>
        refine ⟨k + 1, vs ++ [.slice (some ⟨g2, 0, none⟩) (rowAt n cs k).length cap2], gs ++ [g2], rfl, by omega, by omega, hown3, ?_, ?_, ?_⟩
        · rw [rowsL_succ]
          refine ((((HRS.out.below b2).below kZ).grown (hown2.alloc _) hgrow)).snoc g2 _ _ (by omega) ((HR2.out.below kZ).grown (hown2.alloc _) hgrow) (fun i hi => ?_)
          have := HRS.out.lt i hi
          omega
        · exact (kb2.alloc kb2.size _).grown hgrow (by simp; omega) (fun q hq => by have := hfrom q hq; omega)
        · rw [hgrow.block _ (by simp; omega) (fun e => by have := hfrom _ e.symm; omega)]
          exact carry (carry hv b2) kZ
    · have lt1 : ¬ ((k : Int) < (hh : Int)) := by omega
      have hkh : k = hh := by omega
      subst hkh
      go_wp2_with fail
      go_ret
      exact ⟨_, rfl, vs, ownsRow_mono HO.out (by omega), ⟨gs, ⟨HRS.out.1, HRS.out.2.1, HRS.out.2.2.1, fun i hi => ⟨by have := (HRS.out.2.2.2 i hi).1; omega, (HRS.out.2.2.2 i hi).2⟩⟩⟩, hb⟩
end Grd
end Go.Proofs.YtinhmklpnkikgaaDoor

/- The reference's GridOf. -/
namespace Go.Proofs.YtinhmklpnkikgaaDoor
open Go.ChangeShapes Go.WideShapes Go.ChangeAt Go.RowKit Go.Maps
namespace Grd
theorem flatten_next (rows : List (List C)) (k : Nat) (h : k < rows.length) : (rows.take (k + 1)).flatten = (rows.take k).flatten ++ rows.getD k [] := by
  rw [List.take_add_one, List.flatten_append, List.getElem?_eq_getElem h]
  have : rows.getD k [] = rows[k] := by simp [List.getD, h]
  rw [this]
  simp
theorem flatten_len (n : Nat) (rows : List (List C)) (hr : ∀ i, i < rows.length → (rows.getD i []).length = n) : ∀ k, k ≤ rows.length → ((rows.take k).flatten).length = k * n
  | 0, _ => by simp
  | k + 1, h => by
    rw [flatten_next rows k (by omega), List.length_append, flatten_len n rows hr k (by omega), hr k (by omega), Nat.add_mul, Nat.one_mul]
/-- A slice of slices, as an owned row holds it. -/
def OutV (w : World) (v : Value) (vs : List Value) : Prop := ∃ (G cap : Nat) (rest : List Value), v = .slice (some ⟨G, 0, none⟩) vs.length cap ∧ vs.length ≤ cap ∧ cap ≤ 9223372036854775807 ∧ w.heap[G]? = some (.cells (vs ++ rest).toArray 22 (0, 0))
theorem out_of_own {w : World} {base : Nat} {v : Value} {vs : List Value} (h : w.ownsRow base 22 1 v vs.length vs) (hn : 0 < vs.length) : ∃ (G cap : Nat) (rest : List Value), v = .slice (some ⟨G, 0, none⟩) vs.length cap ∧ base ≤ G ∧ vs.length ≤ cap ∧ cap ≤ 9223372036854775807 ∧ w.heap[G]? = some (.cells (vs ++ rest).toArray 22 (0, 0)) := by
  obtain ⟨_, h | ⟨g, cap, cur, hv, hg, hh, hc, hm, hs, htk⟩⟩ := h
  · omega
  · refine ⟨g, cap, cur.toList.drop vs.length, hv, hg, hc, by unfold maxLen at hm; omega, ?_⟩
    rw [Nat.mul_one] at htk
    have e : vs ++ cur.toList.drop vs.length = cur.toList := (congrArg (· ++ cur.toList.drop vs.length) htk).symm.trans (List.take_append_drop _ _)
    rw [hh, e]
theorem out_cell {w : World} {G : Nat} {vs rest : List Value} {t : TypeId} (h : w.heap[G]? = some (.cells (vs ++ rest).toArray t (0, 0))) (i : Nat) (hi : i < vs.length) : w.cell? ⟨G, i, none⟩ = some (vs.getD i nilV) := by
  unfold World.cell?
  rw [h]
  simp [List.getElem?_append_left hi, List.getElem?_eq_getElem hi, List.getD]
set_option maxHeartbeats 4000000 in
set_option maxRecDepth 100000 in
theorem gridOf_any (n hh G cap base : Nat) (vs rest : List Value) (gs : List Nat) (rows : List (List C)) (w : World) (hn : 1 ≤ n) (hn' : n ≤ 120) (hh1 : 1 ≤ hh) (hh' : hh ≤ 60) (hG : w.heap[G]? = some (.cells (vs ++ rest).toArray 22 (0, 0))) (hR : RowsAt w base vs gs rows) (hrl : rows.length = hh) (hrn : ∀ i, i < rows.length → (rows.getD i []).length = n) :
    Calls Tryd.prog 30 #[.slice (some ⟨G, 0, none⟩) hh cap] w fun e w' => ∃ v, e = .returned (.agg #[.int .i64 (n : Int), .int .i64 (hh : Int), v]) ∧ OwnG w' w.heap.size v rows.flatten ∧ Below w.heap.size w w' := by
  obtain ⟨i0, hi, hzz⟩ := Option.map_eq_some_iff.1 info_cell
  simp only [Prod.mk.injEq] at hzz
  obtain ⟨hz0, hz1, hz2⟩ := hzz
  have hGw : G < w.heap.size := blk_lt hG
  have hvl : vs.length = hh := by rw [hR.1, hrl]
  have HG : Hid (∀ W, Below w.heap.size w W → ∀ i, i < hh → W.cell? ⟨G, i, none⟩ = some (vs.getD i nilV)) := fun W k i hi' => out_cell (carry hG k) i (by omega)
  have HR : Hid (∀ W, Below w.heap.size w W → ∀ i, i < hh → RowB W (gs.getD i 0) (vs.getD i nilV) (rows.getD i [])) := fun W k i hi' => ((hR.below k).2.2.2 i (by omega)).2
  have HRN : Hid (∀ i, i < hh → (rows.getD i []).length = n) := fun i hi' => hrn i (by omega)
  have HNX : Hid (∀ k, k < hh → (rows.take (k + 1)).flatten = (rows.take k).flatten ++ rows.getD k []) := fun k hk => flatten_next rows k (by omega)
  have HTL : Hid (∀ k, k ≤ hh → ((rows.take k).flatten).length = k * n) := fun k hk => flatten_len n rows hrn k (by omega)
  have HALL : Hid ((rows.take hh).flatten = rows.flatten) := by unfold Hid; rw [List.take_of_length_le (by omega)]
  have hprod : hh * n ≤ 7200 := by have := Nat.mul_le_mul hh' hn'; omega
  obtain ⟨c0, r0, hv0, hl0, hm0, _⟩ := HR.out w (Below.refl _ _) 0 (by omega)
  rw [HRN.out 0 (by omega)] at hv0
  have x0 : (w.alloc (.cells #[.int .i64 0, .int .i64 0, .slice none 0 0] 24)).cell? ⟨G, 0, none⟩ = some (.slice (some ⟨gs.getD 0 0, 0, none⟩) n c0) := by
    rw [← hv0]; exact HG.out _ ((Below.refl _ _).alloc (Nat.le_refl _) _) 0 (by omega)
  clear hR hrn hG hv0 hl0 hm0
  generalize gs.getD 0 0 = g00 at x0
  go_enter Tryd.func30, Tryd.ntmps30
  go_wp2_with (first
    | (refine wpList_store_row rfl 24 (.tmp 3) _ rfl (w.heap.size + 1) #[.int .i64 (n : Int), .int .i64 (hh : Int), .slice none 0 0] rfl rfl _ _ (heap_alloc2_new w _ _) (by kernel_rfl) rfl (one3v _ _ _ _ _) ?_))
  have y0 : (((w.alloc (.cells #[.int .i64 0, .int .i64 0, .slice none 0 0] 24)).alloc (.cells #[.int .i64 0, .int .i64 0, .slice none 0 0] 24)).setRow (w.heap.size + 1) #[.int .i64 (n : Int), .int .i64 (hh : Int), .slice none 0 0]).heap[w.heap.size]? = some (.cells #[.int .i64 0, .int .i64 0, .slice none 0 0] 24 (0, 0)) := by
    rw [setRow_other _ _ _ _ (by omega), Below.heap_alloc _ _ _ (by simp), heap_alloc_new]
  have y1 := setRow_heap _ _ _ #[.int .i64 (n : Int), .int .i64 (hh : Int), .slice none 0 0] _ _ (heap_alloc2_new w (.cells #[.int .i64 0, .int .i64 0, .slice none 0 0] 24) (.cells #[.int .i64 0, .int .i64 0, .slice none 0 0] 24))
  have kX : Below w.heap.size w (((w.alloc (.cells #[.int .i64 0, .int .i64 0, .slice none 0 0] 24)).alloc (.cells #[.int .i64 0, .int .i64 0, .slice none 0 0] 24)).setRow (w.heap.size + 1) #[.int .i64 (n : Int), .int .i64 (hh : Int), .slice none 0 0]) := below_setRow (((Below.refl _ _).alloc (Nat.le_refl _) _).alloc (by simp) _) (by omega) _
  generalize (((w.alloc (.cells #[.int .i64 0, .int .i64 0, .slice none 0 0] 24)).alloc (.cells #[.int .i64 0, .int .i64 0, .slice none 0 0] 24)).setRow (w.heap.size + 1) #[.int .i64 (n : Int), .int .i64 (hh : Int), .slice none 0 0]) = X at *
  go_loopg [15] hh (fun q i wr => ∃ (k : Nat) (u : Value), i = .int .i64 (k : Int) ∧ k ≤ hh ∧ hh - k ≤ q ∧ Below w.heap.size w wr ∧ wr.heap[w.heap.size]? = some (.cells #[.int .i64 0, .int .i64 0, .slice none 0 0] 24 (0, 0)) ∧ wr.heap[w.heap.size + 1]? = some (.cells #[.int .i64 (n : Int), .int .i64 (hh : Int), u] 24 (0, 0)) ∧ wr.ownsRow (w.heap.size + 2) 40 4 u (k * n) (flat (rows.take k).flatten))
  case atStart => exact ⟨0, _, rfl, by omega, by omega, kX, y0, y1, by rw [Nat.zero_mul]; exact World.ownsRow_nil _ _ _ _⟩
  case round =>
    clear y0 y1 kX x0
    obtain ⟨k, u, rfl, hk, hq, hb, v0, v1, hown⟩ := hrel
    have ⟨d0, d1, d2, df⟩ := cells3 v1
    have HO : Hid (wr.ownsRow (w.heap.size + 2) 40 4 u (k * n) (flat (rows.take k).flatten)) := hown
    have hsz := blk_lt v1
    clear hown
    by_cases hlt : k < hh
    · have lt1 : ((k : Int) < (hh : Int)) := by omega
      have hrow := HR.out wr hb k hlt
      have hsrc := cellsAt_src hrow.cells
      have hcell := HG.out wr hb k hlt
      obtain ⟨cp, rs, hvk, hl1, hm1, _⟩ := hrow
      rw [hvk, HRN.out k hlt] at hcell
      have HS : Hid (∀ j u, (flat (rows.getD k []))[j]? = some u → wr.cell? ((⟨gs.getD k 0, 0, none⟩ : Addr).add j) = some u) := hsrc
      have HF : Hid ((flat (rows.getD k [])).length = n * 4) := by unfold Hid; rw [flat_len, HRN.out k hlt]
      have HON : Hid (∀ u ∈ flat (rows.getD k []), u.oneCell' = true) := flat_one _
      have HN2 : Hid (flat (rows.take (k + 1)).flatten = flat (rows.take k).flatten ++ flat (rows.getD k [])) := by unfold Hid; rw [HNX.out k hlt, flat_append]
      have hkn : (k + 1) * n ≤ hh * n := Nat.mul_le_mul_right _ hlt
      have hkn2 : (k + 1) * n = k * n + n := by rw [Nat.add_mul, Nat.one_mul]
      have hfrom := own_from HO.out
      have hfz := df 2
      clear hsrc hvk df hl1 hm1
      generalize gs.getD k 0 = gk0 at *
      generalize flat (rows.getD k []) = fr at *
      generalize hK : k * n = kn at *
      go_wp2_with (first
        | (at_builtin; refine wpList_append_own _ rfl _ _ 22 rfl (w.heap.size + 2) 40 i0 (.agg #[.int .i32 0, .int .i64 0, .int .i64 0, .int .i64 0]) 4 32 und_cells hi hz0 hz1 hz2 rfl (by decide) _ _ _ rfl HO.out ⟨gk0, 0, none⟩ n cp fr rfl HF.out HS.out HON.out (by unfold maxLen; omega) (by omega) (by omega) ?_
           intro v3 W3 hown3 hgrow hnil
           have w0 := (hgrow.block _ (by omega) (fun e => by have := hfrom _ e.symm; omega)).trans v0
           have w1 := (hgrow.block (w.heap.size + 1) (by omega) (fun e => by have := hfrom _ e.symm; omega)).trans v1
           have k3 := hb.grown hgrow (by omega) (fun q hq => by have := hfrom q hq; omega)
           have ⟨g0, g1, g2, gf⟩ := cells3 w1
           have hfz2 := gf 2
           obtain ⟨q3, c3, hv3⟩ : ∃ q c, v3 = .slice q (kn + n) c := by
             rcases hown3.2 with h | ⟨g, c, _, h, _⟩
             · have := h.2; omega
             · exact ⟨_, _, h⟩
           have HO3 : Hid (W3.ownsRow (w.heap.size + 2) 40 4 v3 (kn + n) (flat (rows.take k).flatten ++ fr)) := hown3
           clear hown3 hnil
           subst hv3))
      go_roundg (hh - (k + 1))
      case measure => omega
      case rel =>
        refine ⟨k + 1, .slice q3 (kn + n) c3, rfl, by omega, by omega, k3.setCell (by dsimp only; omega) _, ?_, ?_, ?_⟩
        · rw [heap_setCell_other _ _ _ _ (by dsimp only; omega)]; exact w0
        · have := heap_setCell_same W3 (w.heap.size + 1) 2 _ _ (.slice q3 (kn + n) c3) w1
          exact this
        · rw [hkn2, HN2.out]
          exact ownsRow_setCell_below HO3.out (by dsimp only; omega) _
    · have lt1 : ¬ ((k : Int) < (hh : Int)) := by omega
      have hkh : k = hh := by omega
      have HAL : Hid ((rows.take k).flatten = rows.flatten) := by unfold Hid; rw [hkh]; exact HALL.out
      have HLL : Hid (rows.flatten.length = k * n) := by have := HTL.out k (by omega); rw [HAL.out] at this; exact this
      have hpos : 0 < k * n := Nat.mul_pos (by omega) (by omega)
      have HO' := HO.out
      rw [HAL.out, ← HLL.out] at HO'
      have hnn : u ≠ .slice none 0 0 := by
        intro e
        rcases HO'.2 with h | ⟨g, c, _, h, _⟩
        · have := h.2; rw [HLL.out] at this; omega
        · rw [e] at h; simp at h
      obtain ⟨g, cp, rs, t, rfl, hgb, hlc, hcm2, hgh⟩ := own_of_row HO' hnn
      clear HO HO' hnn
      obtain ⟨Lf, hLf⟩ : ∃ q, q = rows.flatten.length := ⟨_, rfl⟩
      have HLF : Hid (Lf = rows.flatten.length) := hLf
      rw [← hLf] at v1 d2 hlc
      clear hLf
      go_wp2_with (first
        | (refine wpList_load_row rfl 24 _ rfl (w.heap.size + 1) rfl _ _ _ _ v1 Tryd.underlying24 rfl (by kernel_rfl) ?_)
        | (refine wpList_store_row rfl 24 (.tmp 2) _ rfl w.heap.size #[.int .i64 (n : Int), .int .i64 (hh : Int), .slice (some ⟨g, 0, none⟩) Lf cp] rfl rfl _ _ v0 (by kernel_rfl) rfl (one3v _ _ _ _ _) ?_))
      (try simp only [Exit.inBlock, Exit.then])
      refine bodyPost_ret (v := .agg #[.int .i64 (n : Int), .int .i64 (hh : Int), .slice (some ⟨g, 0, none⟩) Lf cp]) ?_ rfl ⟨_, rfl, ⟨g, cp, rs, t, by rw [HLF.out], by omega, by rw [← HLF.out]; exact hlc, hcm2, ?_⟩, below_setRow hb (Nat.le_refl _) _⟩
      · exact results_cell_row rfl _ _ w.heap.size _ _ _ _ rfl (setRow_heap _ _ _ _ _ _ v0) Tryd.underlying24 rfl (by kernel_rfl)
      · rw [setRow_other _ _ _ _ (by omega)]
        exact hgh
end Grd
end Go.Proofs.YtinhmklpnkikgaaDoor
