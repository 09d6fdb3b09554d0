/- Package split: the reader of a text: a number. -/
import Derived.Test.YtckkbmgdaplaaaaDoorSplSees
import Derived.Deep.RegionWith
namespace Go.Proofs.YtckkbmgdaplaaaaDoor
open Go.ChangeShapes Go.WideShapes Go.ChangeAt Go.RowKit Go.Maps Go.Sort
namespace Spl
def Dg (t : ByteArray) (p k : Nat) : Prop := ∀ j, j < k → ∃ h : p + j < t.size, 48 ≤ (t[p + j]'h).toNat ∧ (t[p + j]'h).toNat ≤ 57
def Stop (t : ByteArray) (q : Nat) : Prop := ∀ h : q < t.size, ¬ (48 ≤ (t[q]'h).toNat ∧ (t[q]'h).toNat ≤ 57)
set_option maxHeartbeats 8000000 in
set_option maxRecDepth 100000 in
theorem number_good (R : Nat) (t : ByteArray) (p k o : Nat) (n : Int) (w : World) (hr : RdAt w R t p o) (hts : t.size ≤ 100000) (hk1 : 1 ≤ k) (hk4 : k ≤ 4) (hps : p + k ≤ t.size) (hd : Dg t p k) (hst : k < 4 → Stop t (p + k)) (h48 : ∀ h : p < t.size, (t[p]'h).toNat ≠ 48)
    (hn : Lib.atoi (t.extract p (p + k)).data.toList = some n) (hn0 : n ≠ 0) :
    Calls Tryd.prog 84 #[.pointer (some ⟨R, 0, none⟩)] w fun e w' => e = .returned (.int .i64 n) ∧ RdAt w' R t (p + k) o ∧ But R w w' := by
  have HA := fun W => (Tryd.strconv_Atoi (t.extract p (p + k)) n (by rw [ByteArray.size_extract]; omega) hn W).mono (fun e w' ⟨he, tt, hw⟩ => (⟨he, by rw [hw]; exact Lib.bytesWorld_below _ _ _⟩ : e = Ending.returned (Value.tuple #[.int .i64 n, .nilIface]) ∧ Below W.heap.size W w'))
  obtain ⟨⟨c0, c1, c2⟩, f0, f1, f2⟩ := hr.cells
  have HD : Hid (Dg t p k) := hd
  have HST : Hid (k < 4 → Stop t (p + k)) := hst
  have jn : (n == 0) = false := by rw [beq_eq_false_iff_ne]; exact hn0
  have hp0 : p < t.size := by omega
  have j48 : (((t[p]'hp0).toNat : Int) == 48) = false := by rw [beq_eq_false_iff_ne]; have := h48 hp0; omega
  have HR0 : Hid (RdAt w R t p o) := hr
  clear hn hn0 hd hst h48 hr
  go_enter Tryd.func84, Tryd.ntmps84
  go_wp2_with fail
  go_loopg [10] k (fun g _ wr => ∃ j : Nat, j ≤ k ∧ k - j ≤ g ∧ RdAt wr R t (p + j) o ∧ But R w wr)
  case atStart => exact ⟨0, Nat.zero_le _, Nat.le_refl _, HR0.out, But.refl _ _⟩
  case round =>
    obtain ⟨j, hj, hg, hrr, hbt⟩ := hrel
    obtain ⟨⟨c0, c1, c2⟩, f0, f1, f2⟩ := hrr.cells
    have HRR : Hid (RdAt wr R t (p + j) o) := hrr
    clear hrr HR0
    have ecast : ((p + j : Nat) : Int) = (p : Int) + (j : Int) := by omega
    rw [ecast] at c1
    by_cases hjk : j < k
    · obtain ⟨hlt, d1, d2⟩ := HD.out j hjk
      have q1 : decide ((p : Int) + (j : Int) < (t.size : Int)) = true := decide_eq_true (by omega)
      have q1' : (p : Int) + (j : Int) < (t.size : Int) := by omega
      have q2 : decide ((p : Int) + (j : Int) - (p : Int) < 4) = true := decide_eq_true (by omega)
      have q2' : (p : Int) + (j : Int) - (p : Int) < 4 := by omega
      have q0 : (0 : Int) ≤ (p : Int) + (j : Int) := by omega
      have qt : ((p : Int) + (j : Int)).toNat = p + j := by omega
      have d1' : (48 : Int) ≤ ((t[p + j]'hlt).toNat : Int) := by omega
      have d2' : ((t[p + j]'hlt).toNat : Int) ≤ 57 := by omega
      go_wp2_with fail
      go_quiet (fail)
      have v0 : (wr.drewN nq).cell? ⟨R, 0, none⟩ = some (.string t) := c0
      have v1 : (wr.drewN nq).cell? ⟨R, 1, none⟩ = some (.int .i64 ((p : Int) + (j : Int))) := c1
      have v2 : (wr.drewN nq).frozen? ⟨R, 1, none⟩ = false := f1
      have hrd : RdAt (wr.drewN nq) R t (p + j) o := HRR.out
      have hbd : But R w (wr.drewN nq) := hbt.trans (But.of_below (Spl.below_drewN wr nq))
      clear c0 c1 c2 f0 f1 f2
      generalize wr.drewN nq = V at *
      go_wp2_with fail
      go_roundg (k - (j + 1))
      case measure => omega
      case rel =>
        refine ⟨j + 1, by omega, Nat.le_refl _, ?_, hbd.setCell _⟩
        have := rd_set hrd (p + (j + 1))
        rwa [show ((p + (j + 1) : Nat) : Int) = (p : Int) + (j : Int) + 1 by omega] at this
    · have hjk : j = k := by omega
      subst hjk
      by_cases hsz : p + j < t.size
      · have q1 : decide ((p : Int) + (j : Int) < (t.size : Int)) = true := decide_eq_true (by omega)
        have q1' : (p : Int) + (j : Int) < (t.size : Int) := by omega
        have q0 : (0 : Int) ≤ (p : Int) + (j : Int) := by omega
        have qt : ((p : Int) + (j : Int)).toNat = p + j := by omega
        by_cases h4 : j < 4
        · have q2 : decide ((p : Int) + (j : Int) - (p : Int) < 4) = true := decide_eq_true (by omega)
          have q2' : (p : Int) + (j : Int) - (p : Int) < 4 := by omega
          have hstop := HST.out h4 hsz
          have hwr : IntKind.i64.wrap ((p : Int) + (j : Int) - (p : Int)) = (j : Int) := (IntWalk.i64_in _ ⟨by omega, by omega⟩).trans (by omega)
          have qa : decide ((j : Int) < 4) = true := decide_eq_true (by omega)
          have qa' : (j : Int) < 4 := by omega
          by_cases h1 : 48 ≤ (t[p + j]'hsz).toNat
          · have d1' : (48 : Int) ≤ ((t[p + j]'hsz).toNat : Int) := by omega
            have d2' : ¬ ((t[p + j]'hsz).toNat : Int) ≤ 57 := by omega
            have dn : decide ((t[p + j]'hsz).toNat ≤ 57) = false := decide_eq_false (by omega)
            have dn' : decide (((t[p + j]'hsz).toNat : Int) ≤ 57) = false := decide_eq_false (by omega)
            have dt : decide (48 ≤ (t[p + j]'hsz).toNat) = true := decide_eq_true (by omega)
            have dt' : decide (48 ≤ ((t[p + j]'hsz).toNat : Int)) = true := decide_eq_true (by omega)
            clear hstop h1
            have g0 := fun d os => cell_regrown c0 d os
            have g1 := fun d os => cell_regrown c1 d os
            go_wp2_with fail
            refine wp_region_quiet_below (by kernel_rfl) (by kernel_rfl) ?_
            repeat (first | go_big_quiet_skip | (go_big_quiet_want; go_big_quiet_op; go_big_quiet_on) | quiet_step (fail))
            refine wpQuiet_nil ?_
            intro _ hw'
            obtain ⟨⟨dq, os⟩, hw''⟩ := hw'
            subst hw''
            have kR := below_regrown wr dq os
            clear g0 g1 c0 c1 c2 f0 f1 f2
            generalize grow (redrawn wr dq) os = V at *
            have hV : RdAt V R t (p + j) o := HRR.out.below kR
            have hbV := hbt.trans (But.of_below kR)
            obtain ⟨⟨c0, c1, c2⟩, f0, f1, f2⟩ := hV.cells
            rw [show ((p + j : Nat) : Int) = (p : Int) + (j : Int) by omega] at c1
            have e0 : V.drew.cell? ⟨R, 0, none⟩ = some (.string t) := c0
            have e1 : V.drew.cell? ⟨R, 1, none⟩ = some (.int .i64 ((p : Int) + (j : Int))) := c1
            have l1 : (p : Int) ≤ (p : Int) + (j : Int) := by omega
            have l2 : (p : Int) + (j : Int) ≤ (t.size : Int) := by omega
            have l0 : (0 : Int) ≤ (p : Int) := by omega
            have lt : ((p : Int) + (j : Int)).toNat = p + j := by omega
            have lp : (p : Int) < (t.size : Int) := by omega
            clear kR hbt HRR
            go_wp2_with fail
            go_region_with (go_at_call 65; refine (HA _).mono ?_; rintro e W2 ⟨rfl, bW⟩)
            all_goals
              have hb2 : Below V.heap.size V W2 := ⟨bW.os, bW.tape, bW.output, bW.size, bW.block⟩
              have hV2 := hV.below hb2
              obtain ⟨⟨u0, u1, u2⟩, _⟩ := hV2.cells
              have hB2 := hbV.trans (But.of_below hb2)
              clear c0 c1 c2 e0 e1 bW hb2 hbV u1 u2 HA
              go_wp2_with fail
              go_ret
              exact ⟨rfl, hV2, hB2⟩
          · have d1' : ¬ (48 : Int) ≤ ((t[p + j]'hsz).toNat : Int) := by omega
            have dn : decide (48 ≤ (t[p + j]'hsz).toNat) = false := decide_eq_false (by omega)
            have dn' : decide ((48 : Int) ≤ ((t[p + j]'hsz).toNat : Int)) = false := decide_eq_false (by omega)
            have dm : ((48 : Int) ≤ ((t[p + j]'hsz).toNat : Int)) = False := eq_false (by omega)
            clear hstop h1
            have g0 := fun d os => cell_regrown c0 d os
            have g1 := fun d os => cell_regrown c1 d os
            go_wp2_with fail
            refine wp_region_quiet_below (by kernel_rfl) (by kernel_rfl) ?_
            repeat (first | go_big_quiet_skip | (go_big_quiet_want; go_big_quiet_op; go_big_quiet_on) | quiet_step (fail))
            refine wpQuiet_nil ?_
            intro _ hw'
            obtain ⟨⟨dq, os⟩, hw''⟩ := hw'
            subst hw''
            have kR := below_regrown wr dq os
            clear g0 g1 c0 c1 c2 f0 f1 f2
            generalize grow (redrawn wr dq) os = V at *
            have hV : RdAt V R t (p + j) o := HRR.out.below kR
            have hbV := hbt.trans (But.of_below kR)
            obtain ⟨⟨c0, c1, c2⟩, f0, f1, f2⟩ := hV.cells
            rw [show ((p + j : Nat) : Int) = (p : Int) + (j : Int) by omega] at c1
            have e0 : V.drew.cell? ⟨R, 0, none⟩ = some (.string t) := c0
            have e1 : V.drew.cell? ⟨R, 1, none⟩ = some (.int .i64 ((p : Int) + (j : Int))) := c1
            have l1 : (p : Int) ≤ (p : Int) + (j : Int) := by omega
            have l2 : (p : Int) + (j : Int) ≤ (t.size : Int) := by omega
            have l0 : (0 : Int) ≤ (p : Int) := by omega
            have lt : ((p : Int) + (j : Int)).toNat = p + j := by omega
            have lp : (p : Int) < (t.size : Int) := by omega
            clear kR hbt HRR
            go_wp2_with fail
            go_region_with (go_at_call 65; refine (HA _).mono ?_; rintro e W2 ⟨rfl, bW⟩)
            all_goals
              have hb2 : Below V.heap.size V W2 := ⟨bW.os, bW.tape, bW.output, bW.size, bW.block⟩
              have hV2 := hV.below hb2
              obtain ⟨⟨u0, u1, u2⟩, _⟩ := hV2.cells
              have hB2 := hbV.trans (But.of_below hb2)
              clear c0 c1 c2 e0 e1 bW hb2 hbV u1 u2 HA
              go_wp2_with fail
              go_ret
              exact ⟨rfl, hV2, hB2⟩
        · have q2' : ¬ (p : Int) + (j : Int) - (p : Int) < 4 := by omega
          have q2 : decide ((p : Int) + (j : Int) - (p : Int) < 4) = false := decide_eq_false q2'
          have hwr : IntKind.i64.wrap ((p : Int) + (j : Int) - (p : Int)) = (j : Int) := (IntWalk.i64_in _ ⟨by omega, by omega⟩).trans (by omega)
          have qa' : ¬ (j : Int) < 4 := by omega
          have qa : decide ((j : Int) < 4) = false := decide_eq_false (by omega)
          have qb : decide (j < 4) = false := decide_eq_false (by omega)
          have g0 := fun d os => cell_regrown c0 d os
          have g1 := fun d os => cell_regrown c1 d os
          go_wp2_with fail
          refine wp_region_quiet_below (by kernel_rfl) (by kernel_rfl) ?_
          repeat (first | go_big_quiet_skip | (go_big_quiet_want; go_big_quiet_op; go_big_quiet_on) | quiet_step (fail))
          refine wpQuiet_nil ?_
          intro _ hw'
          obtain ⟨⟨dq, os⟩, hw''⟩ := hw'
          subst hw''
          have kR := below_regrown wr dq os
          clear g0 g1 c0 c1 c2 f0 f1 f2
          generalize grow (redrawn wr dq) os = V at *
          have hV : RdAt V R t (p + j) o := HRR.out.below kR
          have hbV := hbt.trans (But.of_below kR)
          obtain ⟨⟨c0, c1, c2⟩, f0, f1, f2⟩ := hV.cells
          rw [show ((p + j : Nat) : Int) = (p : Int) + (j : Int) by omega] at c1
          have e0 : V.drew.cell? ⟨R, 0, none⟩ = some (.string t) := c0
          have e1 : V.drew.cell? ⟨R, 1, none⟩ = some (.int .i64 ((p : Int) + (j : Int))) := c1
          have l1 : (p : Int) ≤ (p : Int) + (j : Int) := by omega
          have l2 : (p : Int) + (j : Int) ≤ (t.size : Int) := by omega
          have l0 : (0 : Int) ≤ (p : Int) := by omega
          have lt : ((p : Int) + (j : Int)).toNat = p + j := by omega
          have lp : (p : Int) < (t.size : Int) := by omega
          clear kR hbt HRR
          go_wp2_with fail
          go_region_with (go_at_call 65; refine (HA _).mono ?_; rintro e W2 ⟨rfl, bW⟩)
          all_goals
            have hb2 : Below V.heap.size V W2 := ⟨bW.os, bW.tape, bW.output, bW.size, bW.block⟩
            have hV2 := hV.below hb2
            obtain ⟨⟨u0, u1, u2⟩, _⟩ := hV2.cells
            have hB2 := hbV.trans (But.of_below hb2)
            clear c0 c1 c2 e0 e1 bW hb2 hbV u1 u2 HA
            go_wp2_with fail
            go_ret
            exact ⟨rfl, hV2, hB2⟩
      · have q1' : ¬ (p : Int) + (j : Int) < (t.size : Int) := by omega
        have q1 : decide ((p : Int) + (j : Int) < (t.size : Int)) = false := decide_eq_false q1'
        have qn : decide (p + j < t.size) = false := decide_eq_false hsz
        have g0 := fun d os => cell_regrown c0 d os
        have g1 := fun d os => cell_regrown c1 d os
        go_wp2_with fail
        refine wp_region_quiet_below (by kernel_rfl) (by kernel_rfl) ?_
        repeat (first | go_big_quiet_skip | (go_big_quiet_want; go_big_quiet_op; go_big_quiet_on) | quiet_step (fail))
        refine wpQuiet_nil ?_
        intro _ hw'
        obtain ⟨⟨dq, os⟩, hw''⟩ := hw'
        subst hw''
        have kR := below_regrown wr dq os
        clear g0 g1 c0 c1 c2 f0 f1 f2
        generalize grow (redrawn wr dq) os = V at *
        have hV : RdAt V R t (p + j) o := HRR.out.below kR
        have hbV := hbt.trans (But.of_below kR)
        obtain ⟨⟨c0, c1, c2⟩, f0, f1, f2⟩ := hV.cells
        rw [show ((p + j : Nat) : Int) = (p : Int) + (j : Int) by omega] at c1
        have e0 : V.drew.cell? ⟨R, 0, none⟩ = some (.string t) := c0
        have e1 : V.drew.cell? ⟨R, 1, none⟩ = some (.int .i64 ((p : Int) + (j : Int))) := c1
        have l1 : (p : Int) ≤ (p : Int) + (j : Int) := by omega
        have l2 : (p : Int) + (j : Int) ≤ (t.size : Int) := by omega
        have l0 : (0 : Int) ≤ (p : Int) := by omega
        have lt : ((p : Int) + (j : Int)).toNat = p + j := by omega
        have lp : (p : Int) < (t.size : Int) := by omega
        clear kR hbt HRR
        go_wp2_with fail
        go_region_with (go_at_call 65; refine (HA _).mono ?_; rintro e W2 ⟨rfl, bW⟩)
        all_goals
          have hb2 : Below V.heap.size V W2 := ⟨bW.os, bW.tape, bW.output, bW.size, bW.block⟩
          have hV2 := hV.below hb2
          obtain ⟨⟨u0, u1, u2⟩, _⟩ := hV2.cells
          have hB2 := hbV.trans (But.of_below hb2)
          clear c0 c1 c2 e0 e1 bW hb2 hbV u1 u2 HA
          go_wp2_with fail
          go_ret
          exact ⟨rfl, hV2, hB2⟩
end Spl
end Go.Proofs.YtckkbmgdaplaaaaDoor
