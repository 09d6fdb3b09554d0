/- Package format: runs of bytes of one kind. (Written by gen_fmtrun.py.) -/
import Derived.Test.YtbhoklhcdefabaaDoorFmtRd
namespace Go.Proofs.YtbhoklhcdefabaaDoor
open Go.ChangeShapes Go.WideShapes Go.ChangeAt Go.RowKit Go.Maps Go.Sort
namespace Fmt
theorem ret_b {a b : Bool} (h : a = b) : Ending.returned (.bool a) = Ending.returned (.bool b) := by rw [h]
theorem i64_s {n : Int} (h0 : -9000 ≤ n) (h1 : n ≤ 100000) : IntKind.i64.wrap n = n := IntWalk.i64_in _ ⟨by omega, by omega⟩
theorem w64_s {n : Int} (h0 : -9000 ≤ n) (h1 : n ≤ 100000) : wrap64 n = n := by unfold wrap64; omega
set_option maxHeartbeats 4000000 in
set_option maxRecDepth 100000 in
theorem isD_any (c : UInt8) (w : World) : Calls Tryd.prog 68 #[.int .u8 c.toNat] w fun e w' => e = .returned (.bool (isD c)) ∧ Below w.heap.size w w' := by
  have HH : Hid (isD c = (decide (48 ≤ c.toNat) && decide (c.toNat ≤ 57))) := rfl
  by_cases h1 : (48 : Int) ≤ (c.toNat : Int)
  · have e1 : decide (48 ≤ c.toNat) = true := decide_eq_true (by omega)
    by_cases h2 : (c.toNat : Int) ≤ 57
    · have e2 : decide (c.toNat ≤ 57) = true := decide_eq_true (by omega)
      rw [e1, e2] at HH
      clear e1 e2
      go_enter Tryd.func68, Tryd.ntmps68
      go_wp2_with fail
      go_ret
      exact ⟨ret_b (by rw [HH.out]; rfl), Below.refl _ _⟩
    · have e2 : decide (c.toNat ≤ 57) = false := decide_eq_false (by omega)
      rw [e1, e2] at HH
      clear e1 e2
      go_enter Tryd.func68, Tryd.ntmps68
      go_wp2_with fail
      go_ret
      exact ⟨ret_b (by rw [HH.out]; rfl), Below.refl _ _⟩
  · have e1 : decide (48 ≤ c.toNat) = false := decide_eq_false (by omega)
    rw [e1] at HH
    clear e1
    go_enter Tryd.func68, Tryd.ntmps68
    go_wp2_with fail
    go_ret
    exact ⟨ret_b (by rw [HH.out]; rfl), Below.refl _ _⟩
set_option maxHeartbeats 4000000 in
set_option maxRecDepth 100000 in
theorem isN_any (c : UInt8) (w : World) : Calls Tryd.prog 65 #[.int .u8 c.toNat] w fun e w' => e = .returned (.bool (isN c)) ∧ Below w.heap.size w w' := by
  have HH : Hid (isN c = ((decide (97 ≤ c.toNat) && decide (c.toNat ≤ 122)) || decide (c.toNat = 95))) := rfl
  by_cases h0 : (c.toNat : Int) = 95
  · have e0 : c.toNat = 95 := by omega
    rw [decide_eq_true e0] at HH
    have h1 : ¬ (97 : Int) ≤ (c.toNat : Int) := by omega
    have j0 : ((c.toNat : Int) == 95) = true := by rw [beq_iff_eq]; exact h0
    clear h0 e0
    go_enter Tryd.func65, Tryd.ntmps65
    go_wp2_with fail
    go_ret
    exact ⟨ret_b (by rw [HH.out]; simp), Below.refl _ _⟩
  · have e0 : ¬ c.toNat = 95 := by omega
    rw [decide_eq_false e0] at HH
    have j0 : ((c.toNat : Int) == 95) = false := by rw [beq_eq_false_iff_ne]; exact h0
    clear h0 e0
    by_cases h1 : (97 : Int) ≤ (c.toNat : Int)
    · have e1 : decide (97 ≤ c.toNat) = true := decide_eq_true (by omega)
      by_cases h2 : (c.toNat : Int) ≤ 122
      · have e2 : decide (c.toNat ≤ 122) = true := decide_eq_true (by omega)
        rw [e1, e2] at HH
        clear e1 e2
        go_enter Tryd.func65, Tryd.ntmps65
        go_wp2_with fail
        go_ret
        exact ⟨ret_b (by rw [HH.out]; rfl), Below.refl _ _⟩
      · have e2 : decide (c.toNat ≤ 122) = false := decide_eq_false (by omega)
        rw [e1, e2] at HH
        clear e1 e2
        go_enter Tryd.func65, Tryd.ntmps65
        go_wp2_with fail
        go_ret
        exact ⟨ret_b (by rw [HH.out]; rfl), Below.refl _ _⟩
    · have e1 : decide (97 ≤ c.toNat) = false := decide_eq_false (by omega)
      rw [e1] at HH
      clear e1
      go_enter Tryd.func65, Tryd.ntmps65
      go_wp2_with fail
      go_ret
      exact ⟨ret_b (by rw [HH.out]; rfl), Below.refl _ _⟩
set_option maxHeartbeats 8000000 in
set_option maxRecDepth 100000 in
theorem run_name (R : Nat) (t : ByteArray) (iv : Value) (p d m : Nat) (w : World) (hr : RdAt w R t iv p d) (hp : p ≤ t.size) (hs : t.size ≤ 4000) (hm : m ≤ 4000) (Q : Ending → World → Prop)
    (h1 : run isN t m p = p → ∀ W, But R w W → Q (stp p) W) (h2 : ¬ run isN t m p = p → ∀ W, RdAt W R t iv (run isN t m p) d → But R w W → Q (.returned (.string (t.extract p (run isN t m p)))) W) :
    Calls Tryd.prog 64 #[.pointer (some ⟨R, 0, none⟩), .func (.func 65) #[] #[], .int .i64 m] w Q := by
  obtain ⟨⟨c0, c1, c2, c3⟩, hf⟩ := hr.cells
  have HK := fun c W => isN_any c W
  have HR0 : Hid (RdAt w R t iv p d) := hr
  have HP1 : Hid (run isN t m p = p → ∀ W, But R w W → Q (stp p) W) := h1
  have HP2 : Hid (¬ run isN t m p = p → ∀ W, RdAt W R t iv (run isN t m p) d → But R w W → Q (.returned (.string (t.extract p (run isN t m p)))) W) := h2
  clear hr h1 h2
  go_enter Tryd.func64, Tryd.ntmps64
  go_wp2_with fail
  clear c0 c1 c2 c3 hf
  go_loopg [] (t.size + 1) (fun g wr => ∃ q : Nat, RdAt wr R t iv q d ∧ But R w wr ∧ p ≤ q ∧ q - p ≤ m ∧ q ≤ t.size ∧ t.size - q < g ∧ run isN t (m - (q - p)) q = run isN t m p)
  case atStart => exact ⟨p, HR0.out, But.refl _ _, Nat.le_refl _, by omega, hp, by omega, by rw [Nat.sub_self, Nat.sub_zero]⟩
  case round =>
    obtain ⟨q, hrr, hbt, hpq, hqm, hqs, hg, he⟩ := hrel
    obtain ⟨⟨c0, c1, c2, c3⟩, hf⟩ := hrr.cells
    have g0 := fun d os => cell_regrown c0 d os
    have g2 := fun d os => cell_regrown c2 d os
    have HRR : Hid (RdAt wr R t iv q d) := hrr
    have HBT : Hid (But R w wr) := hbt
    have HE : Hid (run isN t (m - (q - p)) q = run isN t m p) := he
    clear hrr hbt HR0 he
    have iq0 : (0 : Int) ≤ (q : Int) := Int.natCast_nonneg _
    by_cases hlt : q < t.size
    · have iq : (q : Int) < (t.size : Int) := Int.ofNat_lt.2 hlt
      have iqd : decide ((q : Int) < (t.size : Int)) = true := decide_eq_true iq
      have iqe : decide (q < t.size) = true := decide_eq_true hlt
      have hwi : IntKind.i64.wrap ((q : Int) - (p : Int)) = (q : Int) - (p : Int) := i64_s (by omega) (by omega)
      by_cases hlm : q - p < m
      · have im : (q : Int) - (p : Int) < (m : Int) := by clear hwi; omega
        have imd : decide ((q : Int) - (p : Int) < (m : Int)) = true := decide_eq_true im
        have hstep : run isN t (m - (q - p)) q = if isN (t[q]'hlt) then run isN t (m - (q + 1 - p)) (q + 1) else q := by
          rw [show m - (q - p) = (m - (q + 1 - p)) + 1 by clear hwi; omega, run, dif_pos hlt]
        have K1 : Hid (∀ d os, Calls Tryd.prog 65 #[.int .u8 (t[q]'hlt).toNat] (grow (redrawn wr d) os) fun e w'' => e = .returned (.bool (isN (t[q]'hlt))) ∧ ∃ p : Regrown, w'' = grow (redrawn wr p.d) p.os) := fun d os => Calls.regrown_of (HK _ _)
        cases hfc : isN (t[q]'hlt)
        · rw [hfc] at K1 hstep
          have HEQ : Hid (q = run isN t m p) := by
            show _ = _
            have h1 := HE.out
            rw [hstep] at h1
            exact h1
          clear hstep hfc HE HK
          go_wp2_with fail
          refine wp_region_quiet_below (by kernel_rfl) (by kernel_rfl) ?_
          repeat (first | go_big_quiet_skip | quiet_step (first | (go_at_call 65; exact K1.out _ _)))
          refine wpQuiet_nil ?_
          intro _ hw'
          obtain ⟨⟨dq, os⟩, hw''⟩ := hw'
          subst hw''
          have kR := below_regrown wr dq os
          have rV := HRR.out.below kR
          have bV := HBT.out.trans (But.of_below kR)
          clear g0 g2 c0 c1 c2 c3 hf kR HRR HBT
          generalize grow (redrawn wr dq) os = V at *
          obtain ⟨⟨c0, c1, c2, c3⟩, hf⟩ := rV.cells
          have f2 := hf 2
          have he := HEQ.out
          have HV : Hid (RdAt V R t iv q d) := rV
          have HBV : Hid (But R w V) := bV
          by_cases hqp : q = p
          · have HQ : Hid (run isN t m p = p) := by
              show _ = _
              rw [← he, hqp]
            subst hqp
            have HG := giveUp_any R t iv q d V HV.out
            clear he rV bV
            go_wp2_with fail
            refine HG.mono ?_
            rintro e W ⟨rfl, rfl⟩
            go_wp2_with fail
            exact ⟨rfl, HP1.out HQ.out _ HBV.out⟩
          · have jq : ((q : Int) == (p : Int)) = false := by
              rw [beq_eq_false_iff_ne]
              exact fun h => hqp (Int.ofNat_inj.1 h)
            have HQ : Hid (Q (.returned (.string (t.extract p q))) V) := by
              have h := HP2.out (by rw [← he]; exact hqp) V (by rw [← he]; exact rV) bV
              rw [← he] at h
              exact h
            have lpq : (p : Int) ≤ (q : Int) := Int.ofNat_le.2 hpq
            have lqs : (q : Int) ≤ (t.size : Int) := Int.ofNat_le.2 hqs
            have lp0 : (0 : Int) ≤ (p : Int) := Int.natCast_nonneg _
            have HQ2 : Hid (∀ z, Q (.returned (.string (t.extract p q))) (V.drewN z)) := fun z => by
              have h := HP2.out (by rw [← he]; exact hqp) (V.drewN z) (by rw [← he]; exact rV) ⟨bV.os, bV.tape, bV.output, bV.size, bV.block⟩
              rw [← he] at h
              exact h
            clear he hqp rV bV HQ
            go_wp2_with fail
            go_quiet (fail)
            go_wp2_with fail
            exact HQ2.out _
        · rw [hfc] at K1 hstep
          have HE2 : Hid (run isN t (m - (q + 1 - p)) (q + 1) = run isN t m p) := by
            show _ = _
            rw [← HE.out, hstep]
            rfl
          have hw1 : wrap64 ((q : Int) + 1) = ((q + 1 : Nat) : Int) := by unfold wrap64; clear hwi; omega
          clear hstep hfc HE HK
          go_wp2_with fail
          refine wp_region_quiet_below (by kernel_rfl) (by kernel_rfl) ?_
          repeat (first | go_big_quiet_skip | quiet_step (first | (go_at_call 65; exact K1.out _ _)))
          refine wpQuiet_nil ?_
          intro _ hw'
          obtain ⟨⟨dq, os⟩, hw''⟩ := hw'
          subst hw''
          have kR := below_regrown wr dq os
          have rV := HRR.out.below kR
          have bV := HBT.out.trans (But.of_below kR)
          clear g0 g2 c0 c1 c2 c3 hf kR HRR HBT
          generalize grow (redrawn wr dq) os = V at *
          obtain ⟨⟨c0, c1, c2, c3⟩, hf⟩ := rV.cells
          have f2 := hf 2
          have rV2 := rd_at rV (q + 1)
          have bV2 := bV.setCell (i := 2) (.int .i64 ((q + 1 : Nat) : Int))
          go_wp2_with fail
          clear hw1 hwi
          go_roundg (t.size - q)
          case measure => omega
          case rel => exact ⟨q + 1, rV2, bV2, by omega, by omega, by omega, by omega, HE2.out⟩
      · have im : ¬ (q : Int) - (p : Int) < (m : Int) := by clear hwi; omega
        have imd : decide ((q : Int) - (p : Int) < (m : Int)) = false := decide_eq_false im
        have HEQ : Hid (q = run isN t m p) := by
          show _ = _
          have h1 := HE.out
          rw [show m - (q - p) = 0 by clear hwi; omega] at h1
          exact h1
        have K1 : Hid (True) := trivial
        clear HE HK
        go_wp2_with fail
        refine wp_region_quiet_below (by kernel_rfl) (by kernel_rfl) ?_
        repeat (first | go_big_quiet_skip | quiet_step (first | (go_at_call 65; fail)))
        refine wpQuiet_nil ?_
        intro _ hw'
        obtain ⟨⟨dq, os⟩, hw''⟩ := hw'
        subst hw''
        have kR := below_regrown wr dq os
        have rV := HRR.out.below kR
        have bV := HBT.out.trans (But.of_below kR)
        clear g0 g2 c0 c1 c2 c3 hf kR HRR HBT
        generalize grow (redrawn wr dq) os = V at *
        obtain ⟨⟨c0, c1, c2, c3⟩, hf⟩ := rV.cells
        have f2 := hf 2
        have he := HEQ.out
        have HV : Hid (RdAt V R t iv q d) := rV
        have HBV : Hid (But R w V) := bV
        by_cases hqp : q = p
        · have HQ : Hid (run isN t m p = p) := by
            show _ = _
            rw [← he, hqp]
          subst hqp
          have HG := giveUp_any R t iv q d V HV.out
          clear he rV bV
          go_wp2_with fail
          refine HG.mono ?_
          rintro e W ⟨rfl, rfl⟩
          go_wp2_with fail
          exact ⟨rfl, HP1.out HQ.out _ HBV.out⟩
        · have jq : ((q : Int) == (p : Int)) = false := by
            rw [beq_eq_false_iff_ne]
            exact fun h => hqp (Int.ofNat_inj.1 h)
          have HQ : Hid (Q (.returned (.string (t.extract p q))) V) := by
            have h := HP2.out (by rw [← he]; exact hqp) V (by rw [← he]; exact rV) bV
            rw [← he] at h
            exact h
          have lpq : (p : Int) ≤ (q : Int) := Int.ofNat_le.2 hpq
          have lqs : (q : Int) ≤ (t.size : Int) := Int.ofNat_le.2 hqs
          have lp0 : (0 : Int) ≤ (p : Int) := Int.natCast_nonneg _
          have HQ2 : Hid (∀ z, Q (.returned (.string (t.extract p q))) (V.drewN z)) := fun z => by
            have h := HP2.out (by rw [← he]; exact hqp) (V.drewN z) (by rw [← he]; exact rV) ⟨bV.os, bV.tape, bV.output, bV.size, bV.block⟩
            rw [← he] at h
            exact h
          clear he hqp rV bV HQ
          go_wp2_with fail
          go_quiet (fail)
          go_wp2_with fail
          exact HQ2.out _
    · have iq : ¬ (q : Int) < (t.size : Int) := fun h => hlt (Int.ofNat_lt.1 h)
      have iqd : decide ((q : Int) < (t.size : Int)) = false := decide_eq_false iq
      have iqe : decide (q < t.size) = false := decide_eq_false hlt
      have HEQ : Hid (q = run isN t m p) := by
        show _ = _
        have h1 := HE.out
        rw [← h1]
        cases m - (q - p) with
        | zero => rfl
        | succ j => rw [run, dif_neg hlt]
      clear HE HK
      go_wp2_with fail
      refine wp_region_quiet_below (by kernel_rfl) (by kernel_rfl) ?_
      repeat (first | go_big_quiet_skip | quiet_step (first | (go_at_call 65; fail)))
      refine wpQuiet_nil ?_
      intro _ hw'
      obtain ⟨⟨dq, os⟩, hw''⟩ := hw'
      subst hw''
      have kR := below_regrown wr dq os
      have rV := HRR.out.below kR
      have bV := HBT.out.trans (But.of_below kR)
      clear g0 g2 c0 c1 c2 c3 hf kR HRR HBT
      generalize grow (redrawn wr dq) os = V at *
      obtain ⟨⟨c0, c1, c2, c3⟩, hf⟩ := rV.cells
      have f2 := hf 2
      have he := HEQ.out
      have HV : Hid (RdAt V R t iv q d) := rV
      have HBV : Hid (But R w V) := bV
      by_cases hqp : q = p
      · have HQ : Hid (run isN t m p = p) := by
          show _ = _
          rw [← he, hqp]
        subst hqp
        have HG := giveUp_any R t iv q d V HV.out
        clear he rV bV
        go_wp2_with fail
        refine HG.mono ?_
        rintro e W ⟨rfl, rfl⟩
        go_wp2_with fail
        exact ⟨rfl, HP1.out HQ.out _ HBV.out⟩
      · have jq : ((q : Int) == (p : Int)) = false := by
          rw [beq_eq_false_iff_ne]
          exact fun h => hqp (Int.ofNat_inj.1 h)
        have HQ : Hid (Q (.returned (.string (t.extract p q))) V) := by
          have h := HP2.out (by rw [← he]; exact hqp) V (by rw [← he]; exact rV) bV
          rw [← he] at h
          exact h
        have lpq : (p : Int) ≤ (q : Int) := Int.ofNat_le.2 hpq
        have lqs : (q : Int) ≤ (t.size : Int) := Int.ofNat_le.2 hqs
        have lp0 : (0 : Int) ≤ (p : Int) := Int.natCast_nonneg _
        have HQ2 : Hid (∀ z, Q (.returned (.string (t.extract p q))) (V.drewN z)) := fun z => by
          have h := HP2.out (by rw [← he]; exact hqp) (V.drewN z) (by rw [← he]; exact rV) ⟨bV.os, bV.tape, bV.output, bV.size, bV.block⟩
          rw [← he] at h
          exact h
        clear he hqp rV bV HQ
        go_wp2_with fail
        go_quiet (fail)
        go_wp2_with fail
        exact HQ2.out _
set_option maxHeartbeats 8000000 in
set_option maxRecDepth 100000 in
theorem run_digit (R : Nat) (t : ByteArray) (iv : Value) (p d m : Nat) (w : World) (hr : RdAt w R t iv p d) (hp : p ≤ t.size) (hs : t.size ≤ 4000) (hm : m ≤ 4000) (Q : Ending → World → Prop)
    (h1 : run isD t m p = p → ∀ W, But R w W → Q (stp p) W) (h2 : ¬ run isD t m p = p → ∀ W, RdAt W R t iv (run isD t m p) d → But R w W → Q (.returned (.string (t.extract p (run isD t m p)))) W) :
    Calls Tryd.prog 64 #[.pointer (some ⟨R, 0, none⟩), .func (.func 68) #[] #[], .int .i64 m] w Q := by
  obtain ⟨⟨c0, c1, c2, c3⟩, hf⟩ := hr.cells
  have HK := fun c W => isD_any c W
  have HR0 : Hid (RdAt w R t iv p d) := hr
  have HP1 : Hid (run isD t m p = p → ∀ W, But R w W → Q (stp p) W) := h1
  have HP2 : Hid (¬ run isD t m p = p → ∀ W, RdAt W R t iv (run isD t m p) d → But R w W → Q (.returned (.string (t.extract p (run isD t m p)))) W) := h2
  clear hr h1 h2
  go_enter Tryd.func64, Tryd.ntmps64
  go_wp2_with fail
  clear c0 c1 c2 c3 hf
  go_loopg [] (t.size + 1) (fun g wr => ∃ q : Nat, RdAt wr R t iv q d ∧ But R w wr ∧ p ≤ q ∧ q - p ≤ m ∧ q ≤ t.size ∧ t.size - q < g ∧ run isD t (m - (q - p)) q = run isD t m p)
  case atStart => exact ⟨p, HR0.out, But.refl _ _, Nat.le_refl _, by omega, hp, by omega, by rw [Nat.sub_self, Nat.sub_zero]⟩
  case round =>
    obtain ⟨q, hrr, hbt, hpq, hqm, hqs, hg, he⟩ := hrel
    obtain ⟨⟨c0, c1, c2, c3⟩, hf⟩ := hrr.cells
    have g0 := fun d os => cell_regrown c0 d os
    have g2 := fun d os => cell_regrown c2 d os
    have HRR : Hid (RdAt wr R t iv q d) := hrr
    have HBT : Hid (But R w wr) := hbt
    have HE : Hid (run isD t (m - (q - p)) q = run isD t m p) := he
    clear hrr hbt HR0 he
    have iq0 : (0 : Int) ≤ (q : Int) := Int.natCast_nonneg _
    by_cases hlt : q < t.size
    · have iq : (q : Int) < (t.size : Int) := Int.ofNat_lt.2 hlt
      have iqd : decide ((q : Int) < (t.size : Int)) = true := decide_eq_true iq
      have iqe : decide (q < t.size) = true := decide_eq_true hlt
      have hwi : IntKind.i64.wrap ((q : Int) - (p : Int)) = (q : Int) - (p : Int) := i64_s (by omega) (by omega)
      by_cases hlm : q - p < m
      · have im : (q : Int) - (p : Int) < (m : Int) := by clear hwi; omega
        have imd : decide ((q : Int) - (p : Int) < (m : Int)) = true := decide_eq_true im
        have hstep : run isD t (m - (q - p)) q = if isD (t[q]'hlt) then run isD t (m - (q + 1 - p)) (q + 1) else q := by
          rw [show m - (q - p) = (m - (q + 1 - p)) + 1 by clear hwi; omega, run, dif_pos hlt]
        have K1 : Hid (∀ d os, Calls Tryd.prog 68 #[.int .u8 (t[q]'hlt).toNat] (grow (redrawn wr d) os) fun e w'' => e = .returned (.bool (isD (t[q]'hlt))) ∧ ∃ p : Regrown, w'' = grow (redrawn wr p.d) p.os) := fun d os => Calls.regrown_of (HK _ _)
        cases hfc : isD (t[q]'hlt)
        · rw [hfc] at K1 hstep
          have HEQ : Hid (q = run isD t m p) := by
            show _ = _
            have h1 := HE.out
            rw [hstep] at h1
            exact h1
          clear hstep hfc HE HK
          go_wp2_with fail
          refine wp_region_quiet_below (by kernel_rfl) (by kernel_rfl) ?_
          repeat (first | go_big_quiet_skip | quiet_step (first | (go_at_call 68; exact K1.out _ _)))
          refine wpQuiet_nil ?_
          intro _ hw'
          obtain ⟨⟨dq, os⟩, hw''⟩ := hw'
          subst hw''
          have kR := below_regrown wr dq os
          have rV := HRR.out.below kR
          have bV := HBT.out.trans (But.of_below kR)
          clear g0 g2 c0 c1 c2 c3 hf kR HRR HBT
          generalize grow (redrawn wr dq) os = V at *
          obtain ⟨⟨c0, c1, c2, c3⟩, hf⟩ := rV.cells
          have f2 := hf 2
          have he := HEQ.out
          have HV : Hid (RdAt V R t iv q d) := rV
          have HBV : Hid (But R w V) := bV
          by_cases hqp : q = p
          · have HQ : Hid (run isD t m p = p) := by
              show _ = _
              rw [← he, hqp]
            subst hqp
            have HG := giveUp_any R t iv q d V HV.out
            clear he rV bV
            go_wp2_with fail
            refine HG.mono ?_
            rintro e W ⟨rfl, rfl⟩
            go_wp2_with fail
            exact ⟨rfl, HP1.out HQ.out _ HBV.out⟩
          · have jq : ((q : Int) == (p : Int)) = false := by
              rw [beq_eq_false_iff_ne]
              exact fun h => hqp (Int.ofNat_inj.1 h)
            have HQ : Hid (Q (.returned (.string (t.extract p q))) V) := by
              have h := HP2.out (by rw [← he]; exact hqp) V (by rw [← he]; exact rV) bV
              rw [← he] at h
              exact h
            have lpq : (p : Int) ≤ (q : Int) := Int.ofNat_le.2 hpq
            have lqs : (q : Int) ≤ (t.size : Int) := Int.ofNat_le.2 hqs
            have lp0 : (0 : Int) ≤ (p : Int) := Int.natCast_nonneg _
            have HQ2 : Hid (∀ z, Q (.returned (.string (t.extract p q))) (V.drewN z)) := fun z => by
              have h := HP2.out (by rw [← he]; exact hqp) (V.drewN z) (by rw [← he]; exact rV) ⟨bV.os, bV.tape, bV.output, bV.size, bV.block⟩
              rw [← he] at h
              exact h
            clear he hqp rV bV HQ
            go_wp2_with fail
            go_quiet (fail)
            go_wp2_with fail
            exact HQ2.out _
        · rw [hfc] at K1 hstep
          have HE2 : Hid (run isD t (m - (q + 1 - p)) (q + 1) = run isD t m p) := by
            show _ = _
            rw [← HE.out, hstep]
            rfl
          have hw1 : wrap64 ((q : Int) + 1) = ((q + 1 : Nat) : Int) := by unfold wrap64; clear hwi; omega
          clear hstep hfc HE HK
          go_wp2_with fail
          refine wp_region_quiet_below (by kernel_rfl) (by kernel_rfl) ?_
          repeat (first | go_big_quiet_skip | quiet_step (first | (go_at_call 68; exact K1.out _ _)))
          refine wpQuiet_nil ?_
          intro _ hw'
          obtain ⟨⟨dq, os⟩, hw''⟩ := hw'
          subst hw''
          have kR := below_regrown wr dq os
          have rV := HRR.out.below kR
          have bV := HBT.out.trans (But.of_below kR)
          clear g0 g2 c0 c1 c2 c3 hf kR HRR HBT
          generalize grow (redrawn wr dq) os = V at *
          obtain ⟨⟨c0, c1, c2, c3⟩, hf⟩ := rV.cells
          have f2 := hf 2
          have rV2 := rd_at rV (q + 1)
          have bV2 := bV.setCell (i := 2) (.int .i64 ((q + 1 : Nat) : Int))
          go_wp2_with fail
          clear hw1 hwi
          go_roundg (t.size - q)
          case measure => omega
          case rel => exact ⟨q + 1, rV2, bV2, by omega, by omega, by omega, by omega, HE2.out⟩
      · have im : ¬ (q : Int) - (p : Int) < (m : Int) := by clear hwi; omega
        have imd : decide ((q : Int) - (p : Int) < (m : Int)) = false := decide_eq_false im
        have HEQ : Hid (q = run isD t m p) := by
          show _ = _
          have h1 := HE.out
          rw [show m - (q - p) = 0 by clear hwi; omega] at h1
          exact h1
        have K1 : Hid (True) := trivial
        clear HE HK
        go_wp2_with fail
        refine wp_region_quiet_below (by kernel_rfl) (by kernel_rfl) ?_
        repeat (first | go_big_quiet_skip | quiet_step (first | (go_at_call 68; fail)))
        refine wpQuiet_nil ?_
        intro _ hw'
        obtain ⟨⟨dq, os⟩, hw''⟩ := hw'
        subst hw''
        have kR := below_regrown wr dq os
        have rV := HRR.out.below kR
        have bV := HBT.out.trans (But.of_below kR)
        clear g0 g2 c0 c1 c2 c3 hf kR HRR HBT
        generalize grow (redrawn wr dq) os = V at *
        obtain ⟨⟨c0, c1, c2, c3⟩, hf⟩ := rV.cells
        have f2 := hf 2
        have he := HEQ.out
        have HV : Hid (RdAt V R t iv q d) := rV
        have HBV : Hid (But R w V) := bV
        by_cases hqp : q = p
        · have HQ : Hid (run isD t m p = p) := by
            show _ = _
            rw [← he, hqp]
          subst hqp
          have HG := giveUp_any R t iv q d V HV.out
          clear he rV bV
          go_wp2_with fail
          refine HG.mono ?_
          rintro e W ⟨rfl, rfl⟩
          go_wp2_with fail
          exact ⟨rfl, HP1.out HQ.out _ HBV.out⟩
        · have jq : ((q : Int) == (p : Int)) = false := by
            rw [beq_eq_false_iff_ne]
            exact fun h => hqp (Int.ofNat_inj.1 h)
          have HQ : Hid (Q (.returned (.string (t.extract p q))) V) := by
            have h := HP2.out (by rw [← he]; exact hqp) V (by rw [← he]; exact rV) bV
            rw [← he] at h
            exact h
          have lpq : (p : Int) ≤ (q : Int) := Int.ofNat_le.2 hpq
          have lqs : (q : Int) ≤ (t.size : Int) := Int.ofNat_le.2 hqs
          have lp0 : (0 : Int) ≤ (p : Int) := Int.natCast_nonneg _
          have HQ2 : Hid (∀ z, Q (.returned (.string (t.extract p q))) (V.drewN z)) := fun z => by
            have h := HP2.out (by rw [← he]; exact hqp) (V.drewN z) (by rw [← he]; exact rV) ⟨bV.os, bV.tape, bV.output, bV.size, bV.block⟩
            rw [← he] at h
            exact h
          clear he hqp rV bV HQ
          go_wp2_with fail
          go_quiet (fail)
          go_wp2_with fail
          exact HQ2.out _
    · have iq : ¬ (q : Int) < (t.size : Int) := fun h => hlt (Int.ofNat_lt.1 h)
      have iqd : decide ((q : Int) < (t.size : Int)) = false := decide_eq_false iq
      have iqe : decide (q < t.size) = false := decide_eq_false hlt
      have HEQ : Hid (q = run isD t m p) := by
        show _ = _
        have h1 := HE.out
        rw [← h1]
        cases m - (q - p) with
        | zero => rfl
        | succ j => rw [run, dif_neg hlt]
      clear HE HK
      go_wp2_with fail
      refine wp_region_quiet_below (by kernel_rfl) (by kernel_rfl) ?_
      repeat (first | go_big_quiet_skip | quiet_step (first | (go_at_call 68; fail)))
      refine wpQuiet_nil ?_
      intro _ hw'
      obtain ⟨⟨dq, os⟩, hw''⟩ := hw'
      subst hw''
      have kR := below_regrown wr dq os
      have rV := HRR.out.below kR
      have bV := HBT.out.trans (But.of_below kR)
      clear g0 g2 c0 c1 c2 c3 hf kR HRR HBT
      generalize grow (redrawn wr dq) os = V at *
      obtain ⟨⟨c0, c1, c2, c3⟩, hf⟩ := rV.cells
      have f2 := hf 2
      have he := HEQ.out
      have HV : Hid (RdAt V R t iv q d) := rV
      have HBV : Hid (But R w V) := bV
      by_cases hqp : q = p
      · have HQ : Hid (run isD t m p = p) := by
          show _ = _
          rw [← he, hqp]
        subst hqp
        have HG := giveUp_any R t iv q d V HV.out
        clear he rV bV
        go_wp2_with fail
        refine HG.mono ?_
        rintro e W ⟨rfl, rfl⟩
        go_wp2_with fail
        exact ⟨rfl, HP1.out HQ.out _ HBV.out⟩
      · have jq : ((q : Int) == (p : Int)) = false := by
          rw [beq_eq_false_iff_ne]
          exact fun h => hqp (Int.ofNat_inj.1 h)
        have HQ : Hid (Q (.returned (.string (t.extract p q))) V) := by
          have h := HP2.out (by rw [← he]; exact hqp) V (by rw [← he]; exact rV) bV
          rw [← he] at h
          exact h
        have lpq : (p : Int) ≤ (q : Int) := Int.ofNat_le.2 hpq
        have lqs : (q : Int) ≤ (t.size : Int) := Int.ofNat_le.2 hqs
        have lp0 : (0 : Int) ≤ (p : Int) := Int.natCast_nonneg _
        have HQ2 : Hid (∀ z, Q (.returned (.string (t.extract p q))) (V.drewN z)) := fun z => by
          have h := HP2.out (by rw [← he]; exact hqp) (V.drewN z) (by rw [← he]; exact rV) ⟨bV.os, bV.tape, bV.output, bV.size, bV.block⟩
          rw [← he] at h
          exact h
        clear he hqp rV bV HQ
        go_wp2_with fail
        go_quiet (fail)
        go_wp2_with fail
        exact HQ2.out _
end Fmt
end Go.Proofs.YtbhoklhcdefabaaDoor
