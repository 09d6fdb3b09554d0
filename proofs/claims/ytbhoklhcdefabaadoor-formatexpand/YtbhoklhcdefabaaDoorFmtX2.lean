/- The reference's expander: word. -/
import Derived.Test.YtbhoklhcdefabaaDoorFmtX1
namespace Go.Proofs.YtbhoklhcdefabaaDoor
open Go.ChangeShapes Go.WideShapes Go.ChangeAt Go.RowKit Go.Maps Go.Sort
namespace Fmt
def nmS : ByteArray := ⟨#[97, 98, 99, 100, 101, 102, 103, 104, 105, 106, 107, 108, 109, 110, 111, 112, 113, 114, 115, 116, 117, 118, 119, 120, 121, 122, 95]⟩
set_option maxRecDepth 100000 in
theorem set_all : ∀ n, n < 256 → decide (0 ≤ Lib.indexByte nmS.data.toList (UInt8.ofNat n)) = isN (UInt8.ofNat n) := by decide
theorem set_is (c : UInt8) : decide (0 ≤ Lib.indexByte nmS.data.toList c) = isN c := by
  have h := set_all c.toNat (UInt8.toNat_lt c)
  rwa [UInt8.ofNat_toNat] at h
theorem u8_self' (c : UInt8) : ((c.toNat : Int)).toNat.toUInt8 = c := by
  rw [Int.toNat_natCast]
  exact UInt8.ofNat_toNat
set_option maxHeartbeats 8000000 in
set_option maxRecDepth 100000 in
theorem word_any (X : Nat) (t : ByteArray) (iv : Value) (p : Nat) (w : World) (h : ExAt w X t iv p (-1)) (hp : p ≤ t.size) (hs : t.size ≤ 4000) :
    Calls Tryd.prog 52 #[.pointer (some ⟨X, 0, none⟩), .string nmS] w fun e w' => e = .returned (.string (t.extract p (nm t p))) ∧ ExAt w' X t iv (nm t p) (-1) ∧ But X w w' := by
  obtain ⟨⟨c0, c1, c2, c3⟩, hf⟩ := h.cells
  have HX0 : Hid (ExAt w X t iv p (-1)) := h
  obtain ⟨RR, hRR⟩ : ∃ RR, nm t p = RR := ⟨_, rfl⟩
  rw [hRR]
  have HRR0 : Hid (run isN t t.size p = RR) := hRR
  have HSET := set_is
  generalize nmS = ns at *
  clear h hRR
  go_enter Tryd.func52, Tryd.ntmps52
  go_wp2_with fail
  clear c0 c1 c2 c3 hf
  go_loopg [] (t.size + 1) (fun g wr => ∃ q : Nat, ExAt wr X t iv q (-1) ∧ But X w wr ∧ p ≤ q ∧ q ≤ t.size ∧ t.size - q < g ∧ run isN t (t.size - (q - p)) q = RR)
  case atStart => exact ⟨p, HX0.out, But.refl _ _, Nat.le_refl _, hp, by omega, by rw [Nat.sub_self, Nat.sub_zero]; exact HRR0.out⟩
  case round =>
    obtain ⟨q, hrr, hbt, hpq, hqs, hg, he⟩ := hrel
    obtain ⟨⟨c0, c1, c2, c3⟩, hf⟩ := hrr.cells
    have g0 := fun d os => cell_regrown c0 d os
    have g1 := fun d os => cell_regrown c1 d os
    have HRR : Hid (ExAt wr X t iv q (-1)) := hrr
    have HBT : Hid (But X w wr) := hbt
    have HE : Hid (run isN t (t.size - (q - p)) q = RR) := he
    clear hrr hbt HX0 he HRR0
    have iq0 : (0 : Int) ≤ (q : Int) := Int.natCast_nonneg _
    by_cases hlt : q < t.size
    · have iq : (q : Int) < (t.size : Int) := Int.ofNat_lt.2 hlt
      have iqd : decide ((q : Int) < (t.size : Int)) = true := decide_eq_true iq
      have iqe : decide (q < t.size) = true := decide_eq_true hlt
      have hstep : run isN t (t.size - (q - p)) q = if isN (t[q]'hlt) then run isN t (t.size - (q + 1 - p)) (q + 1) else q := by
        rw [show t.size - (q - p) = (t.size - (q + 1 - p)) + 1 by omega, run, dif_pos hlt]
      have HXB := fun W => Tryd.strings_IndexByte ns ((t[q]'hlt).toNat : Int) W
      rw [u8_self'] at HXB
      have hei := HSET (t[q]'hlt)
      generalize Lib.indexByte ns.data.toList (t[q]'hlt) = ix at *
      have K1 : Hid (∀ d os, Calls Tryd.prog 17 #[.string ns, .int .u8 (t[q]'hlt).toNat] (grow (redrawn wr d) os) fun e w'' => e = .returned (.int .i64 ix) ∧ ∃ p : Regrown, w'' = grow (redrawn wr p.d) p.os) := fun d os => Calls.regrown_of ((HXB _).mono fun e w' ⟨h1, h2⟩ => ⟨h1, by rw [h2]; exact Below.refl _ _⟩)
      clear HXB
      cases hfc : isN (t[q]'hlt)
      · rw [hfc] at hei hstep
        have ie : ¬ 0 ≤ ix := of_decide_eq_false hei
        have HEQ : Hid (q = RR) := by
          show _ = _
          have h1 := HE.out
          rw [hstep] at h1
          exact h1
        clear hstep hfc HE hei
        go_wp2_with fail
        refine wp_region_quiet_below (by kernel_rfl) (by kernel_rfl) ?_
        repeat (first | go_big_quiet_skip | quiet_step (first | (go_at_call 17; exact K1.out _ _)))
        refine wpQuiet_nil ?_
        intro _ hw'
        obtain ⟨⟨dq, os⟩, hw''⟩ := hw'
        subst hw''
        have kR := below_regrown wr dq os
        have rV := HRR.out.below kR
        have bV := HBT.out.trans (But.of_below kR)
        clear g0 g1 c0 c1 c2 c3 hf kR HRR HBT K1
        generalize grow (redrawn wr dq) os = V at *
        obtain ⟨⟨c0, c1, c2, c3⟩, hf⟩ := rV.cells
        have f1 := hf 1
        have lpq : (p : Int) ≤ (q : Int) := Int.ofNat_le.2 hpq
        have lqs : (q : Int) ≤ (t.size : Int) := Int.ofNat_le.2 hqs
        have lp0 : (0 : Int) ≤ (p : Int) := Int.natCast_nonneg _
        have HO : Hid (∀ z, ExAt (V.drewN z) X t iv RR (-1) ∧ But X w (V.drewN z)) := fun z => by
          rw [← HEQ.out]
          exact ⟨rV, ⟨bV.os, bV.tape, bV.output, bV.size, bV.block⟩⟩
        have HQ : Hid (Ending.returned (.string (t.extract p q)) = Ending.returned (.string (t.extract p RR))) := by
          show _ = _
          rw [← HEQ.out]
        clear rV bV HEQ
        go_wp2_with fail
        go_quiet (fail)
        go_wp2_with fail
        go_ret
        exact ⟨HQ.out, HO.out _⟩
      · rw [hfc] at hei hstep
        have ie : 0 ≤ ix := of_decide_eq_true hei
        have HE2 : Hid (run isN t (t.size - (q + 1 - p)) (q + 1) = RR) := by
          show _ = _
          rw [← HE.out, hstep]
          rfl
        have hw1 : wrap64 ((q : Int) + 1) = ((q + 1 : Nat) : Int) := by unfold wrap64; omega
        clear hstep hfc HE hei
        go_wp2_with fail
        refine wp_region_quiet_below (by kernel_rfl) (by kernel_rfl) ?_
        repeat (first | go_big_quiet_skip | quiet_step (first | (go_at_call 17; exact K1.out _ _)))
        refine wpQuiet_nil ?_
        intro _ hw'
        obtain ⟨⟨dq, os⟩, hw''⟩ := hw'
        subst hw''
        have kR := below_regrown wr dq os
        have rV := HRR.out.below kR
        have bV := HBT.out.trans (But.of_below kR)
        clear g0 g1 c0 c1 c2 c3 hf kR HRR HBT K1
        generalize grow (redrawn wr dq) os = V at *
        obtain ⟨⟨c0, c1, c2, c3⟩, hf⟩ := rV.cells
        have f1 := hf 1
        have rV2 := ex_at rV (q + 1)
        have bV2 := bV.setCell (i := 1) (.int .i64 ((q + 1 : Nat) : Int))
        go_wp2_with fail
        clear hw1
        go_roundg (t.size - q)
        case measure => omega
        case rel => exact ⟨q + 1, rV2, bV2, by omega, by omega, by omega, HE2.out⟩
    · have iq : ¬ (q : Int) < (t.size : Int) := fun h => hlt (Int.ofNat_lt.1 h)
      have iqd : decide ((q : Int) < (t.size : Int)) = false := decide_eq_false iq
      have iqe : decide (q < t.size) = false := decide_eq_false hlt
      have HEQ : Hid (q = RR) := by
        show _ = _
        have h1 := HE.out
        rw [← h1]
        cases t.size - (q - p) with
        | zero => rfl
        | succ j => rw [run, dif_neg hlt]
      have K1 : Hid True := trivial
      clear HE
      go_wp2_with fail
      refine wp_region_quiet_below (by kernel_rfl) (by kernel_rfl) ?_
      repeat (first | go_big_quiet_skip | quiet_step (first | (go_at_call 17; fail)))
      refine wpQuiet_nil ?_
      intro _ hw'
      obtain ⟨⟨dq, os⟩, hw''⟩ := hw'
      subst hw''
      have kR := below_regrown wr dq os
      have rV := HRR.out.below kR
      have bV := HBT.out.trans (But.of_below kR)
      clear g0 g1 c0 c1 c2 c3 hf kR HRR HBT K1
      generalize grow (redrawn wr dq) os = V at *
      obtain ⟨⟨c0, c1, c2, c3⟩, hf⟩ := rV.cells
      have f1 := hf 1
      have lpq : (p : Int) ≤ (q : Int) := Int.ofNat_le.2 hpq
      have lqs : (q : Int) ≤ (t.size : Int) := Int.ofNat_le.2 hqs
      have lp0 : (0 : Int) ≤ (p : Int) := Int.natCast_nonneg _
      have HO : Hid (∀ z, ExAt (V.drewN z) X t iv RR (-1) ∧ But X w (V.drewN z)) := fun z => by
        rw [← HEQ.out]
        exact ⟨rV, ⟨bV.os, bV.tape, bV.output, bV.size, bV.block⟩⟩
      have HQ : Hid (Ending.returned (.string (t.extract p q)) = Ending.returned (.string (t.extract p RR))) := by
        show _ = _
        rw [← HEQ.out]
      clear rV bV HEQ
      go_wp2_with fail
      go_quiet (fail)
      go_wp2_with fail
      go_ret
      exact ⟨HQ.out, HO.out _⟩
end Fmt
end Go.Proofs.YtbhoklhcdefabaaDoor
