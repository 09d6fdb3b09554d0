/- Package split: one part of a split is checked, whatever it is. -/
import Derived.Test.YtckkbmgdaplaaaaDoorSplChk1
namespace Go.Proofs.YtckkbmgdaplaaaaDoor
open Go.ChangeShapes Go.WideShapes Go.ChangeAt Go.RowKit Go.Maps
namespace Spl
open Fo
theorem part_leaf (way pn sz : Int) (n : Nat) (met : List Int) (h : 1 ≤ sz ∧ sz ≤ 9999) : part way 0 pn sz n met = leafP pn n met := by
  unfold part leafP
  rw [if_neg (fun hh => hh h), if_pos rfl]
theorem part_size (way wy pn sz : Int) (n : Nat) (met : List Int) (h : ¬ (1 ≤ sz ∧ sz ≤ 9999)) : part way wy pn sz n met = (4, met) := by
  unfold part
  rw [if_pos h]
theorem part_in (way wy pn sz : Int) (n : Nat) (met : List Int) (h : 1 ≤ sz ∧ sz ≤ 9999) (h0 : wy ≠ 0) : part way wy pn sz n met = if ¬ (wy = 1 ∨ wy = 2) then (5, met) else if wy = way then (5, met) else if n < 2 then (5, met) else if pn ≠ 0 then (5, met) else (0, met) := by
  unfold part
  rw [if_neg (fun hh => hh h), if_neg h0]
set_option maxHeartbeats 8000000 in
set_option maxRecDepth 100000 in
theorem checkPart_any (way wy pn sz : Int) (ad : Option Addr) (n c M : Nat) (met : List Int) (w : World) (hm : MetAt w M met) (hl : met.length ≤ 12) :
    Calls Tryd.prog 48 #[.agg #[.int .i64 wy, .int .i64 pn, .int .i64 sz, .slice ad n c], .int .i64 way, .map (some M)] w fun e w' => e = .returned (.int .i64 (part way wy pn sz n met).1) ∧ MetAt w' M (part way wy pn sz n met).2 ∧ But M w w' := by
  have kb : Below w.heap.size w (w.alloc (.cells #[.int .i64 wy, .int .i64 pn, .int .i64 sz, .slice ad n c] 24)) := (Below.refl _ _).alloc (Nat.le_refl _) _
  have hm1 := hm.keep kb
  have HB : Hid (But M w (w.alloc (.cells #[.int .i64 wy, .int .i64 pn, .int .i64 sz, .slice ad n c] 24))) := But.of_below kb
  have HM : Hid (MetAt (w.alloc (.cells #[.int .i64 wy, .int .i64 pn, .int .i64 sz, .slice ad n c] 24)) M met) := hm1
  have HP := isParam_any sz
  have HL := checkLeaf_any wy pn sz ad n c M met _ hm1 hl
  have HW := isWay_any wy
  clear hm kb hm1 hl
  by_cases hs : 1 ≤ sz ∧ sz ≤ 9999
  · rw [decide_eq_true hs] at HP
    by_cases h0 : wy = 0
    · subst h0
      rw [part_leaf way pn sz n met hs]
      clear hs HW
      go_enter Tryd.func48, Tryd.ntmps48
      go_wp2_with fail
      refine (HP _).mono ?_
      rintro e W ⟨rfl, hW⟩
      subst hW
      go_wp2_with fail
      refine HL.mono ?_
      rintro e W ⟨rfl, mW, bW⟩
      go_wp2_with fail
      go_ret
      exact ⟨rfl, mW, HB.out.trans bW⟩
    · rw [part_in way wy pn sz n met hs h0]
      have j0 : (wy == 0) = false := by rw [beq_eq_false_iff_ne]; exact h0
      clear HL hs h0
      by_cases hw : wy = 1 ∨ wy = 2
      · rw [if_neg (fun h => h hw)]
        rw [decide_eq_true hw] at HW
        clear hw
        by_cases h1 : wy = way
        · rw [if_pos h1]
          have j1 : (wy == way) = true := by rw [beq_iff_eq]; exact h1
          clear h1
          go_enter Tryd.func48, Tryd.ntmps48
          go_wp2_with fail
          refine (HP _).mono ?_
          rintro e W ⟨rfl, hW⟩
          subst hW
          go_wp2_with fail
          refine (HW _).mono ?_
          rintro e W ⟨rfl, hW⟩
          subst hW
          go_wp2_with fail
          go_ret
          exact ⟨rfl, HM.out, HB.out⟩
        · rw [if_neg h1]
          have j1 : (wy == way) = false := by rw [beq_eq_false_iff_ne]; exact h1
          clear h1
          by_cases h2 : n < 2
          · rw [if_pos h2]
            have j2 : (n : Int) < 2 := by omega
            clear h2
            go_enter Tryd.func48, Tryd.ntmps48
            go_wp2_with fail
            refine (HP _).mono ?_
            rintro e W ⟨rfl, hW⟩
            subst hW
            go_wp2_with fail
            refine (HW _).mono ?_
            rintro e W ⟨rfl, hW⟩
            subst hW
            go_wp2_with fail
            go_ret
            exact ⟨rfl, HM.out, HB.out⟩
          · rw [if_neg h2]
            have j2 : ¬ (n : Int) < 2 := by omega
            clear h2
            by_cases h3 : pn = 0
            · rw [if_neg (fun h => h h3)]
              subst h3
              go_enter Tryd.func48, Tryd.ntmps48
              go_wp2_with fail
              refine (HP _).mono ?_
              rintro e W ⟨rfl, hW⟩
              subst hW
              go_wp2_with fail
              refine (HW _).mono ?_
              rintro e W ⟨rfl, hW⟩
              subst hW
              go_wp2_with fail
              go_ret
              exact ⟨rfl, HM.out, HB.out⟩
            · rw [if_pos h3]
              have j3 : (pn != 0) = true := by rw [bne_iff_ne]; exact h3
              clear h3
              go_enter Tryd.func48, Tryd.ntmps48
              go_wp2_with fail
              refine (HP _).mono ?_
              rintro e W ⟨rfl, hW⟩
              subst hW
              go_wp2_with fail
              refine (HW _).mono ?_
              rintro e W ⟨rfl, hW⟩
              subst hW
              go_wp2_with fail
              go_ret
              exact ⟨rfl, HM.out, HB.out⟩
      · rw [if_pos hw]
        rw [decide_eq_false hw] at HW
        clear hw
        go_enter Tryd.func48, Tryd.ntmps48
        go_wp2_with fail
        refine (HP _).mono ?_
        rintro e W ⟨rfl, hW⟩
        subst hW
        go_wp2_with fail
        refine (HW _).mono ?_
        rintro e W ⟨rfl, hW⟩
        subst hW
        go_wp2_with fail
        go_ret
        exact ⟨rfl, HM.out, HB.out⟩
  · rw [part_size way wy pn sz n met hs]
    rw [decide_eq_false hs] at HP
    clear hs HW HL
    go_enter Tryd.func48, Tryd.ntmps48
    go_wp2_with fail
    refine (HP _).mono ?_
    rintro e W ⟨rfl, hW⟩
    subst hW
    go_wp2_with fail
    go_ret
    exact ⟨rfl, HM.out, HB.out⟩
end Spl
end Go.Proofs.YtckkbmgdaplaaaaDoor
