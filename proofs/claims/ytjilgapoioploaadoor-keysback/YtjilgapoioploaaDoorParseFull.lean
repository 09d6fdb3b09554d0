/- utf8.FullRuneInString. (Written by gen_fullrune.py.) -/
import Derived.Test.YtjilgapoioploaaDoorParseMath
import Derived.Test.YtjilgapoioploaaDoorTextWidth
import Derived.Laws.Tables
import Derived.Laws.CopyOwn
import Derived.Laws.OwnMore
import Derived.WalkSmall
import Derived.Maps.AppendAt
import Derived.Deep.MidRow
import Derived.Deep.RegionHeld3
import Derived.Deep.CutRange
import Derived.Laws.IdiomStrings
import Derived.BigQuiet
namespace Go.Proofs.YtjilgapoioploaaDoor
open Go.ChangeShapes Go.WideShapes Go.ChangeAt Go.RowKit
namespace Prs
open Go.Lib (firstT accLo accHi)
theorem ret_bool {a b : Bool} (h : a = b) : Ending.returned (.bool a) = Ending.returned (.bool b) := by rw [h]
theorem bdn0 {B : Nat} {a w : World} (h : Below B a w) (n : Nat) : Below B a (w.drewN n) := h.trans ⟨rfl, rfl, rfl, Nat.le_refl _, fun _ _ => rfl⟩
set_option maxHeartbeats 4000000 in
set_option maxRecDepth 1000000 in
theorem fullRune_any (s : ByteArray) (w : World) (hT : Lib.Utf8Tabs 4 5 w) :
    Calls Tryd.prog 48 #[.string s] w fun e w' => e = .returned (.bool (full s)) ∧ Below w.heap.size w w' := by
  by_cases h0 : s.size = 0
  · have hz : (s.size : Int) = 0 := by omega
    have e : full s = false := if_pos h0
    rw [e]
    clear e
    go_enter Tryd.func48, Tryd.ntmps48
    go_wp2_with fail
    go_ret
    exact ⟨rfl, Below.refl _ _⟩
  · have hz0 : (0 : Int) < (s.size : Int) := by omega
    have hz0' : ¬ ((s.size : Int) = 0) := by omega
    obtain ⟨x0, hx0⟩ : ∃ x0, s.get! 0 = x0 := ⟨_, rfl⟩
    obtain ⟨x1, hx1⟩ : ∃ x1, s.get! 1 = x1 := ⟨_, rfl⟩
    obtain ⟨x2, hx2⟩ : ∃ x2, s.get! 2 = x2 := ⟨_, rfl⟩
    have hs0 : s[0]'(by omega) = x0 := by rw [← hx0]; exact (Utf8W.get!_of_lt s 0 (by omega)).symm
    have l0 := x0.toNat_lt
    have l1 := x1.toNat_lt
    have l2 := x2.toNat_lt
    have hf : full s = fullN s.size x0.toNat x1.toNat x2.toNat := by unfold full; rw [if_neg h0, hx0, hx1, hx2]
    rw [hf]
    clear hf
    have hc0 := hT.1 x0.toNat (by omega)
    unfold fullN
    rcases Lib.firstT_cases x0.toNat with hX | hX | hX | hX | hX | hX | hX | hX | hX
    · rw [hX] at hc0 ⊢
      rw [if_pos (by omega)]
      clear hT hX
      go_enter Tryd.func48, Tryd.ntmps48
      go_wp2_with fail
      go_ret
      exact ⟨ret_bool (by simp), (Below.refl _ _)⟩
    · rw [hX] at hc0 ⊢
      rw [if_pos (by omega)]
      clear hT hX
      go_enter Tryd.func48, Tryd.ntmps48
      go_wp2_with fail
      go_ret
      exact ⟨ret_bool (by simp), (Below.refl _ _)⟩
    · rw [hX] at hc0 ⊢
      have ha0 := (hT.2 0 (by omega)).1
      have ha1 := (hT.2 0 (by omega)).2
      simp only [accLo, accHi, Nat.reduceMul, Nat.reduceAdd, Nat.reduceEqDiff, if_true, if_false, Nat.reduceMod, Nat.reduceDiv] at ha0 ha1 ⊢
      clear hT hX
      by_cases hn : 2 ≤ s.size
      · have hnz : (2 : Int) ≤ (s.size : Int) := by omega
        rw [if_pos hn]
        go_enter Tryd.func48, Tryd.ntmps48
        go_wp2_with fail
        go_ret
        exact ⟨ret_bool (by simp), (Below.refl _ _)⟩
      · have hnz : ¬ (2 : Int) ≤ (s.size : Int) := by omega
        rw [if_neg hn]
        have m1 : ¬ (1 : Int) < (s.size : Int) := by omega
        have m1d : decide ((1 : Int) < (s.size : Int)) = false := by rw [decide_eq_false_iff_not]; exact m1
        have m2 : ¬ (2 : Int) < (s.size : Int) := by omega
        have m2d : decide ((2 : Int) < (s.size : Int)) = false := by rw [decide_eq_false_iff_not]; exact m2
        rw [if_neg (by omega)]
        go_enter Tryd.func48, Tryd.ntmps48
        go_wp2_with fail
        go_big_quiet (fail)
        go_wp2_with fail
        go_ret
        exact ⟨ret_bool (by simp <;> omega), bdn0 ((Below.refl _ _).alloc (Nat.le_refl _) _) _⟩
    · rw [hX] at hc0 ⊢
      have ha0 := (hT.2 1 (by omega)).1
      have ha1 := (hT.2 1 (by omega)).2
      simp only [accLo, accHi, Nat.reduceMul, Nat.reduceAdd, Nat.reduceEqDiff, if_true, if_false, Nat.reduceMod, Nat.reduceDiv] at ha0 ha1 ⊢
      clear hT hX
      by_cases hn : 3 ≤ s.size
      · have hnz : (3 : Int) ≤ (s.size : Int) := by omega
        rw [if_pos hn]
        go_enter Tryd.func48, Tryd.ntmps48
        go_wp2_with fail
        go_ret
        exact ⟨ret_bool (by simp), (Below.refl _ _)⟩
      · have hnz : ¬ (3 : Int) ≤ (s.size : Int) := by omega
        rw [if_neg hn]
        by_cases n1 : 1 < s.size
        · have m1 : (1 : Int) < (s.size : Int) := by omega
          have hs1 : s[1]'(by omega) = x1 := by rw [← hx1]; exact (Utf8W.get!_of_lt s 1 (by omega)).symm
          by_cases a1 : x1.toNat < 160
          · have a1' : (x1.toNat : Int) < 160 := by omega
            rw [if_pos (by omega)]
            go_enter Tryd.func48, Tryd.ntmps48
            go_wp2_with fail
            go_big_quiet (fail)
            go_wp2_with fail
            go_ret
            exact ⟨ret_bool (by simp), bdn0 ((Below.refl _ _).alloc (Nat.le_refl _) _) _⟩
          · have a1' : ¬ (x1.toNat : Int) < 160 := by omega
            have a1d : decide ((x1.toNat : Int) < 160) = false := by rw [decide_eq_false_iff_not]; exact a1'
            by_cases a2 : 191 < x1.toNat
            · have a2' : (191 : Int) < (x1.toNat : Int) := by omega
              rw [if_pos (by omega)]
              go_enter Tryd.func48, Tryd.ntmps48
              go_wp2_with fail
              go_big_quiet (fail)
              go_wp2_with fail
              go_ret
              exact ⟨ret_bool (by simp), bdn0 ((Below.refl _ _).alloc (Nat.le_refl _) _) _⟩
            · have a2' : ¬ (191 : Int) < (x1.toNat : Int) := by omega
              rw [if_neg (by omega)]
              have m2 : ¬ (2 : Int) < (s.size : Int) := by omega
              have m2d : decide ((2 : Int) < (s.size : Int)) = false := by rw [decide_eq_false_iff_not]; exact m2
              go_enter Tryd.func48, Tryd.ntmps48
              go_wp2_with fail
              go_big_quiet (fail)
              go_wp2_with fail
              go_ret
              exact ⟨ret_bool (by simp <;> omega), bdn0 ((Below.refl _ _).alloc (Nat.le_refl _) _) _⟩
        · have m1 : ¬ (1 : Int) < (s.size : Int) := by omega
          have m1d : decide ((1 : Int) < (s.size : Int)) = false := by rw [decide_eq_false_iff_not]; exact m1
          have m2 : ¬ (2 : Int) < (s.size : Int) := by omega
          have m2d : decide ((2 : Int) < (s.size : Int)) = false := by rw [decide_eq_false_iff_not]; exact m2
          rw [if_neg (by omega)]
          go_enter Tryd.func48, Tryd.ntmps48
          go_wp2_with fail
          go_big_quiet (fail)
          go_wp2_with fail
          go_ret
          exact ⟨ret_bool (by simp <;> omega), bdn0 ((Below.refl _ _).alloc (Nat.le_refl _) _) _⟩
    · rw [hX] at hc0 ⊢
      have ha0 := (hT.2 0 (by omega)).1
      have ha1 := (hT.2 0 (by omega)).2
      simp only [accLo, accHi, Nat.reduceMul, Nat.reduceAdd, Nat.reduceEqDiff, if_true, if_false, Nat.reduceMod, Nat.reduceDiv] at ha0 ha1 ⊢
      clear hT hX
      by_cases hn : 3 ≤ s.size
      · have hnz : (3 : Int) ≤ (s.size : Int) := by omega
        rw [if_pos hn]
        go_enter Tryd.func48, Tryd.ntmps48
        go_wp2_with fail
        go_ret
        exact ⟨ret_bool (by simp), (Below.refl _ _)⟩
      · have hnz : ¬ (3 : Int) ≤ (s.size : Int) := by omega
        rw [if_neg hn]
        by_cases n1 : 1 < s.size
        · have m1 : (1 : Int) < (s.size : Int) := by omega
          have hs1 : s[1]'(by omega) = x1 := by rw [← hx1]; exact (Utf8W.get!_of_lt s 1 (by omega)).symm
          by_cases a1 : x1.toNat < 128
          · have a1' : (x1.toNat : Int) < 128 := by omega
            rw [if_pos (by omega)]
            go_enter Tryd.func48, Tryd.ntmps48
            go_wp2_with fail
            go_big_quiet (fail)
            go_wp2_with fail
            go_ret
            exact ⟨ret_bool (by simp), bdn0 ((Below.refl _ _).alloc (Nat.le_refl _) _) _⟩
          · have a1' : ¬ (x1.toNat : Int) < 128 := by omega
            have a1d : decide ((x1.toNat : Int) < 128) = false := by rw [decide_eq_false_iff_not]; exact a1'
            by_cases a2 : 191 < x1.toNat
            · have a2' : (191 : Int) < (x1.toNat : Int) := by omega
              rw [if_pos (by omega)]
              go_enter Tryd.func48, Tryd.ntmps48
              go_wp2_with fail
              go_big_quiet (fail)
              go_wp2_with fail
              go_ret
              exact ⟨ret_bool (by simp), bdn0 ((Below.refl _ _).alloc (Nat.le_refl _) _) _⟩
            · have a2' : ¬ (191 : Int) < (x1.toNat : Int) := by omega
              rw [if_neg (by omega)]
              have m2 : ¬ (2 : Int) < (s.size : Int) := by omega
              have m2d : decide ((2 : Int) < (s.size : Int)) = false := by rw [decide_eq_false_iff_not]; exact m2
              go_enter Tryd.func48, Tryd.ntmps48
              go_wp2_with fail
              go_big_quiet (fail)
              go_wp2_with fail
              go_ret
              exact ⟨ret_bool (by simp <;> omega), bdn0 ((Below.refl _ _).alloc (Nat.le_refl _) _) _⟩
        · have m1 : ¬ (1 : Int) < (s.size : Int) := by omega
          have m1d : decide ((1 : Int) < (s.size : Int)) = false := by rw [decide_eq_false_iff_not]; exact m1
          have m2 : ¬ (2 : Int) < (s.size : Int) := by omega
          have m2d : decide ((2 : Int) < (s.size : Int)) = false := by rw [decide_eq_false_iff_not]; exact m2
          rw [if_neg (by omega)]
          go_enter Tryd.func48, Tryd.ntmps48
          go_wp2_with fail
          go_big_quiet (fail)
          go_wp2_with fail
          go_ret
          exact ⟨ret_bool (by simp <;> omega), bdn0 ((Below.refl _ _).alloc (Nat.le_refl _) _) _⟩
    · rw [hX] at hc0 ⊢
      have ha0 := (hT.2 2 (by omega)).1
      have ha1 := (hT.2 2 (by omega)).2
      simp only [accLo, accHi, Nat.reduceMul, Nat.reduceAdd, Nat.reduceEqDiff, if_true, if_false, Nat.reduceMod, Nat.reduceDiv] at ha0 ha1 ⊢
      clear hT hX
      by_cases hn : 3 ≤ s.size
      · have hnz : (3 : Int) ≤ (s.size : Int) := by omega
        rw [if_pos hn]
        go_enter Tryd.func48, Tryd.ntmps48
        go_wp2_with fail
        go_ret
        exact ⟨ret_bool (by simp), (Below.refl _ _)⟩
      · have hnz : ¬ (3 : Int) ≤ (s.size : Int) := by omega
        rw [if_neg hn]
        by_cases n1 : 1 < s.size
        · have m1 : (1 : Int) < (s.size : Int) := by omega
          have hs1 : s[1]'(by omega) = x1 := by rw [← hx1]; exact (Utf8W.get!_of_lt s 1 (by omega)).symm
          by_cases a1 : x1.toNat < 128
          · have a1' : (x1.toNat : Int) < 128 := by omega
            rw [if_pos (by omega)]
            go_enter Tryd.func48, Tryd.ntmps48
            go_wp2_with fail
            go_big_quiet (fail)
            go_wp2_with fail
            go_ret
            exact ⟨ret_bool (by simp), bdn0 ((Below.refl _ _).alloc (Nat.le_refl _) _) _⟩
          · have a1' : ¬ (x1.toNat : Int) < 128 := by omega
            have a1d : decide ((x1.toNat : Int) < 128) = false := by rw [decide_eq_false_iff_not]; exact a1'
            by_cases a2 : 159 < x1.toNat
            · have a2' : (159 : Int) < (x1.toNat : Int) := by omega
              rw [if_pos (by omega)]
              go_enter Tryd.func48, Tryd.ntmps48
              go_wp2_with fail
              go_big_quiet (fail)
              go_wp2_with fail
              go_ret
              exact ⟨ret_bool (by simp), bdn0 ((Below.refl _ _).alloc (Nat.le_refl _) _) _⟩
            · have a2' : ¬ (159 : Int) < (x1.toNat : Int) := by omega
              rw [if_neg (by omega)]
              have m2 : ¬ (2 : Int) < (s.size : Int) := by omega
              have m2d : decide ((2 : Int) < (s.size : Int)) = false := by rw [decide_eq_false_iff_not]; exact m2
              go_enter Tryd.func48, Tryd.ntmps48
              go_wp2_with fail
              go_big_quiet (fail)
              go_wp2_with fail
              go_ret
              exact ⟨ret_bool (by simp <;> omega), bdn0 ((Below.refl _ _).alloc (Nat.le_refl _) _) _⟩
        · have m1 : ¬ (1 : Int) < (s.size : Int) := by omega
          have m1d : decide ((1 : Int) < (s.size : Int)) = false := by rw [decide_eq_false_iff_not]; exact m1
          have m2 : ¬ (2 : Int) < (s.size : Int) := by omega
          have m2d : decide ((2 : Int) < (s.size : Int)) = false := by rw [decide_eq_false_iff_not]; exact m2
          rw [if_neg (by omega)]
          go_enter Tryd.func48, Tryd.ntmps48
          go_wp2_with fail
          go_big_quiet (fail)
          go_wp2_with fail
          go_ret
          exact ⟨ret_bool (by simp <;> omega), bdn0 ((Below.refl _ _).alloc (Nat.le_refl _) _) _⟩
    · rw [hX] at hc0 ⊢
      have ha0 := (hT.2 3 (by omega)).1
      have ha1 := (hT.2 3 (by omega)).2
      simp only [accLo, accHi, Nat.reduceMul, Nat.reduceAdd, Nat.reduceEqDiff, if_true, if_false, Nat.reduceMod, Nat.reduceDiv] at ha0 ha1 ⊢
      clear hT hX
      by_cases hn : 4 ≤ s.size
      · have hnz : (4 : Int) ≤ (s.size : Int) := by omega
        rw [if_pos hn]
        go_enter Tryd.func48, Tryd.ntmps48
        go_wp2_with fail
        go_ret
        exact ⟨ret_bool (by simp), (Below.refl _ _)⟩
      · have hnz : ¬ (4 : Int) ≤ (s.size : Int) := by omega
        rw [if_neg hn]
        by_cases n1 : 1 < s.size
        · have m1 : (1 : Int) < (s.size : Int) := by omega
          have hs1 : s[1]'(by omega) = x1 := by rw [← hx1]; exact (Utf8W.get!_of_lt s 1 (by omega)).symm
          by_cases a1 : x1.toNat < 144
          · have a1' : (x1.toNat : Int) < 144 := by omega
            rw [if_pos (by omega)]
            go_enter Tryd.func48, Tryd.ntmps48
            go_wp2_with fail
            go_big_quiet (fail)
            go_wp2_with fail
            go_ret
            exact ⟨ret_bool (by simp), bdn0 ((Below.refl _ _).alloc (Nat.le_refl _) _) _⟩
          · have a1' : ¬ (x1.toNat : Int) < 144 := by omega
            have a1d : decide ((x1.toNat : Int) < 144) = false := by rw [decide_eq_false_iff_not]; exact a1'
            by_cases a2 : 191 < x1.toNat
            · have a2' : (191 : Int) < (x1.toNat : Int) := by omega
              rw [if_pos (by omega)]
              go_enter Tryd.func48, Tryd.ntmps48
              go_wp2_with fail
              go_big_quiet (fail)
              go_wp2_with fail
              go_ret
              exact ⟨ret_bool (by simp), bdn0 ((Below.refl _ _).alloc (Nat.le_refl _) _) _⟩
            · have a2' : ¬ (191 : Int) < (x1.toNat : Int) := by omega
              rw [if_neg (by omega)]
              by_cases n2 : 2 < s.size
              · have m2 : (2 : Int) < (s.size : Int) := by omega
                have hs2 : s[2]'(by omega) = x2 := by rw [← hx2]; exact (Utf8W.get!_of_lt s 2 (by omega)).symm
                by_cases b1 : x2.toNat < 128
                · have b1' : (x2.toNat : Int) < 128 := by omega
                  go_enter Tryd.func48, Tryd.ntmps48
                  go_wp2_with fail
                  go_big_quiet (fail)
                  go_wp2_with fail
                  go_ret
                  exact ⟨ret_bool (by simp [n2, b1]), bdn0 ((Below.refl _ _).alloc (Nat.le_refl _) _) _⟩
                · have b1' : ¬ (x2.toNat : Int) < 128 := by omega
                  have b1d : decide ((x2.toNat : Int) < 128) = false := by rw [decide_eq_false_iff_not]; exact b1'
                  by_cases b2 : 191 < x2.toNat
                  · have b2' : (191 : Int) < (x2.toNat : Int) := by omega
                    go_enter Tryd.func48, Tryd.ntmps48
                    go_wp2_with fail
                    go_big_quiet (fail)
                    go_wp2_with fail
                    go_ret
                    exact ⟨ret_bool (by simp [n2, b2]), bdn0 ((Below.refl _ _).alloc (Nat.le_refl _) _) _⟩
                  · have b2' : ¬ (191 : Int) < (x2.toNat : Int) := by omega
                    go_enter Tryd.func48, Tryd.ntmps48
                    go_wp2_with fail
                    go_big_quiet (fail)
                    go_wp2_with fail
                    go_ret
                    exact ⟨ret_bool (by simp <;> omega), bdn0 ((Below.refl _ _).alloc (Nat.le_refl _) _) _⟩
              · have m2 : ¬ (2 : Int) < (s.size : Int) := by omega
                have m2d : decide ((2 : Int) < (s.size : Int)) = false := by rw [decide_eq_false_iff_not]; exact m2
                go_enter Tryd.func48, Tryd.ntmps48
                go_wp2_with fail
                go_big_quiet (fail)
                go_wp2_with fail
                go_ret
                exact ⟨ret_bool (by simp <;> omega), bdn0 ((Below.refl _ _).alloc (Nat.le_refl _) _) _⟩
        · have m1 : ¬ (1 : Int) < (s.size : Int) := by omega
          have m1d : decide ((1 : Int) < (s.size : Int)) = false := by rw [decide_eq_false_iff_not]; exact m1
          have m2 : ¬ (2 : Int) < (s.size : Int) := by omega
          have m2d : decide ((2 : Int) < (s.size : Int)) = false := by rw [decide_eq_false_iff_not]; exact m2
          rw [if_neg (by omega)]
          go_enter Tryd.func48, Tryd.ntmps48
          go_wp2_with fail
          go_big_quiet (fail)
          go_wp2_with fail
          go_ret
          exact ⟨ret_bool (by simp <;> omega), bdn0 ((Below.refl _ _).alloc (Nat.le_refl _) _) _⟩
    · rw [hX] at hc0 ⊢
      have ha0 := (hT.2 0 (by omega)).1
      have ha1 := (hT.2 0 (by omega)).2
      simp only [accLo, accHi, Nat.reduceMul, Nat.reduceAdd, Nat.reduceEqDiff, if_true, if_false, Nat.reduceMod, Nat.reduceDiv] at ha0 ha1 ⊢
      clear hT hX
      by_cases hn : 4 ≤ s.size
      · have hnz : (4 : Int) ≤ (s.size : Int) := by omega
        rw [if_pos hn]
        go_enter Tryd.func48, Tryd.ntmps48
        go_wp2_with fail
        go_ret
        exact ⟨ret_bool (by simp), (Below.refl _ _)⟩
      · have hnz : ¬ (4 : Int) ≤ (s.size : Int) := by omega
        rw [if_neg hn]
        by_cases n1 : 1 < s.size
        · have m1 : (1 : Int) < (s.size : Int) := by omega
          have hs1 : s[1]'(by omega) = x1 := by rw [← hx1]; exact (Utf8W.get!_of_lt s 1 (by omega)).symm
          by_cases a1 : x1.toNat < 128
          · have a1' : (x1.toNat : Int) < 128 := by omega
            rw [if_pos (by omega)]
            go_enter Tryd.func48, Tryd.ntmps48
            go_wp2_with fail
            go_big_quiet (fail)
            go_wp2_with fail
            go_ret
            exact ⟨ret_bool (by simp), bdn0 ((Below.refl _ _).alloc (Nat.le_refl _) _) _⟩
          · have a1' : ¬ (x1.toNat : Int) < 128 := by omega
            have a1d : decide ((x1.toNat : Int) < 128) = false := by rw [decide_eq_false_iff_not]; exact a1'
            by_cases a2 : 191 < x1.toNat
            · have a2' : (191 : Int) < (x1.toNat : Int) := by omega
              rw [if_pos (by omega)]
              go_enter Tryd.func48, Tryd.ntmps48
              go_wp2_with fail
              go_big_quiet (fail)
              go_wp2_with fail
              go_ret
              exact ⟨ret_bool (by simp), bdn0 ((Below.refl _ _).alloc (Nat.le_refl _) _) _⟩
            · have a2' : ¬ (191 : Int) < (x1.toNat : Int) := by omega
              rw [if_neg (by omega)]
              by_cases n2 : 2 < s.size
              · have m2 : (2 : Int) < (s.size : Int) := by omega
                have hs2 : s[2]'(by omega) = x2 := by rw [← hx2]; exact (Utf8W.get!_of_lt s 2 (by omega)).symm
                by_cases b1 : x2.toNat < 128
                · have b1' : (x2.toNat : Int) < 128 := by omega
                  go_enter Tryd.func48, Tryd.ntmps48
                  go_wp2_with fail
                  go_big_quiet (fail)
                  go_wp2_with fail
                  go_ret
                  exact ⟨ret_bool (by simp [n2, b1]), bdn0 ((Below.refl _ _).alloc (Nat.le_refl _) _) _⟩
                · have b1' : ¬ (x2.toNat : Int) < 128 := by omega
                  have b1d : decide ((x2.toNat : Int) < 128) = false := by rw [decide_eq_false_iff_not]; exact b1'
                  by_cases b2 : 191 < x2.toNat
                  · have b2' : (191 : Int) < (x2.toNat : Int) := by omega
                    go_enter Tryd.func48, Tryd.ntmps48
                    go_wp2_with fail
                    go_big_quiet (fail)
                    go_wp2_with fail
                    go_ret
                    exact ⟨ret_bool (by simp [n2, b2]), bdn0 ((Below.refl _ _).alloc (Nat.le_refl _) _) _⟩
                  · have b2' : ¬ (191 : Int) < (x2.toNat : Int) := by omega
                    go_enter Tryd.func48, Tryd.ntmps48
                    go_wp2_with fail
                    go_big_quiet (fail)
                    go_wp2_with fail
                    go_ret
                    exact ⟨ret_bool (by simp <;> omega), bdn0 ((Below.refl _ _).alloc (Nat.le_refl _) _) _⟩
              · have m2 : ¬ (2 : Int) < (s.size : Int) := by omega
                have m2d : decide ((2 : Int) < (s.size : Int)) = false := by rw [decide_eq_false_iff_not]; exact m2
                go_enter Tryd.func48, Tryd.ntmps48
                go_wp2_with fail
                go_big_quiet (fail)
                go_wp2_with fail
                go_ret
                exact ⟨ret_bool (by simp <;> omega), bdn0 ((Below.refl _ _).alloc (Nat.le_refl _) _) _⟩
        · have m1 : ¬ (1 : Int) < (s.size : Int) := by omega
          have m1d : decide ((1 : Int) < (s.size : Int)) = false := by rw [decide_eq_false_iff_not]; exact m1
          have m2 : ¬ (2 : Int) < (s.size : Int) := by omega
          have m2d : decide ((2 : Int) < (s.size : Int)) = false := by rw [decide_eq_false_iff_not]; exact m2
          rw [if_neg (by omega)]
          go_enter Tryd.func48, Tryd.ntmps48
          go_wp2_with fail
          go_big_quiet (fail)
          go_wp2_with fail
          go_ret
          exact ⟨ret_bool (by simp <;> omega), bdn0 ((Below.refl _ _).alloc (Nat.le_refl _) _) _⟩
    · rw [hX] at hc0 ⊢
      have ha0 := (hT.2 4 (by omega)).1
      have ha1 := (hT.2 4 (by omega)).2
      simp only [accLo, accHi, Nat.reduceMul, Nat.reduceAdd, Nat.reduceEqDiff, if_true, if_false, Nat.reduceMod, Nat.reduceDiv] at ha0 ha1 ⊢
      clear hT hX
      by_cases hn : 4 ≤ s.size
      · have hnz : (4 : Int) ≤ (s.size : Int) := by omega
        rw [if_pos hn]
        go_enter Tryd.func48, Tryd.ntmps48
        go_wp2_with fail
        go_ret
        exact ⟨ret_bool (by simp), (Below.refl _ _)⟩
      · have hnz : ¬ (4 : Int) ≤ (s.size : Int) := by omega
        rw [if_neg hn]
        by_cases n1 : 1 < s.size
        · have m1 : (1 : Int) < (s.size : Int) := by omega
          have hs1 : s[1]'(by omega) = x1 := by rw [← hx1]; exact (Utf8W.get!_of_lt s 1 (by omega)).symm
          by_cases a1 : x1.toNat < 128
          · have a1' : (x1.toNat : Int) < 128 := by omega
            rw [if_pos (by omega)]
            go_enter Tryd.func48, Tryd.ntmps48
            go_wp2_with fail
            go_big_quiet (fail)
            go_wp2_with fail
            go_ret
            exact ⟨ret_bool (by simp), bdn0 ((Below.refl _ _).alloc (Nat.le_refl _) _) _⟩
          · have a1' : ¬ (x1.toNat : Int) < 128 := by omega
            have a1d : decide ((x1.toNat : Int) < 128) = false := by rw [decide_eq_false_iff_not]; exact a1'
            by_cases a2 : 143 < x1.toNat
            · have a2' : (143 : Int) < (x1.toNat : Int) := by omega
              rw [if_pos (by omega)]
              go_enter Tryd.func48, Tryd.ntmps48
              go_wp2_with fail
              go_big_quiet (fail)
              go_wp2_with fail
              go_ret
              exact ⟨ret_bool (by simp), bdn0 ((Below.refl _ _).alloc (Nat.le_refl _) _) _⟩
            · have a2' : ¬ (143 : Int) < (x1.toNat : Int) := by omega
              rw [if_neg (by omega)]
              by_cases n2 : 2 < s.size
              · have m2 : (2 : Int) < (s.size : Int) := by omega
                have hs2 : s[2]'(by omega) = x2 := by rw [← hx2]; exact (Utf8W.get!_of_lt s 2 (by omega)).symm
                by_cases b1 : x2.toNat < 128
                · have b1' : (x2.toNat : Int) < 128 := by omega
                  go_enter Tryd.func48, Tryd.ntmps48
                  go_wp2_with fail
                  go_big_quiet (fail)
                  go_wp2_with fail
                  go_ret
                  exact ⟨ret_bool (by simp [n2, b1]), bdn0 ((Below.refl _ _).alloc (Nat.le_refl _) _) _⟩
                · have b1' : ¬ (x2.toNat : Int) < 128 := by omega
                  have b1d : decide ((x2.toNat : Int) < 128) = false := by rw [decide_eq_false_iff_not]; exact b1'
                  by_cases b2 : 191 < x2.toNat
                  · have b2' : (191 : Int) < (x2.toNat : Int) := by omega
                    go_enter Tryd.func48, Tryd.ntmps48
                    go_wp2_with fail
                    go_big_quiet (fail)
                    go_wp2_with fail
                    go_ret
                    exact ⟨ret_bool (by simp [n2, b2]), bdn0 ((Below.refl _ _).alloc (Nat.le_refl _) _) _⟩
                  · have b2' : ¬ (191 : Int) < (x2.toNat : Int) := by omega
                    go_enter Tryd.func48, Tryd.ntmps48
                    go_wp2_with fail
                    go_big_quiet (fail)
                    go_wp2_with fail
                    go_ret
                    exact ⟨ret_bool (by simp <;> omega), bdn0 ((Below.refl _ _).alloc (Nat.le_refl _) _) _⟩
              · have m2 : ¬ (2 : Int) < (s.size : Int) := by omega
                have m2d : decide ((2 : Int) < (s.size : Int)) = false := by rw [decide_eq_false_iff_not]; exact m2
                go_enter Tryd.func48, Tryd.ntmps48
                go_wp2_with fail
                go_big_quiet (fail)
                go_wp2_with fail
                go_ret
                exact ⟨ret_bool (by simp <;> omega), bdn0 ((Below.refl _ _).alloc (Nat.le_refl _) _) _⟩
        · have m1 : ¬ (1 : Int) < (s.size : Int) := by omega
          have m1d : decide ((1 : Int) < (s.size : Int)) = false := by rw [decide_eq_false_iff_not]; exact m1
          have m2 : ¬ (2 : Int) < (s.size : Int) := by omega
          have m2d : decide ((2 : Int) < (s.size : Int)) = false := by rw [decide_eq_false_iff_not]; exact m2
          rw [if_neg (by omega)]
          go_enter Tryd.func48, Tryd.ntmps48
          go_wp2_with fail
          go_big_quiet (fail)
          go_wp2_with fail
          go_ret
          exact ⟨ret_bool (by simp <;> omega), bdn0 ((Below.refl _ _).alloc (Nat.le_refl _) _) _⟩
end Prs
end Go.Proofs.YtjilgapoioploaaDoor
