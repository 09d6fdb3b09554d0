/- holds. -/
import Derived.Test.YtinhmklpnkikgabDoorGridFill2
namespace Go.Proofs.YtinhmklpnkikgabDoor
open Go.ChangeShapes Go.WideShapes Go.ChangeAt Go.RowKit
namespace Grd
def holdsI (n hh : Nat) (x y a b : Int) : Bool := decide (0 < a ∧ 0 < b ∧ 0 ≤ x ∧ 0 ≤ y ∧ a ≤ (n : Int) - x ∧ b ≤ (hh : Int) - y)
set_option maxHeartbeats 4000000 in
theorem holds_any (n hh : Nat) (v : Value) (x y a b : Int) (w : World) (hn : n ≤ 120) (hh' : hh ≤ 60) (hx0 : -9223372036854775808 ≤ x) (hx1 : x ≤ 9223372036854775807) (hy0 : -9223372036854775808 ≤ y) (hy1 : y ≤ 9223372036854775807) :
    Calls Tryd.prog 26 #[.agg #[.int .i64 (n : Int), .int .i64 (hh : Int), v], .agg #[.int .i64 x, .int .i64 y, .int .i64 a, .int .i64 b]] w fun e w' => e = .returned (.bool (holdsI n hh x y a b)) ∧ Below w.heap.size w w' := by
  have kk : Below w.heap.size w ((w.alloc (.cells #[.int .i64 (n : Int), .int .i64 (hh : Int), v] 24)).alloc (.cells #[.int .i64 x, .int .i64 y, .int .i64 a, .int .i64 b] 26)) := ((Below.refl _ _).alloc (Nat.le_refl _) _).alloc (by simp) _
  by_cases h1 : 0 < a
  · by_cases h2 : 0 < b
    · by_cases h3 : 0 ≤ x
      · by_cases h4 : 0 ≤ y
        · by_cases h5 : a ≤ (n : Int) - x
          · have e : holdsI n hh x y a b = decide (b ≤ (hh : Int) - y) := by unfold holdsI; rw [decide_eq_decide]; omega
            rw [e]
            go_enter Tryd.func26, Tryd.ntmps26
            go_wp2_with fail
            go_ret
            exact ⟨rfl, kk⟩
          · have e : holdsI n hh x y a b = false := by unfold holdsI; rw [decide_eq_false_iff_not]; omega
            rw [e]
            have g5 : decide (a ≤ (n : Int) - x) = false := by rw [decide_eq_false_iff_not]; exact h5
            go_enter Tryd.func26, Tryd.ntmps26
            go_wp2_with fail
            go_ret
            exact ⟨rfl, kk⟩
        · have e : holdsI n hh x y a b = false := by unfold holdsI; rw [decide_eq_false_iff_not]; omega
          rw [e]
          have g4 : decide (0 ≤ y) = false := by rw [decide_eq_false_iff_not]; exact h4
          go_enter Tryd.func26, Tryd.ntmps26
          go_wp2_with fail
          go_ret
          exact ⟨rfl, kk⟩
      · have e : holdsI n hh x y a b = false := by unfold holdsI; rw [decide_eq_false_iff_not]; omega
        rw [e]
        have g3 : decide (0 ≤ x) = false := by rw [decide_eq_false_iff_not]; exact h3
        go_enter Tryd.func26, Tryd.ntmps26
        go_wp2_with fail
        go_ret
        exact ⟨rfl, kk⟩
    · have e : holdsI n hh x y a b = false := by unfold holdsI; rw [decide_eq_false_iff_not]; omega
      rw [e]
      have g2 : decide (0 < b) = false := by rw [decide_eq_false_iff_not]; exact h2
      go_enter Tryd.func26, Tryd.ntmps26
      go_wp2_with fail
      go_ret
      exact ⟨rfl, kk⟩
  · have e : holdsI n hh x y a b = false := by unfold holdsI; rw [decide_eq_false_iff_not]; omega
    rw [e]
    have g1 : decide (0 < a) = false := by rw [decide_eq_false_iff_not]; exact h1
    go_enter Tryd.func26, Tryd.ntmps26
    go_wp2_with fail
    go_ret
    exact ⟨rfl, kk⟩
end Grd
end Go.Proofs.YtinhmklpnkikgabDoor
