/- The closed fact that the laws of package style ask first. -/
import Derived.Test.YthnphjdpifpehaaDoorStyleMath
namespace Go.Proofs.YthnphjdpifpehaaDoor
open Go.ChangeShapes Go.WideShapes Go.ChangeAt Go.RowKit
namespace Sty
theorem two_row (w : World) (b : Nat) (x y : Int) (h0 : w.cell? ⟨b, 0, none⟩ = some (.int .i64 x)) (h1 : w.cell? ⟨b, 1, none⟩ = some (.int .i64 y)) : IntsAt w (.slice (some ⟨b, 0, none⟩) 2 2) [x, y] :=
  .inr ⟨by simp, b, 0, 2, rfl, by simp, fun j hj => by
    have : j = 0 ∨ j = 1 := by simp at hj; omega
    rcases this with rfl | rfl
    · simpa using h0
    · simpa using h1⟩
theorem apply_look (w : World) (b : Nat) (hT : Tab w) (h0 : w.cell? ⟨b, 0, none⟩ = some (.int .i64 1)) (h1 : w.cell? ⟨b, 1, none⟩ = some (.int .i64 41)) :
    Calls Tryd.prog 9 #[.agg #[.int .i64 0, .int .i64 0, .int .i64 0], .slice (some ⟨b, 0, none⟩) 2 2] w fun e w' => e = .returned (.agg #[.int .i64 0, .int .i64 2, .int .i64 1]) ∧ Below w.heap.size w w' := by
  have h := apply_any (0, 0, 0) _ _ w hT (two_row w b 1 41 h0 h1) (by simp) (by simp)
  rwa [look_apply] at h
theorem write_look (w : World) (b : Nat) (hP : P10 w) (h0 : w.cell? ⟨b, 0, none⟩ = some (.int .i64 1)) (h1 : w.cell? ⟨b, 1, none⟩ = some (.int .i64 41)) :
    Calls Tryd.prog 16 #[.slice (some ⟨b, 0, none⟩) 2 2] w fun e w' => e = .returned (.string (bs [27, 91, 49, 59, 52, 49, 109])) ∧ Below w.heap.size w w' := by
  have h := write_any _ _ w hP (two_row w b 1 41 h0 h1) (by simp) (by simp)
  rwa [look_write] at h
set_option maxHeartbeats 1000000 in
theorem looked_any (w : World) (hT : Tab w) (hP : P10 w) :
    Calls Tryd.prog 6 #[] w fun e w' => e = .returned (.bool true) ∧ Below w.heap.size w w' := by
  have HT : Hid (Tab w) := hT
  have HP : Hid (P10 w) := hP
  clear hT hP
  go_enter Tryd.func6, Tryd.ntmps6
  go_wp2_with (first
    | (go_at_call 9; refine (apply_look _ w.heap.size (HT.out.below ((Below.refl _ _).alloc (Nat.le_refl _) _) HT.out.pos) (by simp) (by simp)).mono ?_; rintro e W1 ⟨rfl, b1⟩)
    | (go_at_call 16; refine (write_look _ W1.heap.size (HP.out.below (((((Below.refl _ _).alloc (Nat.le_refl _) _)).trans (b1.mono (by simp))).alloc (by have := b1.size; simp at this; omega) _)) (by simp) (by simp)).mono ?_; rintro e W2 ⟨rfl, b2⟩))
  go_ret
  have hs1 := b1.size
  have hs2 := b2.size
  simp only [World.size_alloc] at hs1 hs2
  refine ⟨ret_bool (by decide +kernel), ?_⟩
  have k1 : Below w.heap.size w W1 := ((Below.refl _ w).alloc (Nat.le_refl _) _).trans (b1.mono (by simp))
  exact (k1.alloc k1.size _).trans (b2.mono (by simp only [World.size_alloc]; omega))
end Sty
end Go.Proofs.YthnphjdpifpehaaDoor
