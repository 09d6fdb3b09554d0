/- The walk of isLoose. -/
import Derived.Test.YtinhmklpnkikgabDoorGridCells
namespace Go.Proofs.YtinhmklpnkikgabDoor
open Go.ChangeShapes Go.WideShapes Go.ChangeAt Go.RowKit
namespace Grd
open Txt (wd)
theorem width_to (r : Int) (w : World) (hT : Txt.Tab w) (v : Int) (h : wd r = v) : Calls Tryd.prog 20 #[.int .i32 r] w fun e w' => e = .returned (.int .i64 v) ∧ Below w.heap.size w w' := by
  have := Txt.width_any r w hT
  rwa [h] at this
set_option maxHeartbeats 1000000 in
theorem isLoose_any (b o c : Nat) (cs : List C) (x : Nat) (w : World) (hT : Txt.Tab w) (hC : CellsAt w b o cs) (hx : x < cs.length) (hn : cs.length ≤ 1000000) :
    Calls Tryd.prog 34 #[.slice (some ⟨b, o, none⟩) cs.length c, .int .i64 (x : Int)] w fun e w' => e = .returned (.bool (loose cs x)) ∧ Below w.heap.size w w' := by
  have HT : Hid (Txt.Tab w) := hT
  have h0 := (hC x hx).1
  have hp : 0 < x → w.cell? ⟨b, o + (x - 1) * 4, none⟩ = some (.int .i32 (cs.getD (x - 1) z0).1) := fun h => (hC (x - 1) (by omega)).1
  have hs : x + 1 < cs.length → w.cell? ⟨b, o + (x + 1) * 4, none⟩ = some (.int .i32 (cs.getD (x + 1) z0).1) := fun h => (hC (x + 1) h).1
  unfold loose
  clear hT hC
  generalize (cs.getD x z0).1 = r at *
  generalize (cs.getD (x - 1) z0).1 = rp at *
  generalize (cs.getD (x + 1) z0).1 = rs at *
  generalize cs.length = n at *
  by_cases hr : r = 0
  · subst hr
    by_cases hx0 : x = 0
    · have nx : ((x : Int) == 0) = true := by simp only [beq_iff_eq]; omega
      have HX : Hid (x = 0) := hx0
      clear hp hs hx0
      go_enter Tryd.func34, Tryd.ntmps34
      go_wp2_with fail
      go_ret
      exact ⟨Sty.ret_bool (by simp [HX.out]), Below.refl _ _⟩
    · have hp := hp (by omega)
      clear hs
      have nx : ((x : Int) == 0) = false := by simp only [beq_eq_false_iff_ne, ne_eq]; omega
      go_enter Tryd.func34, Tryd.ntmps34
      go_wp2_with (go_at_call 20; refine (Txt.width_any rp _ HT.out).mono ?_; rintro e W1 ⟨rfl, b1⟩)
      go_ret
      exact ⟨Sty.ret_bool (by rw [Bool.eq_iff_iff]; simp), b1⟩
  · have nr : (r == 0) = false := by simp only [beq_eq_false_iff_ne, ne_eq]; exact hr
    clear hp
    by_cases h2 : wd r = 2
    · by_cases hl : x + 1 = n
      · have nl : ((x : Int) == (n : Int) - 1) = true := by simp only [beq_iff_eq]; omega
        have H2 : Hid (wd r = 2) := h2
        clear hs h2
        go_enter Tryd.func34, Tryd.ntmps34
        go_wp2_with (go_at_call 20; refine (width_to r _ HT.out 2 H2.out).mono ?_; rintro e W1 ⟨rfl, b1⟩)
        go_ret
        exact ⟨Sty.ret_bool (by rw [Bool.eq_iff_iff]; simp [H2.out]), b1⟩
      · have hs := hs (by omega)
        have nl : ((x : Int) == (n : Int) - 1) = false := by simp only [beq_eq_false_iff_ne, ne_eq]; omega
        have H2 : Hid (wd r = 2) := h2
        clear h2
        go_enter Tryd.func34, Tryd.ntmps34
        go_wp2_with (go_at_call 20; refine (width_to r _ HT.out 2 H2.out).mono ?_; rintro e W1 ⟨rfl, b1⟩; have hs1 := cell_keep b1 hs)
        go_ret
        exact ⟨Sty.ret_bool (by rw [Bool.eq_iff_iff]; simp [H2.out]), b1⟩
    · have H2 : Hid (¬ wd r = 2) := h2
      clear hs h2
      have KW : Hid (Calls Tryd.prog 20 #[.int .i32 r] w fun e w' => e = .returned (.int .i64 (wd r)) ∧ Below w.heap.size w w') := Txt.width_any r w HT.out
      have n2 : (wd r == 2) = false := by simp only [beq_eq_false_iff_ne, ne_eq]; exact H2.out
      go_enter Tryd.func34, Tryd.ntmps34
      go_wp2_with (go_at_call 20; refine KW.out.mono ?_; rintro e W1 ⟨rfl, b1⟩)
      go_ret
      exact ⟨Sty.ret_bool (by rw [Bool.eq_iff_iff]; simp [H2.out]), b1⟩
end Grd
end Go.Proofs.YtinhmklpnkikgabDoor
