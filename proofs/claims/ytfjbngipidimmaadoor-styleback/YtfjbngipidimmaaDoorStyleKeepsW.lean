/- The walk of the law StyleKeeps. -/
import Derived.Test.YtfjbngipidimmaaDoorStyleLooked
namespace Go.Proofs.YtfjbngipidimmaaDoor
open Go.ChangeShapes Go.WideShapes Go.ChangeAt Go.RowKit
namespace Sty
theorem check_agg (f b x : Int) (w : World) (v : Bool) (h : isSt (f, b, x) = v) :
    Calls Tryd.prog 10 #[.agg #[.int .i64 f, .int .i64 b, .int .i64 x]] w fun e w' => e = .returned (.bool v) ∧ Below w.heap.size w w' := by
  have := check_any (f, b, x) w
  rwa [h] at this
theorem apply_agg (f b x f' b' x' : Int) (v : Value) (xs : List Int) (w : World) (hT : Tab w) (hI : IntsAt w v xs) (hlen : xs.length ≤ 140737488355328) (hw : ∀ x ∈ xs, x ≤ 9223372036854775807) (h : applyT (f, b, x) xs = (f', b', x')) :
    Calls Tryd.prog 12 #[.agg #[.int .i64 f, .int .i64 b, .int .i64 x], v] w fun e w' => e = .returned (.agg #[.int .i64 f', .int .i64 b', .int .i64 x']) ∧ Below w.heap.size w w' := by
  have := apply_any (f, b, x) v xs w hT hI hlen hw
  rwa [h] at this
theorem Tab.next {w w' : World} (h : Tab w) (hb : Below w.heap.size w w') : Tab w' := h.below hb h.pos
set_option maxHeartbeats 1000000 in
theorem styleKeeps_walk (f b x : Int) (v : Value) (xs : List Int) (w : World) (hT : Tab w) (hP : P10 w) (hI : IntsAt w v xs) (hlen : xs.length ≤ 140737488355328) (hw : ∀ x ∈ xs, x ≤ 9223372036854775807) :
    Calls Tryd.prog 7 #[.agg #[.int .i64 f, .int .i64 b, .int .i64 x], v] w fun e w' => e = .returned (.bool true) ∧ Below w.heap.size w w' := by
  have HT : Hid (Tab w) := hT
  have HP : Hid (P10 w) := hP
  have HI : Hid (IntsAt w v xs) := hI
  have HW : Hid (∀ x ∈ xs, x ≤ 9223372036854775807) := hw
  clear hT hP hI hw
  have b0 : ∀ ob, Below w.heap.size w (w.alloc ob) := fun ob => (Below.refl _ _).alloc (Nat.le_refl _) _
  cases hc : isSt (f, b, x) with
  | false =>
    have HC : Hid (isSt (f, b, x) = false) := hc
    clear hc
    go_enter Tryd.func7, Tryd.ntmps7
    go_wp2_with (first
      | (go_at_call 9; refine (looked_any _ (HT.out.next (b0 _)) (HP.out.below (b0 _))).mono ?_; rintro e W1 ⟨rfl, b1⟩; have hv1 := (b1.block w.heap.size (by simp)).trans (heap_alloc_new w _); have ⟨c0, c1, c2, cf⟩ := cells_of hv1)
      | (go_at_call 10; refine (check_agg f b x _ _ HC.out).mono ?_; rintro e W2 ⟨rfl, b2⟩))
    go_ret
    have k1 : Below w.heap.size w W1 := (b0 _).trans (b1.mono (by simp))
    exact ⟨rfl, k1.trans (b2.mono k1.size)⟩
  | true =>
    rcases ha : applyT (f, b, x) xs with ⟨f', b', x'⟩
    have HA : Hid (applyT (f, b, x) xs = (f', b', x')) := ha
    have HK : Hid (isSt (f', b', x') = true) := by
      have := applyT_keeps xs _ hc
      rwa [ha] at this
    have HC : Hid (isSt (f, b, x) = true) := hc
    clear hc ha
    go_enter Tryd.func7, Tryd.ntmps7
    go_wp2_with (first
      | (go_at_call 9; refine (looked_any _ (HT.out.next (b0 _)) (HP.out.below (b0 _))).mono ?_; rintro e W1 ⟨rfl, b1⟩; have hv1 := (b1.block w.heap.size (by simp)).trans (heap_alloc_new w _); have ⟨c0, c1, c2, cf⟩ := cells_of hv1; have k1 : Below w.heap.size w W1 := (b0 _).trans (b1.mono (by simp)))
      | (go_at_call_of 10 (Value.agg #[Value.int .i64 f, Value.int .i64 b, Value.int .i64 x]); refine (check_agg f b x _ _ HC.out).mono ?_; rintro e W2 ⟨rfl, b2⟩; have hv2 := (b2.block w.heap.size (Array.getElem?_eq_some_iff.1 hv1).1).trans hv1; have ⟨d0, d1, d2, df⟩ := cells_of hv2; have k2 : Below w.heap.size w W2 := k1.trans (b2.mono k1.size))
      | (go_at_call 12; refine (apply_agg f b x f' b' x' v xs _ (HT.out.next k2) (HI.out.below k2) hlen HW.out HA.out).mono ?_; rintro e W3 ⟨rfl, b3⟩; have k3 : Below w.heap.size w W3 := k2.trans (b3.mono k2.size))
      | (go_at_call 10; refine (check_agg f' b' x' _ _ HK.out).mono ?_; rintro e W4 ⟨rfl, b4⟩))
    go_ret
    exact ⟨rfl, k3.trans (b4.mono k3.size)⟩
end Sty
end Go.Proofs.YtfjbngipidimmaaDoor
