/- The walk of the law StyleApply. -/
import Derived.Test.YthnphjdpifpehaaDoorStyleRefB
import Derived.Test.YthnphjdpifpehaaDoorStyleRef2
import Derived.Test.YthnphjdpifpehaaDoorStyleNumbersW
import Derived.Test.YthnphjdpifpehaaDoorStyleLooked
import Derived.Deep.RegionHeld3
namespace Go.Proofs.YthnphjdpifpehaaDoor
open Go.ChangeShapes Go.WideShapes Go.ChangeAt Go.RowKit
namespace Sty
theorem clone_any (v : Value) (xs : List Int) (w : World) (hI : IntsAt w v xs) (hlen : xs.length * 8 ≤ 140737488355328) :
    Calls Tryd.prog 5 #[v] w fun e w' => ∃ v', e = .returned v' ∧ IntsAt w' v' xs ∧ Below w.heap.size w w' := by
  rcases hI with ⟨rfl, a, c, rfl⟩ | ⟨h0, b, o, c, rfl, hc, hR⟩
  · rcases a with _ | a
    · exact (Tryd.slices_Clone_int_nil 0 c w).mono fun e w' ⟨he, hw⟩ => ⟨_, he, .inl ⟨rfl, none, 0, rfl⟩, by rw [hw]; exact Below.refl _ _⟩
    · exact (Tryd.slices_Clone_int_zero a c w).mono fun e w' ⟨v', he, hown, _, hb⟩ => ⟨v', he, own_ints (xs := []) hown, hb⟩
  · refine (Tryd.slices_Clone_int b o xs.length c xs w (Nat.le_refl _) hlen hR).mono fun e w' ⟨v', he, hown, _, hb⟩ => ⟨v', he, ?_, hb⟩
    rw [List.take_length] at hown
    exact own_ints hown
set_option maxHeartbeats 1000000 in
theorem applyTo_any (f b x f' b' x' : Int) (v : Value) (xs : List Int) (w : World) (hI : IntsAt w v xs) (hlen : xs.length ≤ 140737488355328) (hw : ∀ x ∈ xs, -9223372036854775808 ≤ x ∧ x ≤ 9223372036854775807) (h : applyT (f, b, x) xs = (f', b', x')) :
    Calls Tryd.prog 10 #[.agg #[.int .i64 f, .int .i64 b, .int .i64 x], v] w fun e w' => e = .returned (.agg #[.int .i64 f', .int .i64 b', .int .i64 x']) ∧ Below w.heap.size w w' := by
  rcases hI with ⟨rfl, a, c, rfl⟩ | ⟨h0, bl, o, c, rfl, hc, hR⟩
  · have h' : (0, 0, 0) = (f', b', x') := h
    simp only [Prod.mk.injEq] at h'
    obtain ⟨rfl, rfl, rfl⟩ := h'
    clear hw hlen h
    go_enter Tryd.func10, Tryd.ntmps10
    go_wp2
    (try simp only [Exit.inBlock, Exit.then])
    refine bodyPost_ret (v := stv (0, 0, 0)) ?_ rfl ⟨rfl, (((Below.refl _ _).alloc (Nat.le_refl _) _).alloc (by simp) _).alloc (by simp; omega) _⟩
    exact results_cell_row rfl _ _ (w.heap.size + 1) _ _ _ _ rfl ((Below.heap_alloc _ _ _ (by simp)).trans (new2 w _ _ _)) Tryd.underlying23 rfl (by kernel_rfl)
  · have := applyTo_some (f, b, x) bl o c xs w hR h0 hlen hc hw
    unfold applyT at h
    rw [if_neg h0] at h
    rw [h] at this
    exact this
theorem equal_long (v1 v2 : Value) (xs : List Int) (w : World) (h1 : IntsAt w v1 xs) (h2 : IntsAt w v2 xs) (hl : xs.length ≤ 140737488355328) :
    Calls Tryd.prog 11 #[v1, v2] w fun e w' => e = .returned (.bool true) ∧ Below w.heap.size w w' := by
  rcases h1 with ⟨rfl, a, c, rfl⟩ | ⟨h0, b, o, c, rfl, hc, hR⟩
  · rcases h2 with ⟨_, a2, c2, rfl⟩ | ⟨h0, _⟩
    · exact (Tryd.slices_Equal_int_empty a a2 c 0 c2 w (by omega)).mono fun e w' ⟨he, hw⟩ => ⟨he, by rw [hw]; exact Below.refl _ _⟩
    · exact absurd rfl h0
  · rcases h2 with ⟨rfl, _⟩ | ⟨_, b2, o2, c2, rfl, hc2, hR2⟩
    · exact absurd rfl h0
    · refine (Tryd.slices_Equal_int b o xs.length c b2 o2 xs.length c2 xs xs w (Nat.le_refl _) (Nat.le_refl _) (by omega) (by omega) hR hR2).mono fun e w' ⟨he, q, hw⟩ => ⟨by rw [he]; simp, by rw [hw]; exact below_drewN (Below.refl _ _) q⟩
theorem next3 {w W W' : World} {n : Nat} {a0 a1 a2 : Value} (hb : Below W.heap.size W W')
    (h : Below w.heap.size w W ∧ W.cell? ⟨n, 0, none⟩ = some a0 ∧ W.cell? ⟨n, 1, none⟩ = some a1 ∧ W.cell? ⟨n, 2, none⟩ = some a2) :
    Below w.heap.size w W' ∧ W'.cell? ⟨n, 0, none⟩ = some a0 ∧ W'.cell? ⟨n, 1, none⟩ = some a1 ∧ W'.cell? ⟨n, 2, none⟩ = some a2 := by
  have ck : ∀ {a : Addr} {v : Value}, W.cell? a = some v → W'.cell? a = some v := fun {a v} h => by
    have hlt := World.block_lt_of_cell? W a h
    rw [← h]
    unfold World.cell?
    rw [hb.block _ hlt]
  obtain ⟨k0, d0, d1, d2⟩ := h
  exact ⟨k0.trans (hb.mono k0.size), ck d0, ck d1, ck d2⟩
theorem drew3 {w W : World} {n : Nat} {a0 a1 a2 : Value}
    (h : Below w.heap.size w W ∧ W.cell? ⟨n, 0, none⟩ = some a0 ∧ W.cell? ⟨n, 1, none⟩ = some a1 ∧ W.cell? ⟨n, 2, none⟩ = some a2) :
    Below w.heap.size w W.drew ∧ W.drew.cell? ⟨n, 0, none⟩ = some a0 ∧ W.drew.cell? ⟨n, 1, none⟩ = some a1 ∧ W.drew.cell? ⟨n, 2, none⟩ = some a2 := by
  obtain ⟨k0, d0, d1, d2⟩ := h
  exact ⟨k0.drew, by rw [World.cell?_drew]; exact d0, by rw [World.cell?_drew]; exact d1, by rw [World.cell?_drew]; exact d2⟩
set_option maxHeartbeats 1000000 in
theorem styleApply_walk (f b x : Int) (v : Value) (xs : List Int) (w : World) (hT : Tab w) (hP : P10 w) (hI : IntsAt w v xs) (hlen : xs.length * 8 ≤ 140737488355328) (hw : ∀ x ∈ xs, -9223372036854775808 ≤ x ∧ x ≤ 9223372036854775807) :
    Calls Tryd.prog 3 #[.agg #[.int .i64 f, .int .i64 b, .int .i64 x], v] w fun e w' => e = .returned (.bool true) ∧ Below w.heap.size w w' := by
  have HT : Hid (∀ W, Below w.heap.size w W → Tab W) := fun W k => hT.below k hT.pos
  have HP : Hid (P10 w) := hP
  have HI : Hid (IntsAt w v xs) := hI
  have HW : Hid (∀ x ∈ xs, -9223372036854775808 ≤ x ∧ x ≤ 9223372036854775807) := hw
  rcases ha : applyT (f, b, x) xs with ⟨f', b', x'⟩
  have HA : Hid (applyT (f, b, x) xs = (f', b', x')) := ha
  rcases hs : isSt (f, b, x) with _ | _
  all_goals (
    have he : ∀ w, (binOp .eql 23 (.agg #[.int .i64 f', .int .i64 b', .int .i64 x']) (.agg #[.int .i64 f', .int .i64 b', .int .i64 x'])).run Tryd.prog w = .ok (.bool true) w := fun w => by rw [eq_agg]; simp
    have HC : Hid (isSt (f, b, x) = _) := hs
    clear hT hP hI hw ha hs
    have hl8 : xs.length ≤ 140737488355328 := by omega
    have HWU : Hid (∀ x ∈ xs, x ≤ 9223372036854775807) := fun x hx => (HW.out x hx).2
    have k0 : Below w.heap.size w (w.alloc (.cells #[.int .i64 f, .int .i64 b, .int .i64 x] 23)) := (Below.refl _ w).alloc (Nat.le_refl _) _
    go_enter Tryd.func3, Tryd.ntmps3
    go_wp2_with (go_at_call 5; refine (clone_any v xs _ (HI.out.below k0) hlen).mono ?_; rintro e W0 ⟨v0, rfl, I0, b0⟩)
    have s0 : Below w.heap.size w W0 ∧ W0.cell? ⟨w.heap.size, 0, none⟩ = some (.int .i64 f) ∧ W0.cell? ⟨w.heap.size, 1, none⟩ = some (.int .i64 b) ∧ W0.cell? ⟨w.heap.size, 2, none⟩ = some (.int .i64 x) := by
      have ⟨d0, d1, d2, _⟩ := cells_of (heap_alloc_new w (.cells #[.int .i64 f, .int .i64 b, .int .i64 x] 23))
      exact next3 b0 ⟨k0, d0, d1, d2⟩
    have H0 : Hid (Below w.heap.size w W0.drew) := s0.1.drew
    have HI0 : Hid (IntsAt W0.drew v0 xs) := I0.below (Below.refl _ _).drew
    clear I0
    go_region_held3 (fun W => Below w.heap.size w W ∧ W.cell? ⟨w.heap.size, 0, none⟩ = some (.int .i64 f) ∧ W.cell? ⟨w.heap.size, 1, none⟩ = some (.int .i64 b) ∧ W.cell? ⟨w.heap.size, 2, none⟩ = some (.int .i64 x))
      (first
        | (exact next3 b6 (by assumption))
        | (exact next3 b5 (by assumption))
        | (exact next3 b4 (by assumption))
        | (exact next3 b3 (by assumption))
        | (exact next3 b2 (by assumption))
        | (exact next3 b1 (by assumption))
        | (exact drew3 s0))
      (first
        | (go_at_call 6; refine (looked_any _ (HT.out _ H0.out) (HP.out.below H0.out)).mono ?_; rintro e W1 ⟨rfl, b1⟩; have k1 : Hid (Below w.heap.size w W1) := H0.out.trans (b1.mono H0.out.size); have I1 : Hid (IntsAt W1 v0 xs) := HI0.out.below b1)
        | (go_at_call 7; refine (check_agg f b x _ _ HC.out).mono ?_; rintro e W2 ⟨rfl, b2⟩; have k2 : Hid (Below w.heap.size w W2) := k1.out.trans (b2.mono k1.out.size); have I2 : Hid (IntsAt W2 v0 xs) := I1.out.below b2)
        | (go_at_call 8; refine (isStyle_agg f b x _ _ HC.out).mono ?_; rintro e W3 ⟨rfl, b3⟩; have k3 : Hid (Below w.heap.size w W3) := k2.out.trans (b3.mono k2.out.size); have I3 : Hid (IntsAt W3 v0 xs) := I2.out.below b3)
        | (go_at_call 9; refine (apply_agg f b x f' b' x' v0 xs _ (HT.out _ k3.out) I3.out hl8 HWU.out HA.out).mono ?_; rintro e W4 ⟨rfl, b4⟩; have k4 : Hid (Below w.heap.size w W4) := k3.out.trans (b4.mono k3.out.size); have I4 : Hid (IntsAt W4 v0 xs) := I3.out.below b4)
        | (go_at_call 10; refine (applyTo_any f b x f' b' x' v xs _ (HI.out.below k4.out) hl8 HW.out HA.out).mono ?_; rintro e W5 ⟨rfl, b5⟩; have k5 : Hid (Below w.heap.size w W5) := k4.out.trans (b5.mono k4.out.size); have I5 : Hid (IntsAt W5 v0 xs) := I4.out.below b5)
        | (go_at_call 11; refine (equal_long v0 v xs _ I5.out (HI.out.below k5.out) hl8).mono ?_; rintro e W6 ⟨rfl, b6⟩; have k6 : Hid (Below w.heap.size w W6) := k5.out.trans (b6.mono k5.out.size)))
    go_wp2_with fail
    go_ret
    exact ⟨rfl, k6.out⟩)
end Sty
end Go.Proofs.YthnphjdpifpehaaDoor
