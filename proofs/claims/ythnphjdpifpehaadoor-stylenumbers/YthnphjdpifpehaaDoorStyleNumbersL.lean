/- The walk of the law StyleNumbers. -/
import Derived.Test.YthnphjdpifpehaaDoorStyleNumbersW
import Derived.Test.YthnphjdpifpehaaDoorStyleLooked
import Derived.Deep.RegionHeld3
namespace Go.Proofs.YthnphjdpifpehaaDoor
open Go.ChangeShapes Go.WideShapes Go.ChangeAt Go.RowKit
namespace Sty
theorem cell_keep {W W' : World} {a : Addr} {v : Value} (hb : Below W.heap.size W W') (h : W.cell? a = some v) : W'.cell? a = some v := by
  have hlt := World.block_lt_of_cell? W a h
  rw [← h]
  unfold World.cell?
  rw [hb.block _ hlt]
theorem next6 {w W W' : World} {n : Nat} {a0 a1 a2 b0 b1 b2 : Value} (hb : Below W.heap.size W W')
    (h : Below w.heap.size w W ∧ W.cell? ⟨n, 0, none⟩ = some a0 ∧ W.cell? ⟨n, 1, none⟩ = some a1 ∧ W.cell? ⟨n, 2, none⟩ = some a2 ∧ W.cell? ⟨n+1, 0, none⟩ = some b0 ∧ W.cell? ⟨n+1, 1, none⟩ = some b1 ∧ W.cell? ⟨n+1, 2, none⟩ = some b2) :
    Below w.heap.size w W' ∧ W'.cell? ⟨n, 0, none⟩ = some a0 ∧ W'.cell? ⟨n, 1, none⟩ = some a1 ∧ W'.cell? ⟨n, 2, none⟩ = some a2 ∧ W'.cell? ⟨n+1, 0, none⟩ = some b0 ∧ W'.cell? ⟨n+1, 1, none⟩ = some b1 ∧ W'.cell? ⟨n+1, 2, none⟩ = some b2 := by
  obtain ⟨k0, d0, d1, d2, d3, d4, d5⟩ := h
  exact ⟨k0.trans (hb.mono k0.size), cell_keep hb d0, cell_keep hb d1, cell_keep hb d2, cell_keep hb d3, cell_keep hb d4, cell_keep hb d5⟩
theorem start6 (w : World) (a0 a1 a2 b0 b1 b2 : Value) (t u : TypeId) (W : World) (hW : W = ((w.alloc (.cells #[a0, a1, a2] t)).alloc (.cells #[b0, b1, b2] u)).drew) :
    Below w.heap.size w W ∧ W.cell? ⟨w.heap.size, 0, none⟩ = some a0 ∧ W.cell? ⟨w.heap.size, 1, none⟩ = some a1 ∧ W.cell? ⟨w.heap.size, 2, none⟩ = some a2 ∧ W.cell? ⟨w.heap.size+1, 0, none⟩ = some b0 ∧ W.cell? ⟨w.heap.size+1, 1, none⟩ = some b1 ∧ W.cell? ⟨w.heap.size+1, 2, none⟩ = some b2 := by
  have x0 : ((w.alloc (.cells #[a0, a1, a2] t)).alloc (.cells #[b0, b1, b2] u)).heap[w.heap.size]? = some (.cells #[a0, a1, a2] t (0, 0)) := (Below.heap_alloc _ _ _ (by simp)).trans (heap_alloc_new _ _)
  have x1 : ((w.alloc (.cells #[a0, a1, a2] t)).alloc (.cells #[b0, b1, b2] u)).heap[w.heap.size + 1]? = some (.cells #[b0, b1, b2] u (0, 0)) := by
    have := heap_alloc_new (w.alloc (.cells #[a0, a1, a2] t)) (.cells #[b0, b1, b2] u)
    simpa using this
  have ⟨c0, c1, c2, _⟩ := cells_of x0
  have ⟨d0, d1, d2, _⟩ := cells_of x1
  subst hW
  refine ⟨(((Below.refl _ w).alloc (Nat.le_refl _) _).alloc (by simp) _).drew, ?_, ?_, ?_, ?_, ?_, ?_⟩
  all_goals (rw [World.cell?_drew]; assumption)
theorem adds_len' (a b : Int × Int × Int) : (addsL a b).length ≤ 100 := by
  have hcl : ∀ c m : Int, (colL c m).length ≤ 3 := by
    intro c m
    unfold colL
    repeat' split
    all_goals simp
  have hb : (bitsL a.2.2 b.2.2 looks).length ≤ 7 := by
    unfold bitsL
    rw [List.length_map]
    exact List.length_filter_le _ _
  unfold addsL
  have h1 := hcl b.1 0
  have h2 := hcl b.2.1 10
  simp only [List.length_append]
  split <;> split <;> simp <;> omega
theorem nums_len' (b : Int × Int × Int) : (numsOf b).length ≤ 100 := by
  unfold numsOf
  split
  · exact adds_len' _ _
  · simp
theorem turn_len' (a b : Int × Int × Int) : (turnOf a b).length ≤ 200 := by
  unfold turnOf
  have h1 := adds_len' a b
  have h2 := nums_len' b
  repeat' split
  all_goals simp
  all_goals omega
set_option maxHeartbeats 1000000 in
theorem styleNumbers_walk (af ab ax bf bb bx : Int) (w : World) (hT : Tab w) (hP : P10 w) :
    Calls Tryd.prog 4 #[.agg #[.int .i64 af, .int .i64 ab, .int .i64 ax], .agg #[.int .i64 bf, .int .i64 bb, .int .i64 bx]] w fun e w' => e = .returned (.bool true) ∧ Below w.heap.size w w' := by
  have HT : Hid (∀ W, Below w.heap.size w W → Tab W) := fun W k => hT.below k hT.pos
  have HP : Hid (P10 w) := hP
  have hn : (numsOf (af, ab, ax)).length ≤ 1000000 := Nat.le_trans (nums_len' _) (by decide)
  have ht : (turnOf (af, ab, ax) (bf, bb, bx)).length ≤ 1000000 := Nat.le_trans (turn_len' _ _) (by decide)
  have HN : Hid ((numsOf (af, ab, ax)).length ≤ 1000000) := hn
  have HU : Hid ((turnOf (af, ab, ax) (bf, bb, bx)).length ≤ 1000000) := ht
  clear hT hP hn ht
  have k0 : Below w.heap.size w ((w.alloc (.cells #[.int .i64 af, .int .i64 ab, .int .i64 ax] 23)).alloc (.cells #[.int .i64 bf, .int .i64 bb, .int .i64 bx] 23)).drew := (((Below.refl _ w).alloc (Nat.le_refl _) _).alloc (by simp) _).drew
  go_enter Tryd.func4, Tryd.ntmps4
  go_wp2_with fail
  go_region_held3 (fun W => Below w.heap.size w W ∧ W.cell? ⟨w.heap.size, 0, none⟩ = some (.int .i64 af) ∧ W.cell? ⟨w.heap.size, 1, none⟩ = some (.int .i64 ab) ∧ W.cell? ⟨w.heap.size, 2, none⟩ = some (.int .i64 ax) ∧ W.cell? ⟨w.heap.size+1, 0, none⟩ = some (.int .i64 bf) ∧ W.cell? ⟨w.heap.size+1, 1, none⟩ = some (.int .i64 bb) ∧ W.cell? ⟨w.heap.size+1, 2, none⟩ = some (.int .i64 bx))
    (first
      | (exact next6 b7 (by assumption))
      | (exact next6 b6 (by assumption))
      | (exact next6 b5 (by assumption))
      | (exact next6 b4 (by assumption))
      | (exact next6 b3 (by assumption))
      | (exact next6 b2 (by assumption))
      | (exact next6 b1 (by assumption))
      | (exact start6 w _ _ _ _ _ _ _ _ _ rfl))
    (first
      | (go_at_call 6; refine (looked_any _ (HT.out _ k0) (HP.out.below k0)).mono ?_; rintro e W1 ⟨rfl, b1⟩; have k1 := k0.trans (b1.mono k0.size))
      | (go_at_call 12; refine (numbers_own af ab ax _ (HT.out _ k1)).mono ?_; rintro e W2 ⟨v2, rfl, o2, -, b2⟩; have k2 := k1.trans (b2.mono k1.size))
      | (go_at_call 13; refine (numbersOf_own af ab ax _).mono ?_; rintro e W3 ⟨v3, rfl, o3, -, b3⟩; have k3 := k2.trans (b3.mono k2.size))
      | (go_at_call 14; refine (turn_own af ab ax bf bb bx _ (HT.out _ k4)).mono ?_; rintro e W5 ⟨v5, rfl, o5, b5⟩; have k5 := k4.trans (b5.mono k4.size))
      | (go_at_call 15; refine (tref_own af ab ax bf bb bx _).mono ?_; rintro e W6 ⟨v6, rfl, o6, b6⟩; have k6 := k5.trans (b6.mono k5.size))
      | (go_at_call_of 11 v6; refine (equal_same v5 v6 _ _ ((own_ints o5).below b6) (own_ints o6) HU.out).mono ?_; rintro e W7 ⟨rfl, b7⟩; have k7 := k6.trans (b7.mono k6.size))
      | (go_at_call 11; refine (equal_same v2 v3 _ _ ((own_ints o2).below b3) (own_ints o3) HN.out).mono ?_; rintro e W4 ⟨rfl, b4⟩; have k4 := k3.trans (b4.mono k3.size)))
  go_wp2_with fail
  go_ret
  exact ⟨rfl, k7⟩
end Sty
end Go.Proofs.YthnphjdpifpehaaDoor
