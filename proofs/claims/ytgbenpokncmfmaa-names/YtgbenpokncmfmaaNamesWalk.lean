/- The Go function Names (every constant of package api has its value) returns true, in whatever memory; no condition. This text: the walk of slices.Equal at two equal lists of ints. -/
import Derived.Test.YtgbenpokncmfmaaRows
import Derived.WalkKit
import Derived.ProofKit
import Derived.OpenShut
import Derived.RegionTactic
import Derived.Deep.LoopGhost
import Derived.Deep.Draws
namespace Go.Proofs.Ytgbenpokncmfmaa.names
open Go.ChangeShapes Go.WideShapes Go.ChangeAt Go.RowKit

set_option maxHeartbeats 400000 in
theorem equal_same (b1 b2 o1 o2 : Nat) (l : List Int) (n c1 c2 : Nat) (w : World) (hn : n ≤ 1000)
    (h1 : ∀ k : Nat, k < n → w.cell? ⟨b1, o1 + k, none⟩ = some (.int .i64 (l.getD k 0)))
    (h2 : ∀ k : Nat, k < n → w.cell? ⟨b2, o2 + k, none⟩ = some (.int .i64 (l.getD k 0))) :
    Calls Try.prog 4 #[.slice (some ⟨b1, o1, none⟩) n c1, .slice (some ⟨b2, o2, none⟩) n c2] w fun e w' => e = .returned (.bool true) ∧ ∃ q, w' = w.drewN q := by
  go_enter Try.func4, Try.ntmps4
  go_wp2
  go_loopg [13] n (fun g s13 wr => ∃ k q : Nat, k ≤ n ∧ n - k ≤ g ∧ s13 = .int .i64 k ∧ wr = w.drewN q)
  case atStart => exact ⟨0, 0, Nat.zero_le _, by omega, rfl, rfl⟩
  case round =>
    obtain ⟨k, q, hk, hg, rfl, rfl⟩ := hrel
    by_cases hlt : k < n
    · have g1 := h1 k hlt
      have g2 := h2 k hlt
      clear h1 h2
      generalize l.getD k 0 = x at g1 g2
      go_wp2_with fail
      go_region
      go_wp2
      go_roundg (n - (k + 1))
      case measure => omega
      case rel => exact ⟨k + 1, q + 1, by omega, by omega, by go_num, rfl⟩
    · have : k = n := by omega
      subst this
      clear h1 h2
      go_wp2
      go_ret
      exact ⟨rfl, q, rfl⟩

theorem cells_at (W : World) (l : List Int) (t : TypeId) (b : Nat) (hb : b = W.heap.size) (k : Nat) (hk : k < l.length) :
    (W.alloc (.cells (l.map (Value.int .i64)).toArray t)).cell? ⟨b, 0 + k, none⟩ = some (.int .i64 (l.getD k 0)) := by
  rw [World.cell?_alloc_at _ _ _ _ hb]
  simp [hk]
theorem grown_drewN {W w' : World} (h : Grown W w') (n : Nat) : Grown W (w'.drewN n) := h
theorem cells_past (W : World) (o : Obj) (b k : Nat) (v : Value) (hb : b < W.heap.size) (h : W.cell? ⟨b, k, none⟩ = some v) :
    (W.alloc o).cell? ⟨b, k, none⟩ = some v := by
  rw [World.cell?_alloc_past _ _ _ hb]; exact h

set_option maxHeartbeats 400000 in
theorem walk (w : World) :
    Calls Try.prog 3 #[] w fun e w' => e = .returned (.bool true) ∧ Grown w w' := by
  go_enter Try.func3, Try.ntmps3
  go_wp2_with fail
  have G : Hid (Grown w (w.alloc (.cells #[.int .i64 0, .int .i64 1, .int .i64 2, .int .i64 3, .int .i64 4, .int .i64 5, .int .i64 6, .int .i64 7, .int .i64 8, .int .i64 9, .int .i64 10] 22))) := (Grown.refl w).alloc _ _
  have C : Hid (∀ k : Nat, k < 11 → (w.alloc (.cells #[.int .i64 0, .int .i64 1, .int .i64 2, .int .i64 3, .int .i64 4, .int .i64 5, .int .i64 6, .int .i64 7, .int .i64 8, .int .i64 9, .int .i64 10] 22)).cell? ⟨w.heap.size, k, none⟩ = some (.int .i64 (k : Int))) := by
    intro k hk
    rw [World.cell?_alloc_at _ _ _ _ rfl]
    have : k = 0 ∨ k = 1 ∨ k = 2 ∨ k = 3 ∨ k = 4 ∨ k = 5 ∨ k = 6 ∨ k = 7 ∨ k = 8 ∨ k = 9 ∨ k = 10 := by omega
    rcases this with rfl | rfl | rfl | rfl | rfl | rfl | rfl | rfl | rfl | rfl | rfl <;> rfl
  generalize (w.alloc (.cells #[.int .i64 0, .int .i64 1, .int .i64 2, .int .i64 3, .int .i64 4, .int .i64 5, .int .i64 6, .int .i64 7, .int .i64 8, .int .i64 9, .int .i64 10] 22)) = W at *
  generalize w.heap.size = b at C ⊢
  go_loopg [9] 11 (fun g s wr => ∃ k : Nat, k ≤ 11 ∧ 11 - k ≤ g ∧ s = .int .i64 k ∧ wr = W)
  case atStart => exact ⟨0, Nat.zero_le _, by omega, rfl, rfl⟩
  case round =>
    obtain ⟨k, hk, hg, rfl, rfl⟩ := hrel
    by_cases hlt : k < 11
    · have g1 := C.out k hlt
      go_wp2_with fail
      go_roundg (11 - (k + 1))
      case measure => omega
      case rel => exact ⟨k + 1, by omega, by omega, by go_num, rfl⟩
    · have : k = 11 := by omega
      subst this
      go_wp2_with fail
      refine (equal_same _ _ _ _ [4000, 120, 60, 50, 16, 9999, 64, 12, 6, 4, 4, 5, 20, 6000, 200, 20, 256] _ _ _ _ (by decide) ?_ ?_).mono ?_
      · intro k hk
        refine cells_past _ _ _ _ _ (by simp; try omega) (cells_past _ _ _ _ _ (by simp; try omega) ?_)
        exact cells_at _ [4000, 120, 60, 50, 16, 9999, 64, 12, 6, 4, 4, 5, 20, 6000, 200, 20, 256] _ _ rfl k hk
      · intro k hk
        exact cells_at _ [4000, 120, 60, 50, 16, 9999, 64, 12, 6, 4, 4, 5, 20, 6000, 200, 20, 256] _ _ (by simp; try omega) k hk
      rintro e w1 ⟨rfl, q, rfl⟩
      go_wp2_with fail
      refine (equal_same _ _ _ _ [1, 2, 4, 8, 16, 32, 64, 1, 2, 3, 4, 5, 0, 1, 2, 3, 4, 5, 1, 2, 4, 8, 16, 32, 1, 2, 3, 4, 5, 6, 7, 8, 9, 10, 11, 12, 13, 14, 15, 1, 2, 4, 0, 1, 2, 1, 2, 3, 4] _ _ _ _ (by decide) ?_ ?_).mono ?_
      · intro k hk
        refine cells_past _ _ _ _ _ (by simp; try omega) ?_
        show World.cell? _ _ = _
        rw [World.cell?_drewN]
        refine cells_past _ _ _ _ _ (by simp; try omega) ?_
        exact cells_at _ [1, 2, 4, 8, 16, 32, 64, 1, 2, 3, 4, 5, 0, 1, 2, 3, 4, 5, 1, 2, 4, 8, 16, 32, 1, 2, 3, 4, 5, 6, 7, 8, 9, 10, 11, 12, 13, 14, 15, 1, 2, 4, 0, 1, 2, 1, 2, 3, 4] _ _ (by simp; try omega) k hk
      · intro k hk
        exact cells_at _ [1, 2, 4, 8, 16, 32, 64, 1, 2, 3, 4, 5, 0, 1, 2, 3, 4, 5, 1, 2, 4, 8, 16, 32, 1, 2, 3, 4, 5, 6, 7, 8, 9, 10, 11, 12, 13, 14, 15, 1, 2, 4, 0, 1, 2, 1, 2, 3, 4] _ _ (by simp; try omega) k hk
      rintro e w1 ⟨rfl, q2, rfl⟩
      go_wp2
      go_ret
      exact ⟨rfl, grown_drewN (Grown.alloc (grown_drewN (Grown.alloc (Grown.alloc (Grown.alloc G.out _ _) _ _) _ _) _) _ _) _⟩
end Go.Proofs.Ytgbenpokncmfmaa.names
