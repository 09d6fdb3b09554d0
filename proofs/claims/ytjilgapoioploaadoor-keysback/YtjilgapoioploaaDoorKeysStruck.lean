/- The closed fact: an arrow with something held. -/
import Derived.Test.YtjilgapoioploaaDoorKeysEq
import Derived.Test.YtjilgapoioploaaDoorKeysWr2
namespace Go.Proofs.YtjilgapoioploaaDoor
open Go.ChangeShapes Go.WideShapes Go.ChangeAt Go.RowKit
namespace Kys
open Txt (wd bs dec)
theorem rd_struck : rd [27, 91, 49, 59, 53, 65, 113, 27] false = ([⟨6, 0, 0, 4⟩, ⟨1, 113, 0, 0⟩], [27]) := by decide +kernel
theorem wr_struck : wr ⟨6, 0, 0, 4⟩ true = [27, 91, 49, 59, 53, 65] := by decide +kernel
theorem two_keys (W : World) (a b c d p q r z : Int) : KSl (W.alloc (.cells #[.int .i64 a, .int .i32 b, .int .i64 c, .int .i64 d, .int .i64 p, .int .i32 q, .int .i64 r, .int .i64 z] 23)) (.slice (some ⟨W.heap.size, 0, none⟩) 2 2) [⟨a, b, c, d⟩, ⟨p, q, r, z⟩] := by
  refine .inr ⟨by simp, W.heap.size, 0, 2, rfl, fun j hj => ?_⟩
  have hc : ∀ i, (W.alloc (.cells #[.int .i64 a, .int .i32 b, .int .i64 c, .int .i64 d, .int .i64 p, .int .i32 q, .int .i64 r, .int .i64 z] 23)).cell? ⟨W.heap.size, i, none⟩ = #[.int .i64 a, .int .i32 b, .int .i64 c, .int .i64 d, .int .i64 p, .int .i32 q, .int .i64 r, .int .i64 z][i]? := fun i => by
    unfold World.cell?
    rw [heap_alloc_new]
    rfl
  simp only [hc]
  have : j = 0 ∨ j = 1 := by simp at hj; omega
  rcases this with rfl | rfl <;> exact ⟨rfl, rfl, rfl, rfl⟩
set_option maxHeartbeats 4000000 in
set_option maxRecDepth 100000 in
theorem struck_any (w : World) (hE : Env w) : Calls Tryd.prog 10 #[] w fun e w' => e = .returned (.bool true) ∧ Below w.heap.size w w' := by
  have HW := write_6 0 0 4 true w hE.tab (by decide +kernel) (by decide) (by decide)
  rw [wr_struck] at HW
  have HRd := fun W (h : Env W) => read_any ⟨#[27, 91, 49, 59, 53, 65, 113, 27]⟩ false (by decide) W h
  rw [show (⟨#[27, 91, 49, 59, 53, 65, 113, 27]⟩ : ByteArray).data.toList = [27, 91, 49, 59, 53, 65, 113, 27] from rfl, rd_struck] at HRd
  simp only at HRd
  rw [show bs [27, 91, 49, 59, 53, 65] = ⟨#[27, 91, 49, 59, 53, 65]⟩ from rfl] at HW
  rw [show bs [27] = ⟨#[27]⟩ from rfl] at HRd
  have HEq := fun v1 v2 W h1 h2 => equal_any v1 v2 [⟨6, 0, 0, 4⟩, ⟨1, 113, 0, 0⟩] W h1 h2 (by simp)
  unfold kyv at HW
  simp only at HW
  go_enter Tryd.func10, Tryd.ntmps10
  go_wp2_with (first | (go_at_call 8; refine HW.mono ?_; rintro e W1 ⟨rfl, b1⟩) | (go_at_call 13; refine (HRd _ (hE.below b1)).mono ?_; rintro e W2 ⟨v, rfl, ho, b2⟩) | (go_at_call 15; refine (HEq _ _ _ (ho.sl.below ((Below.refl _ _).alloc (Nat.le_refl _) _)) (two_keys _ _ _ _ _ _ _ _ _)).mono ?_; rintro e W3 ⟨rfl, b3⟩))
  go_ret
  have k2 := b1.trans (b2.mono b1.size)
  have k3 := k2.alloc k2.size (.cells #[.int .i64 6, .int .i32 0, .int .i64 0, .int .i64 4, .int .i64 1, .int .i32 113, .int .i64 0, .int .i64 0] 23)
  exact ⟨rfl, k3.trans (b3.mono k3.size)⟩
end Kys
end Go.Proofs.YtjilgapoioploaaDoor
