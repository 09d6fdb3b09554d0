/- The walk of the reference's WidthOf: it tells Txt.wd, for every int32. -/
import Derived.Test.YtbhoklhcdefabaaDoorTextWidth
import Derived.Great.Walk
namespace Go.Proofs.YtbhoklhcdefabaaDoor
open Go.ChangeShapes Go.WideShapes Go.ChangeAt Go.RowKit
namespace Txt

def cell2 (x : Int × Int) : List Value := [.int .i32 x.1, .int .i64 x.2]
def edgeCells : Array Value := (edges.flatMap cell2).toArray
theorem flat2 : ∀ (l : List (Int × Int)) (k : Nat) (x : Int × Int), l[k]? = some x → (l.flatMap cell2)[k * 2]? = some (.int .i32 x.1) ∧ (l.flatMap cell2)[k * 2 + 1]? = some (.int .i64 x.2)
  | [], k, x, h => by simp at h
  | y :: t, 0, x, h => by
    obtain rfl := Option.some.inj h
    exact ⟨rfl, rfl⟩
  | y :: t, k + 1, x, h => by
    have := flat2 t k x (by simpa using h)
    rw [show (k + 1) * 2 = k * 2 + 1 + 1 from by omega]
    simpa [List.flatMap_cons, cell2] using this
theorem edges_at (k : Nat) (hk : k < 41) : ∃ a c : Int, edges.drop k = (a, c) :: edges.drop (k + 1) ∧ edgeCells[k * 2]? = some (.int .i32 a) ∧ edgeCells[k * 2 + 1]? = some (.int .i64 c) := by
  match h : edges.drop k with
  | [] => have := congrArg List.length h; simp [edges] at this; omega
  | (a, c) :: t =>
    have hx : edges[k]? = some (a, c) := by
      have := congrArg (fun l => l[0]?) h
      simpa using this
    have hf := flat2 edges k (a, c) hx
    refine ⟨a, c, ?_, by simpa [edgeCells] using hf.1, by simpa [edgeCells] using hf.2⟩
    rw [← List.drop_drop, h]; rfl

set_option maxHeartbeats 4000000 in
theorem widthOf_any (r : Int) (w : World) :
    Calls Tryd.prog 26 #[.int .i32 r] w fun e w' => e = .returned (.int .i64 (wd r)) ∧ Below w.heap.size w w' := by
  by_cases h0 : r < 0
  · have hw : wd r = 0 := by unfold wd; rw [if_pos (Or.inl h0)]
    rw [hw]
    clear hw
    go_enter Tryd.func26, Tryd.ntmps26
    go_wp2
    go_ret
    exact ⟨rfl, Below.refl _ _⟩
  · by_cases h1 : 1114111 < r
    · have hw : wd r = 0 := by unfold wd; rw [if_pos (Or.inr h1)]
      rw [hw]
      clear hw
      go_enter Tryd.func26, Tryd.ntmps26
      go_wp2
      go_ret
      exact ⟨rfl, Below.refl _ _⟩
    · rw [wd_edge r (by omega) (by omega)]
      go_enter Tryd.func26, Tryd.ntmps26
      go_wp2_with (refine Great.wpList_buildSliceTo rfl 73 72 41 _ rfl _ rfl (some 53) rfl Tryd.underlying73 edgeCells (by kernel_rfl) ?_)
      have hb0 : Below (w.heap.size + 1) (w.alloc (.cells edgeCells 72)) (w.alloc (.cells edgeCells 72)) := Below.refl _ _
      have HB : Hid (Below w.heap.size w (w.alloc (.cells edgeCells 72))) := (Below.refl _ _).alloc (Nat.le_refl _) _
      have HE : Hid ((w.alloc (.cells edgeCells 72)).heap[w.heap.size]? = some (.cells edgeCells 72)) := heap_alloc_new _ _
      have hS : w.heap.size + 1 ≤ (w.alloc (.cells edgeCells 72)).heap.size := by simp
      generalize w.alloc (.cells edgeCells 72) = W at *
      generalize hB : w.heap.size = B at *
      have HQ : Hid (w.heap.size = B) := hB
      clear hB
      go_loopg [3, 55] 41 (fun g acc s wr => ∃ (k : Nat) (c : Int), k ≤ 41 ∧ 41 - k ≤ g ∧ s = .int .i64 k ∧ acc = .int .i64 c ∧ Below (B + 1) W wr ∧ edge r (edges.drop k) c = edge r edges 0)
      case atStart => exact ⟨0, 0, Nat.zero_le _, by omega, rfl, rfl, hb0, rfl⟩
      case round =>
        obtain ⟨k, c, hk, hg, rfl, rfl, hb, hl⟩ := hrel
        have HL : Hid (edge r (edges.drop k) c = edge r edges 0) := hl
        clear hl
        by_cases hlt : k < 41
        · obtain ⟨a, c2, hd, hc1, hc2⟩ := edges_at k hlt
          have g1 : wr.cell? ⟨B, k * 2, none⟩ = some (.int .i32 a) := by rw [hb.cell (by show B < B + 1; omega), cell_of_row _ _ _ _ _ _ HE.out]; exact hc1
          have g2 : wr.cell? ⟨B, k * 2 + 1, none⟩ = some (.int .i64 c2) := by rw [hb.cell (by show B < B + 1; omega), cell_of_row _ _ _ _ _ _ HE.out]; exact hc2
          clear hc1 hc2
          have HD : Hid (edges.drop k = (a, c2) :: edges.drop (k + 1)) := hd
          clear hd
          have hsz := hb.size
          go_wp2_with fail
          · rename_i hra
            go_roundg (41 - (k + 1))
            case measure => omega
            case rel => exact ⟨k + 1, c2, by omega, by omega, by go_num, rfl, hb.alloc (by omega) _, by rw [← HL.out, HD.out]; simp only [edge]; rw [if_pos hra]⟩
          · rename_i hra
            go_roundg (41 - (k + 1))
            case measure => omega
            case rel => exact ⟨k + 1, c, by omega, by omega, by go_num, rfl, hb.alloc (by omega) _, by rw [← HL.out, HD.out]; simp only [edge]; rw [if_neg (by omega)]⟩
        · have : k = 41 := by omega
          subst this
          go_wp2_with fail
          go_ret
          exact ⟨ret_int (by rw [← HL.out]; rfl), by rw [HQ.out]; exact HB.out.trans (hb.mono (by omega))⟩
end Txt
end Go.Proofs.YtbhoklhcdefabaaDoor
