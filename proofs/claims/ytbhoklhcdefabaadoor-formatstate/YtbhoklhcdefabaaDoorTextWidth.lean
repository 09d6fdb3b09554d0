/- The walks of text.Width and of the reference's WidthOf: both tell Txt.wd, for every int32. -/
import Derived.Test.YtbhoklhcdefabaaDoorRows
import Derived.Test.YtbhoklhcdefabaaDoorTextMath
import Derived.WalkKit
import Derived.ProofKit
import Derived.OpenShut
import Derived.Deep.LoopGhost
import Derived.Deep.Draws
import Derived.Laws.Rows
namespace Go.Proofs.YtbhoklhcdefabaaDoor
open Go.ChangeShapes Go.WideShapes Go.ChangeAt Go.RowKit
namespace Txt

/-- The cells of the table of spans. -/
def cell3 (x : Int × Int × Int) : List Value := [.int .i32 x.1, .int .i32 x.2.1, .int .i64 x.2.2]
def spanCells : Array Value := (spans.flatMap cell3).toArray
/-- The table lies where the program's start lays it. -/
def Tab (w : World) : Prop := ∃ (t : TypeId) (fr : Nat × Nat), w.heap[0]? = some (.cells spanCells t fr)
theorem Tab.below {B : Nat} {w w' : World} (h : Tab w) (hb : Below B w w') (hB : 0 < B) : Tab w' := by
  unfold Tab at h ⊢
  rw [hb.block _ hB]; exact h
theorem Tab.pos {w : World} (h : Tab w) : 0 < w.heap.size := by
  obtain ⟨t, fr, h⟩ := h
  have := (Array.getElem?_eq_some_iff.1 h).1
  omega

theorem ret_int {k : IntKind} {a b : Int} (h : a = b) : Ending.returned (.int k a) = .returned (.int k b) := by rw [h]
theorem spans_at (k : Nat) (hk : k < 21) : ∃ a b c : Int, spans.drop k = (a, b, c) :: spans.drop (k + 1) ∧
    ∀ wr : World, (Instr.index 85 (.agg spanCells) (.int .i64 (k : Int))).run Tryd.prog wr = .ok (.agg #[.int .i32 a, .int .i32 b, .int .i64 c]) wr := by
  have : k = 0 ∨ k = 1 ∨ k = 2 ∨ k = 3 ∨ k = 4 ∨ k = 5 ∨ k = 6 ∨ k = 7 ∨ k = 8 ∨ k = 9 ∨ k = 10 ∨ k = 11 ∨ k = 12 ∨ k = 13 ∨ k = 14 ∨ k = 15 ∨ k = 16 ∨ k = 17 ∨ k = 18 ∨ k = 19 ∨ k = 20 := by omega
  rcases this with rfl | rfl | rfl | rfl | rfl | rfl | rfl | rfl | rfl | rfl | rfl | rfl | rfl | rfl | rfl | rfl | rfl | rfl | rfl | rfl | rfl <;>
    exact ⟨_, _, _, rfl, fun wr => by kernel_rfl⟩

set_option maxRecDepth 100000 in
set_option maxHeartbeats 400000 in
theorem width_any (r : Int) (w : World) (hT : Tab w) :
    Calls Tryd.prog 39 #[.int .i32 r] w fun e w' => e = .returned (.int .i64 (wd r)) ∧ Below w.heap.size w w' := by
  by_cases h0 : r < 0
  · have hw : wd r = 0 := by unfold wd; rw [if_pos (Or.inl h0)]
    rw [hw]
    clear hw hT
    go_enter Tryd.func39, Tryd.ntmps39
    go_wp2
    go_ret
    exact ⟨rfl, Below.refl _ _⟩
  · by_cases h1 : 1114111 < r
    · have hw : wd r = 0 := by unfold wd; rw [if_pos (Or.inr h1)]
      rw [hw]
      clear hw hT
      go_enter Tryd.func39, Tryd.ntmps39
      go_wp2
      go_ret
      exact ⟨rfl, Below.refl _ _⟩
    · have hw : wd r = look spans r := by unfold wd; rw [if_neg (by omega)]
      rw [hw]
      clear hw
      obtain ⟨tt, fr, hT⟩ := hT
      have HT : Hid (w.heap[0]? = some (.cells spanCells tt fr)) := hT
      clear hT
      go_enter Tryd.func39, Tryd.ntmps39
      go_wp2_with (refine wpList_load_row rfl 85 (.global 0) rfl 0 rfl _ spanCells _ _ HT.out Tryd.underlying85 rfl (by kernel_rfl) ?_)
      go_loopg [12] 21 (fun g s wr => ∃ k : Nat, k ≤ 21 ∧ 21 - k ≤ g ∧ s = .int .i64 k ∧ Below w.heap.size w wr ∧ look (spans.drop k) r = look spans r)
      case atStart => exact ⟨0, Nat.zero_le _, by omega, rfl, Below.refl _ _, rfl⟩
      case round =>
        obtain ⟨k, hk, hg, rfl, hb, hl⟩ := hrel
        have HL : Hid (look (spans.drop k) r = look spans r) := hl
        clear hl
        by_cases hlt : k < 21
        · obtain ⟨a, b, c, hd, hi⟩ := spans_at k hlt
          have HD : Hid (spans.drop k = (a, b, c) :: spans.drop (k + 1)) := hd
          clear hd
          have hi := hi wr
          have hsz := hb.size
          go_wp2_with fail
          · rename_i hra
            go_ret
            exact ⟨ret_int (by rw [← HL.out, HD.out]; simp [look, hra]), hb.alloc hsz _⟩
          · rename_i hra hrb
            go_ret
            exact ⟨ret_int (by rw [← HL.out, HD.out]; simp only [look]; rw [if_neg (by omega), if_pos hrb]), hb.alloc hsz _⟩
          · rename_i hra hrb
            go_roundg (21 - (k + 1))
            case measure => omega
            case rel => exact ⟨k + 1, by omega, by omega, by go_num, hb.alloc hsz _, by rw [← HL.out, HD.out]; simp only [look]; rw [if_neg (by omega), if_neg (by omega)]⟩
        · have : k = 21 := by omega
          subst this
          go_wp2_with fail
          go_ret
          exact ⟨ret_int (by rw [← HL.out]; rfl), hb⟩

end Txt
end Go.Proofs.YtbhoklhcdefabaaDoor
