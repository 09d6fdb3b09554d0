/- Plain mathematics on the widths of runes: the same width by spans and by edges. It imports nothing of the program. -/
import Derived.WalkKit
import Derived.Test.YtnkeahfcpbepjaaGreatDoorRows
import Derived.ProofKit
import Derived.OpenShut
import Derived.Deep.LoopGhost
import Derived.Deep.Draws
import Derived.Laws.Rows
import Derived.Great.Walk
import Derived.Laws.Tables
import Derived.Laws.CopyOwn
import Derived.Lib.QuietBelow
import Derived.BigQuiet
import Derived.Shelf.Strings.Builder1
import Derived.Shelf.Strings.BuilderF
import Derived.Shelf.Strings.BuilderK
import Derived.Shelf.Strings.BuilderRune
import Derived.Shelf.Utf8.AppendRune
import Derived.Shelf.Utf8.AppendRunePlain
import Derived.Shelf.Utf8.RuneCount
import Derived.Shelf.LaysM
import Derived.Shelf.Strconv.Clone
import Derived.Shelf.Strings.RuneCount
import Derived.Shelf.Bits.Mul64
import Derived.Shelf.Strings.BuilderCap
import Derived.Ground.SlgnProg
import Derived.Shelf.SlicesE.Clone
import Derived.Test.YtnkeahfcpbepjaaGreatDoorProg
namespace Go.Proofs.YtnkeahfcpbepjaaGreatDoor
namespace Txt

/-- The spans of package text: first, last, width. -/
def spans : List (Int × Int × Int) := [(0x0, 0x1F, 0), (0x7F, 0x9F, 0), (0x300, 0x36F, 0), (0x1100, 0x115F, 2), (0x200B, 0x200F, 0), (0x2028, 0x202E, 0), (0x20D0, 0x20FF, 0), (0x2E80, 0x303E, 2), (0x3041, 0x4DBF, 2), (0x4E00, 0xA4CF, 2), (0xAC00, 0xD7A3, 2), (0xD800, 0xDFFF, 0), (0xF900, 0xFAFF, 2), (0xFE00, 0xFE0F, 0), (0xFE30, 0xFE6F, 2), (0xFEFF, 0xFEFF, 0), (0xFF00, 0xFF60, 2), (0xFFE0, 0xFFE6, 2), (0x1F300, 0x1F64F, 2), (0x1F900, 0x1F9FF, 2), (0x20000, 0x3FFFD, 2)]
/-- The edges at which the width changes: from, width. -/
def edges : List (Int × Int) := [(0, 0), (0x20, 1), (0x7f, 0), (0xa0, 1), (0x300, 0), (0x370, 1), (0x1100, 2), (0x1160, 1), (0x200b, 0), (0x2010, 1), (0x2028, 0), (0x202f, 1), (0x20d0, 0), (0x2100, 1), (0x2e80, 2), (0x303f, 1), (0x3041, 2), (0x4dc0, 1), (0x4e00, 2), (0xa4d0, 1), (0xac00, 2), (0xd7a4, 1), (0xd800, 0), (0xe000, 1), (0xf900, 2), (0xfb00, 1), (0xfe00, 0), (0xfe10, 1), (0xfe30, 2), (0xfe70, 1), (0xfeff, 0), (0xff00, 2), (0xff61, 1), (0xffe0, 2), (0xffe7, 1), (0x1f300, 2), (0x1f650, 1), (0x1f900, 2), (0x1fa00, 1), (0x20000, 2), (0x3fffe, 1)]

def look : List (Int × Int × Int) → Int → Int
  | [], _ => 1
  | x :: t, r => if r < x.1 then 1 else if r ≤ x.2.1 then x.2.2 else look t r
def edge (r : Int) : List (Int × Int) → Int → Int
  | [], acc => acc
  | x :: t, acc => edge r t (if x.1 ≤ r then x.2 else acc)
/-- The width of a rune. -/
def wd (r : Int) : Int := if r < 0 ∨ 1114111 < r then 0 else look spans r

/-- Edges that rise: one may stop at the first that is beyond r. -/
def edgeE (r : Int) : List (Int × Int) → Int → Int
  | [], acc => acc
  | x :: t, acc => if r < x.1 then acc else edgeE r t x.2
def rising : List (Int × Int) → Bool
  | [] => true
  | [_] => true
  | x :: y :: t => decide (x.1 < y.1) && rising (y :: t)
theorem edge_beyond (r : Int) : ∀ (l : List (Int × Int)) (acc : Int), rising l = true → (∀ x ∈ l.head?, r < x.1) → edge r l acc = acc
  | [], _, _, _ => rfl
  | [x], acc, _, h => by
    have hx : r < x.1 := h x rfl
    simp only [edge, if_neg (show ¬ x.1 ≤ r by omega)]
  | x :: y :: t, acc, hr, h => by
    have hx : r < x.1 := h x rfl
    simp only [rising, Bool.and_eq_true, decide_eq_true_eq] at hr
    unfold edge
    rw [if_neg (show ¬ x.1 ≤ r by omega)]
    exact edge_beyond r (y :: t) acc hr.2 (fun z hz => by obtain rfl := Option.some.inj hz; omega)
theorem edge_eq (r : Int) : ∀ (l : List (Int × Int)) (acc : Int), rising l = true → edge r l acc = edgeE r l acc
  | [], _, _ => rfl
  | x :: t, acc, hr => by
    have ht : rising t = true := by
      cases t with
      | nil => rfl
      | cons y t => simp only [rising, Bool.and_eq_true] at hr; exact hr.2
    by_cases h : r < x.1
    · rw [edge_beyond r (x :: t) acc hr (fun z hz => by obtain rfl := Option.some.inj hz; exact h)]
      simp [edgeE, h]
    · unfold edge edgeE
      rw [if_neg h, if_pos (show x.1 ≤ r by omega)]
      exact edge_eq r t x.2 ht
theorem look_step (r a b b' c : Int) (hb : b' = b + 1) (t : List (Int × Int × Int)) (u : List (Int × Int)) (ht : b < r → look t r = edgeE r u 1) :
    look ((a, b, c) :: t) r = edgeE r ((a, c) :: (b', 1) :: u) 1 := by
  subst hb
  simp only [look, edgeE]
  by_cases h1 : r < a
  · simp [h1]
  · by_cases h2 : r ≤ b
    · simp [h1, h2, show r < b + 1 by omega]
    · simp only [if_neg h1, if_neg h2, if_neg (show ¬ r < b + 1 by omega)]
      exact ht (by omega)
theorem merge_edge (r a b c a' : Int) (u : List (Int × Int)) : edgeE r ((a, c) :: (b, 1) :: (b, a') :: u) 1 = edgeE r ((a, c) :: (b, a') :: u) 1 := by
  simp only [edgeE]
  by_cases h1 : r < a <;> by_cases h2 : r < b <;> simp [h1, h2]
theorem look_edges (r : Int) (h0 : 0 ≤ r) : look spans r = edge r edges 0 := by
  rw [edge_eq r edges 0 (by decide)]
  have e0 : edgeE r edges 0 = edgeE r edges 1 := by
    unfold edges
    conv => lhs; unfold edgeE
    conv => rhs; unfold edgeE
    rw [if_neg (by show ¬ r < 0; omega), if_neg (by show ¬ r < 0; omega)]
  rw [e0]
  unfold spans edges
  iterate 15 (refine look_step _ _ _ _ _ (by decide) _ _ (fun _ => ?_))
  rw [← merge_edge]
  iterate 6 (refine look_step _ _ _ _ _ (by decide) _ _ (fun _ => ?_))
  rfl
theorem wd_edge (r : Int) (h0 : 0 ≤ r) (h1 : r ≤ 1114111) : wd r = edge r edges 0 := by
  unfold wd
  rw [if_neg (by omega)]
  exact look_edges r h0
theorem look_range (r : Int) : ∀ l : List (Int × Int × Int), (∀ x ∈ l, 0 ≤ x.2.2 ∧ x.2.2 ≤ 2) → 0 ≤ look l r ∧ look l r ≤ 2
  | [], _ => by simp [look]
  | x :: t, h => by
    have hx := h x (by simp)
    have ht := look_range r t (fun y hy => h y (by simp [hy]))
    unfold look
    split
    · omega
    · split <;> omega
theorem wd_range (r : Int) : 0 ≤ wd r ∧ wd r ≤ 2 := by
  unfold wd
  split
  · omega
  · exact look_range r spans (by decide)
end Txt
end Go.Proofs.YtnkeahfcpbepjaaGreatDoor

/- The walks of text.Width and of the reference's WidthOf: both tell Txt.wd, for every int32. -/
namespace Go.Proofs.YtnkeahfcpbepjaaGreatDoor
open Go.ChangeShapes Go.WideShapes Go.ChangeAt Go.RowKit
namespace Txt

/-- The cells of the table of spans. -/
def cell3 (x : Int × Int × Int) : List Value := [.int .i32 x.1, .int .i32 x.2.1, .int .i64 x.2.2]
def spanCells : Array Value := (spans.flatMap cell3).toArray
/-- The table lies where the program's start lays it. -/
def Tab (w : World) : Prop := ∃ (t : TypeId) (fr : Nat × Nat), w.heap[0]? = some (.cells spanCells t fr)
theorem Tab.below {B : Nat} {w w' : World} (h : Tab w) (hb : Below B w w') (hB : 0 < B) : Tab w' := by
  unfold Tab at h ⊢
  rw [hb.block _ hB]; exact h
theorem Tab.pos {w : World} (h : Tab w) : 0 < w.heap.size := by
  obtain ⟨t, fr, h⟩ := h
  have := (Array.getElem?_eq_some_iff.1 h).1
  omega

theorem ret_int {k : IntKind} {a b : Int} (h : a = b) : Ending.returned (.int k a) = .returned (.int k b) := by rw [h]
theorem spans_at (k : Nat) (hk : k < 21) : ∃ a b c : Int, spans.drop k = (a, b, c) :: spans.drop (k + 1) ∧
    ∀ wr : World, (Instr.index 134 (.agg spanCells) (.int .i64 (k : Int))).run Tryz.prog wr = .ok (.agg #[.int .i32 a, .int .i32 b, .int .i64 c]) wr := by
  have : k = 0 ∨ k = 1 ∨ k = 2 ∨ k = 3 ∨ k = 4 ∨ k = 5 ∨ k = 6 ∨ k = 7 ∨ k = 8 ∨ k = 9 ∨ k = 10 ∨ k = 11 ∨ k = 12 ∨ k = 13 ∨ k = 14 ∨ k = 15 ∨ k = 16 ∨ k = 17 ∨ k = 18 ∨ k = 19 ∨ k = 20 := by omega
  rcases this with rfl | rfl | rfl | rfl | rfl | rfl | rfl | rfl | rfl | rfl | rfl | rfl | rfl | rfl | rfl | rfl | rfl | rfl | rfl | rfl | rfl <;>
    exact ⟨_, _, _, rfl, fun wr => by kernel_rfl⟩

set_option maxRecDepth 100000 in
set_option maxHeartbeats 400000 in
theorem width_any (r : Int) (w : World) (hT : Tab w) :
    Calls Tryz.prog 79 #[.int .i32 r] w fun e w' => e = .returned (.int .i64 (wd r)) ∧ Below w.heap.size w w' := by
  by_cases h0 : r < 0
  · have hw : wd r = 0 := by unfold wd; rw [if_pos (Or.inl h0)]
    rw [hw]
    clear hw hT
    go_enter Tryz.func79, Tryz.ntmps79
    go_wp2
    go_ret
    exact ⟨rfl, Below.refl _ _⟩
  · by_cases h1 : 1114111 < r
    · have hw : wd r = 0 := by unfold wd; rw [if_pos (Or.inr h1)]
      rw [hw]
      clear hw hT
      go_enter Tryz.func79, Tryz.ntmps79
      go_wp2
      go_ret
      exact ⟨rfl, Below.refl _ _⟩
    · have hw : wd r = look spans r := by unfold wd; rw [if_neg (by omega)]
      rw [hw]
      clear hw
      obtain ⟨tt, fr, hT⟩ := hT
      have HT : Hid (w.heap[0]? = some (.cells spanCells tt fr)) := hT
      clear hT
      go_enter Tryz.func79, Tryz.ntmps79
      go_wp2_with (refine wpList_load_row rfl 134 (.global 0) rfl 0 rfl _ spanCells _ _ HT.out Tryz.underlying134 rfl (by kernel_rfl) ?_)
      go_loopg [12] 21 (fun g s wr => ∃ k : Nat, k ≤ 21 ∧ 21 - k ≤ g ∧ s = .int .i64 k ∧ Below w.heap.size w wr ∧ look (spans.drop k) r = look spans r)
      case atStart => exact ⟨0, Nat.zero_le _, by omega, rfl, Below.refl _ _, rfl⟩
      case round =>
        obtain ⟨k, hk, hg, rfl, hb, hl⟩ := hrel
        have HL : Hid (look (spans.drop k) r = look spans r) := hl
        clear hl
        by_cases hlt : k < 21
        · obtain ⟨a, b, c, hd, hi⟩ := spans_at k hlt
          have HD : Hid (spans.drop k = (a, b, c) :: spans.drop (k + 1)) := hd
          clear hd
          have hi := hi wr
          have hsz := hb.size
          go_wp2_with fail
          · rename_i hra
            go_ret
            exact ⟨ret_int (by rw [← HL.out, HD.out]; simp [look, hra]), hb.alloc hsz _⟩
          · rename_i hra hrb
            go_ret
            exact ⟨ret_int (by rw [← HL.out, HD.out]; simp only [look]; rw [if_neg (by omega), if_pos hrb]), hb.alloc hsz _⟩
          · rename_i hra hrb
            go_roundg (21 - (k + 1))
            case measure => omega
            case rel => exact ⟨k + 1, by omega, by omega, by go_num, hb.alloc hsz _, by rw [← HL.out, HD.out]; simp only [look]; rw [if_neg (by omega), if_neg (by omega)]⟩
        · have : k = 21 := by omega
          subst this
          go_wp2_with fail
          go_ret
          exact ⟨ret_int (by rw [← HL.out]; rfl), hb⟩

end Txt
end Go.Proofs.YtnkeahfcpbepjaaGreatDoor

/- The walk of the reference's WidthOf: it tells Txt.wd, for every int32. -/
namespace Go.Proofs.YtnkeahfcpbepjaaGreatDoor
open Go.ChangeShapes Go.WideShapes Go.ChangeAt Go.RowKit
namespace Txt

def cell2 (x : Int × Int) : List Value := [.int .i32 x.1, .int .i64 x.2]
def edgeCells : Array Value := (edges.flatMap cell2).toArray
theorem flat2 : ∀ (l : List (Int × Int)) (k : Nat) (x : Int × Int), l[k]? = some x → (l.flatMap cell2)[k * 2]? = some (.int .i32 x.1) ∧ (l.flatMap cell2)[k * 2 + 1]? = some (.int .i64 x.2)
  | [], k, x, h => by simp at h
  | y :: t, 0, x, h => by
    obtain rfl := Option.some.inj h
    exact ⟨rfl, rfl⟩
  | y :: t, k + 1, x, h => by
    have := flat2 t k x (by simpa using h)
    rw [show (k + 1) * 2 = k * 2 + 1 + 1 from by omega]
    simpa [List.flatMap_cons, cell2] using this
theorem edges_at (k : Nat) (hk : k < 41) : ∃ a c : Int, edges.drop k = (a, c) :: edges.drop (k + 1) ∧ edgeCells[k * 2]? = some (.int .i32 a) ∧ edgeCells[k * 2 + 1]? = some (.int .i64 c) := by
  match h : edges.drop k with
  | [] => have := congrArg List.length h; simp [edges] at this; omega
  | (a, c) :: t =>
    have hx : edges[k]? = some (a, c) := by
      have := congrArg (fun l => l[0]?) h
      simpa using this
    have hf := flat2 edges k (a, c) hx
    refine ⟨a, c, ?_, by simpa [edgeCells] using hf.1, by simpa [edgeCells] using hf.2⟩
    rw [← List.drop_drop, h]; rfl

set_option maxHeartbeats 4000000 in
theorem widthOf_any (r : Int) (w : World) :
    Calls Tryz.prog 69 #[.int .i32 r] w fun e w' => e = .returned (.int .i64 (wd r)) ∧ Below w.heap.size w w' := by
  by_cases h0 : r < 0
  · have hw : wd r = 0 := by unfold wd; rw [if_pos (Or.inl h0)]
    rw [hw]
    clear hw
    go_enter Tryz.func69, Tryz.ntmps69
    go_wp2
    go_ret
    exact ⟨rfl, Below.refl _ _⟩
  · by_cases h1 : 1114111 < r
    · have hw : wd r = 0 := by unfold wd; rw [if_pos (Or.inr h1)]
      rw [hw]
      clear hw
      go_enter Tryz.func69, Tryz.ntmps69
      go_wp2
      go_ret
      exact ⟨rfl, Below.refl _ _⟩
    · rw [wd_edge r (by omega) (by omega)]
      go_enter Tryz.func69, Tryz.ntmps69
      go_wp2_with (refine Great.wpList_buildSliceTo rfl 123 122 41 _ rfl _ rfl (some 53) rfl Tryz.underlying123 edgeCells (by kernel_rfl) ?_)
      have hb0 : Below (w.heap.size + 1) (w.alloc (.cells edgeCells 122)) (w.alloc (.cells edgeCells 122)) := Below.refl _ _
      have HB : Hid (Below w.heap.size w (w.alloc (.cells edgeCells 122))) := (Below.refl _ _).alloc (Nat.le_refl _) _
      have HE : Hid ((w.alloc (.cells edgeCells 122)).heap[w.heap.size]? = some (.cells edgeCells 122)) := heap_alloc_new _ _
      have hS : w.heap.size + 1 ≤ (w.alloc (.cells edgeCells 122)).heap.size := by simp
      generalize w.alloc (.cells edgeCells 122) = W at *
      generalize hB : w.heap.size = B at *
      have HQ : Hid (w.heap.size = B) := hB
      clear hB
      go_loopg [3, 55] 41 (fun g acc s wr => ∃ (k : Nat) (c : Int), k ≤ 41 ∧ 41 - k ≤ g ∧ s = .int .i64 k ∧ acc = .int .i64 c ∧ Below (B + 1) W wr ∧ edge r (edges.drop k) c = edge r edges 0)
      case atStart => exact ⟨0, 0, Nat.zero_le _, by omega, rfl, rfl, hb0, rfl⟩
      case round =>
        obtain ⟨k, c, hk, hg, rfl, rfl, hb, hl⟩ := hrel
        have HL : Hid (edge r (edges.drop k) c = edge r edges 0) := hl
        clear hl
        by_cases hlt : k < 41
        · obtain ⟨a, c2, hd, hc1, hc2⟩ := edges_at k hlt
          have g1 : wr.cell? ⟨B, k * 2, none⟩ = some (.int .i32 a) := by rw [hb.cell (by show B < B + 1; omega), cell_of_row _ _ _ _ _ _ HE.out]; exact hc1
          have g2 : wr.cell? ⟨B, k * 2 + 1, none⟩ = some (.int .i64 c2) := by rw [hb.cell (by show B < B + 1; omega), cell_of_row _ _ _ _ _ _ HE.out]; exact hc2
          clear hc1 hc2
          have HD : Hid (edges.drop k = (a, c2) :: edges.drop (k + 1)) := hd
          clear hd
          have hsz := hb.size
          go_wp2_with fail
          · rename_i hra
            go_roundg (41 - (k + 1))
            case measure => omega
            case rel => exact ⟨k + 1, c2, by omega, by omega, by go_num, rfl, hb.alloc (by omega) _, by rw [← HL.out, HD.out]; simp only [edge]; rw [if_pos hra]⟩
          · rename_i hra
            go_roundg (41 - (k + 1))
            case measure => omega
            case rel => exact ⟨k + 1, c, by omega, by omega, by go_num, rfl, hb.alloc (by omega) _, by rw [← HL.out, HD.out]; simp only [edge]; rw [if_neg (by omega)]⟩
        · have : k = 41 := by omega
          subst this
          go_wp2_with fail
          go_ret
          exact ⟨ret_int (by rw [← HL.out]; rfl), by rw [HQ.out]; exact HB.out.trans (hb.mono (by omega))⟩
end Txt
end Go.Proofs.YtnkeahfcpbepjaaGreatDoor

/- style.Check and the reference's IsStyle. -/
namespace Go.Proofs.YtnkeahfcpbepjaaGreatDoor
open Go.ChangeShapes Go.WideShapes Go.ChangeAt Go.RowKit
namespace Sty
def stv (s : Int × Int × Int) : Value := .agg #[.int .i64 s.1, .int .i64 s.2.1, .int .i64 s.2.2]
theorem ret_bool {a b : Bool} (h : a = b) : Ending.returned (.bool a) = .returned (.bool b) := by rw [h]
theorem colour_any (c : Int) (w : World) :
    Calls Tryz.prog 135 #[.int .i64 c] w fun e w' => e = .returned (.bool (decide (0 ≤ c ∧ c ≤ 256))) ∧ w = w' := by
  go_enter Tryz.func135, Tryz.ntmps135
  go_wp2
  all_goals (go_ret; exact ⟨ret_bool (by rw [Bool.eq_iff_iff]; simp; try omega), rfl⟩)
def isSt (s : Int × Int × Int) : Bool := decide (0 ≤ s.1 ∧ s.1 ≤ 256 ∧ 0 ≤ s.2.1 ∧ s.2.1 ≤ 256 ∧ 0 ≤ s.2.2 ∧ s.2.2 ≤ 127)
theorem check_any (f b x : Int) (w : World) :
    Calls Tryz.prog 78 #[.agg #[.int .i64 f, .int .i64 b, .int .i64 x]] w fun e w' => e = .returned (.bool (isSt (f, b, x))) ∧ Below w.heap.size w w' := by
  go_enter Tryz.func78, Tryz.ntmps78
  go_wp2_with (go_at_call 135; refine (colour_any _ _).mono ?_; rintro e W1 ⟨rfl, rfl⟩)
  all_goals (go_ret; exact ⟨ret_bool (by rw [Bool.eq_iff_iff]; simp [isSt]; try omega), (Below.refl _ _).alloc (Nat.le_refl _) _⟩)
theorem min3 (f b x : Int) (w : World) : (Builtin.min_ #[3, 3, 3] 3 #[.int .i64 f, .int .i64 b, .int .i64 x]).run Tryz.prog w = .ok (.int .i64 (min (min f b) x)) w := by
  simp [Builtin.min_, Builtin.min2, go_sem]
  repeat' split
  all_goals omega
theorem isStyle_any (f b x : Int) (w : World) :
    Calls Tryz.prog 123 #[.agg #[.int .i64 f, .int .i64 b, .int .i64 x]] w fun e w' => e = .returned (.bool (isSt (f, b, x))) ∧ Below w.heap.size w w' := by
  go_enter Tryz.func123, Tryz.ntmps123
  have hmin := min3 f b x
  go_wp2
  all_goals (go_ret; exact ⟨ret_bool (by rw [Bool.eq_iff_iff]; simp [isSt]; try omega), (Below.refl _ _).alloc (Nat.le_refl _) _⟩)
theorem eq_agg (a b c d e f : Int) (w : World) : (binOp .eql 26 (.agg #[.int .i64 a, .int .i64 b, .int .i64 c]) (.agg #[.int .i64 d, .int .i64 e, .int .i64 f])).run Tryz.prog w = .ok (.bool (decide ((a, b, c) = (d, e, f)))) w := by
  by_cases h1 : a = d
  · by_cases h2 : b = e
    · by_cases h3 : c = f
      · subst h1 h2 h3; simp [go_sem]
      · subst h1 h2; simp [go_sem, h3]
    · subst h1; simp [go_sem, h2]
  · simp [go_sem, h1]
theorem neq_agg (a b c d e f : Int) (w : World) : (binOp .neq 26 (.agg #[.int .i64 a, .int .i64 b, .int .i64 c]) (.agg #[.int .i64 d, .int .i64 e, .int .i64 f])).run Tryz.prog w = .ok (.bool (!decide ((a, b, c) = (d, e, f)))) w := by
  by_cases h1 : a = d
  · by_cases h2 : b = e
    · by_cases h3 : c = f
      · subst h1 h2 h3; simp [go_sem]
      · subst h1 h2; simp [go_sem, h3]
    · subst h1; simp [go_sem, h2]
  · simp [go_sem, h1]
end Sty
end Go.Proofs.YtnkeahfcpbepjaaGreatDoor

/- Cells in memory; what a grid's Check says, over lists. -/
namespace Go.Proofs.YtnkeahfcpbepjaaGreatDoor
open Go.ChangeShapes Go.WideShapes Go.ChangeAt Go.RowKit
namespace Grd
open Txt (wd)
open Sty (isSt)
abbrev C := Int × Int × Int × Int
def z0 : C := (0, 0, 0, 0)
/-- The cells cs lie in block b from o on: four words each. -/
def CellsAt (w : World) (b o : Nat) (cs : List C) : Prop := ∀ j, j < cs.length →
  w.cell? ⟨b, o + j * 4, none⟩ = some (.int .i32 (cs.getD j z0).1) ∧ w.cell? ⟨b, o + j * 4 + 1, none⟩ = some (.int .i64 (cs.getD j z0).2.1) ∧
  w.cell? ⟨b, o + j * 4 + 2, none⟩ = some (.int .i64 (cs.getD j z0).2.2.1) ∧ w.cell? ⟨b, o + j * 4 + 3, none⟩ = some (.int .i64 (cs.getD j z0).2.2.2)
theorem cell_keep {W W' : World} {a : Addr} {v : Value} (hb : Below W.heap.size W W') (h : W.cell? a = some v) : W'.cell? a = some v := by
  have hlt := World.block_lt_of_cell? W a h
  rw [← h]
  unfold World.cell?
  rw [hb.block _ hlt]
theorem cell_keep' {B : Nat} {W W' : World} {a : Addr} {v : Value} (hb : Below B W W') (hB : B = W.heap.size) (h : W.cell? a = some v) : W'.cell? a = some v := by
  subst hB; exact cell_keep hb h
theorem CellsAt.below {w w' : World} {b o : Nat} {cs : List C} (h : CellsAt w b o cs) (hb : Below w.heap.size w w') : CellsAt w' b o cs := fun j hj => by
  obtain ⟨h0, h1, h2, h3⟩ := h j hj
  exact ⟨cell_keep hb h0, cell_keep hb h1, cell_keep hb h2, cell_keep hb h3⟩
theorem getD_drop (cs : List C) (k j : Nat) : (cs.drop k).getD j z0 = cs.getD (k + j) z0 := by
  simp [List.getD, List.getElem?_drop]
theorem getD_take (cs : List C) (n j : Nat) (h : j < n) : (cs.take n).getD j z0 = cs.getD j z0 := by
  simp [List.getD, h]
theorem CellsAt.part {w : World} {b o : Nat} {cs : List C} (h : CellsAt w b o cs) (k n : Nat) (hk : k + n ≤ cs.length) : CellsAt w b (o + k * 4) ((cs.drop k).take n) := fun j hj => by
  simp only [List.length_take, List.length_drop] at hj
  have hjn : j < n := by omega
  obtain ⟨h0, h1, h2, h3⟩ := h (k + j) (by omega)
  rw [getD_take _ _ _ hjn, getD_drop]
  rw [show o + (k + j) * 4 = o + k * 4 + j * 4 by omega] at h0 h1 h2 h3
  exact ⟨h0, h1, h2, h3⟩
/-- Is the cell at x one half of a wide rune, without the other beside it? -/
def loose (cs : List C) (x : Nat) : Bool :=
  if (cs.getD x z0).1 = 0 then decide (x = 0) || decide (wd (cs.getD (x - 1) z0).1 ≠ 2)
  else decide (wd (cs.getD x z0).1 = 2) && (decide (x + 1 = cs.length) || decide ((cs.getD (x + 1) z0).1 ≠ 0))
def cellErr (cs : List C) (x : Nat) : Int :=
  if ((cs.getD x z0).1 ≠ 0 ∧ wd (cs.getD x z0).1 = 0) ∨ isSt (cs.getD x z0).2 = false then 4
  else if loose cs x = true ∨ ((cs.getD x z0).1 = 0 ∧ (cs.getD x z0).2 ≠ (cs.getD (x - 1) z0).2) then 5 else 0
def firstErr (f : Nat → Int) : Nat → Nat → Int
  | _, 0 => 0
  | k, m + 1 => if f k = 0 then firstErr f (k + 1) m else f k
def rowAt (W : Nat) (cs : List C) (y : Nat) : List C := (cs.drop (y * W)).take W
def rowErr (row : List C) : Int := firstErr (cellErr row) 0 row.length
def isSize (W H : Int) : Bool := decide (1 ≤ W ∧ W ≤ 120 ∧ 1 ≤ H ∧ H ≤ 60)
def gridErr (W H : Int) (cs : List C) : Int :=
  if isSize W H = false ∨ (cs.length : Int) ≠ W * H then 3 else firstErr (fun y => rowErr (rowAt W.toNat cs y)) 0 H.toNat
end Grd
end Go.Proofs.YtnkeahfcpbepjaaGreatDoor

/- The walk of isLoose. -/
namespace Go.Proofs.YtnkeahfcpbepjaaGreatDoor
open Go.ChangeShapes Go.WideShapes Go.ChangeAt Go.RowKit
namespace Grd
open Txt (wd)
theorem width_to (r : Int) (w : World) (hT : Txt.Tab w) (v : Int) (h : wd r = v) : Calls Tryz.prog 79 #[.int .i32 r] w fun e w' => e = .returned (.int .i64 v) ∧ Below w.heap.size w w' := by
  have := Txt.width_any r w hT
  rwa [h] at this
set_option maxHeartbeats 1000000 in
theorem isLoose_any (b o c : Nat) (cs : List C) (x : Nat) (w : World) (hT : Txt.Tab w) (hC : CellsAt w b o cs) (hx : x < cs.length) (hn : cs.length ≤ 1000000) :
    Calls Tryz.prog 158 #[.slice (some ⟨b, o, none⟩) cs.length c, .int .i64 (x : Int)] w fun e w' => e = .returned (.bool (loose cs x)) ∧ Below w.heap.size w w' := by
  have HT : Hid (Txt.Tab w) := hT
  have h0 := (hC x hx).1
  have hp : 0 < x → w.cell? ⟨b, o + (x - 1) * 4, none⟩ = some (.int .i32 (cs.getD (x - 1) z0).1) := fun h => (hC (x - 1) (by omega)).1
  have hs : x + 1 < cs.length → w.cell? ⟨b, o + (x + 1) * 4, none⟩ = some (.int .i32 (cs.getD (x + 1) z0).1) := fun h => (hC (x + 1) h).1
  unfold loose
  clear hT hC
  generalize (cs.getD x z0).1 = r at *
  generalize (cs.getD (x - 1) z0).1 = rp at *
  generalize (cs.getD (x + 1) z0).1 = rs at *
  generalize cs.length = n at *
  by_cases hr : r = 0
  · subst hr
    by_cases hx0 : x = 0
    · have nx : ((x : Int) == 0) = true := by simp only [beq_iff_eq]; omega
      have HX : Hid (x = 0) := hx0
      clear hp hs hx0
      go_enter Tryz.func158, Tryz.ntmps158
      go_wp2_with fail
      go_ret
      exact ⟨Sty.ret_bool (by simp [HX.out]), Below.refl _ _⟩
    · have hp := hp (by omega)
      clear hs
      have nx : ((x : Int) == 0) = false := by simp only [beq_eq_false_iff_ne, ne_eq]; omega
      go_enter Tryz.func158, Tryz.ntmps158
      go_wp2_with (go_at_call 79; refine (Txt.width_any rp _ HT.out).mono ?_; rintro e W1 ⟨rfl, b1⟩)
      go_ret
      exact ⟨Sty.ret_bool (by rw [Bool.eq_iff_iff]; simp), b1⟩
  · have nr : (r == 0) = false := by simp only [beq_eq_false_iff_ne, ne_eq]; exact hr
    clear hp
    by_cases h2 : wd r = 2
    · by_cases hl : x + 1 = n
      · have nl : ((x : Int) == (n : Int) - 1) = true := by simp only [beq_iff_eq]; omega
        have H2 : Hid (wd r = 2) := h2
        clear hs h2
        go_enter Tryz.func158, Tryz.ntmps158
        go_wp2_with (go_at_call 79; refine (width_to r _ HT.out 2 H2.out).mono ?_; rintro e W1 ⟨rfl, b1⟩)
        go_ret
        exact ⟨Sty.ret_bool (by rw [Bool.eq_iff_iff]; simp [H2.out]), b1⟩
      · have hs := hs (by omega)
        have nl : ((x : Int) == (n : Int) - 1) = false := by simp only [beq_eq_false_iff_ne, ne_eq]; omega
        have H2 : Hid (wd r = 2) := h2
        clear h2
        go_enter Tryz.func158, Tryz.ntmps158
        go_wp2_with (go_at_call 79; refine (width_to r _ HT.out 2 H2.out).mono ?_; rintro e W1 ⟨rfl, b1⟩; have hs1 := cell_keep b1 hs)
        go_ret
        exact ⟨Sty.ret_bool (by rw [Bool.eq_iff_iff]; simp [H2.out]), b1⟩
    · have H2 : Hid (¬ wd r = 2) := h2
      clear hs h2
      have KW : Hid (Calls Tryz.prog 79 #[.int .i32 r] w fun e w' => e = .returned (.int .i64 (wd r)) ∧ Below w.heap.size w w') := Txt.width_any r w HT.out
      have n2 : (wd r == 2) = false := by simp only [beq_eq_false_iff_ne, ne_eq]; exact H2.out
      go_enter Tryz.func158, Tryz.ntmps158
      go_wp2_with (go_at_call 79; refine KW.out.mono ?_; rintro e W1 ⟨rfl, b1⟩)
      go_ret
      exact ⟨Sty.ret_bool (by rw [Bool.eq_iff_iff]; simp [H2.out]), b1⟩
end Grd
end Go.Proofs.YtnkeahfcpbepjaaGreatDoor

/- The walk of checkCell. -/
namespace Go.Proofs.YtnkeahfcpbepjaaGreatDoor
open Go.ChangeShapes Go.WideShapes Go.ChangeAt Go.RowKit
namespace Grd
open Txt (wd)
open Sty (isSt)
theorem check_to (f b x : Int) (v : Bool) (h : isSt (f, b, x) = v) (w : World) : Calls Tryz.prog 78 #[.agg #[.int .i64 f, .int .i64 b, .int .i64 x]] w fun e w' => e = .returned (.bool v) ∧ Below w.heap.size w w' := by
  have := Sty.check_any f b x w
  rwa [h] at this
theorem loose_to (b o c : Nat) (cs : List C) (x : Nat) (v : Bool) (h : loose cs x = v) (w : World) (hT : Txt.Tab w) (hC : CellsAt w b o cs) (hx : x < cs.length) (hn : cs.length ≤ 1000000) :
    Calls Tryz.prog 158 #[.slice (some ⟨b, o, none⟩) cs.length c, .int .i64 (x : Int)] w fun e w' => e = .returned (.bool v) ∧ Below w.heap.size w w' := by
  have := isLoose_any b o c cs x w hT hC hx hn
  rwa [h] at this
theorem cells4 {w : World} {g : Nat} {t : TypeId} {a b c d : Value} (h : w.heap[g]? = some (.cells #[a, b, c, d] t (0, 0))) :
    w.cell? ⟨g, 0, none⟩ = some a ∧ w.cell? ⟨g, 1, none⟩ = some b ∧ w.cell? ⟨g, 2, none⟩ = some c ∧ w.cell? ⟨g, 3, none⟩ = some d := by
  refine ⟨by simp [World.cell?, h], by simp [World.cell?, h], by simp [World.cell?, h], by simp [World.cell?, h]⟩
theorem cells4_new (w : World) (t : TypeId) (a b c d : Value) : (w.alloc (.cells #[a, b, c, d] t)).cell? ⟨w.heap.size, 0, none⟩ = some a ∧ (w.alloc (.cells #[a, b, c, d] t)).cell? ⟨w.heap.size, 1, none⟩ = some b ∧ (w.alloc (.cells #[a, b, c, d] t)).cell? ⟨w.heap.size, 2, none⟩ = some c ∧ (w.alloc (.cells #[a, b, c, d] t)).cell? ⟨w.heap.size, 3, none⟩ = some d := cells4 (heap_alloc_new _ _)
theorem Tab.next {w w' : World} (h : Txt.Tab w) (hb : Below w.heap.size w w') : Txt.Tab w' := h.below hb h.pos
set_option maxHeartbeats 1000000 in
theorem cell_range1 (b o c : Nat) (cs : List C) (x : Nat) (r f bk xx : Int) (w : World) (hT : Txt.Tab w) (hC : CellsAt w b o cs) (hx : x < cs.length) (hn : cs.length ≤ 1000000)
    (h0 : w.cell? ⟨b, o + x * 4, none⟩ = some (.int .i32 r)) (h1 : w.cell? ⟨b, o + x * 4 + 1, none⟩ = some (.int .i64 f)) (h2 : w.cell? ⟨b, o + x * 4 + 2, none⟩ = some (.int .i64 bk)) (h3 : w.cell? ⟨b, o + x * 4 + 3, none⟩ = some (.int .i64 xx)) (hr : r ≠ 0) (hw : wd r = 0) :
    Calls Tryz.prog 134 #[.slice (some ⟨b, o, none⟩) cs.length c, .int .i64 (x : Int)] w fun e w' => e = .returned (.int .i64 4) ∧ Below w.heap.size w w' := by
  have HT : Hid (Txt.Tab w) := hT
  have HC : Hid (CellsAt w b o cs) := hC
  have HX : Hid (x < cs.length) := hx
  have HN : Hid (cs.length ≤ 1000000) := hn
  clear hT hC
  have ⟨c0, c1, c2, c3⟩ := cells4_new w 91 (.int .i32 r) (.int .i64 f) (.int .i64 bk) (.int .i64 xx)
  have k0 : Below w.heap.size w (w.alloc (.cells #[.int .i32 r, .int .i64 f, .int .i64 bk, .int .i64 xx] 91)) := (Below.refl _ _).alloc (Nat.le_refl _) _
  have nr : (r != 0) = true := by simpa using hr
  have nr' : (r == 0) = false := by simpa using hr
  have HW : Hid (wd r = 0) := hw
  clear hw
  go_enter Tryz.func134, Tryz.ntmps134
  go_wp2_with (go_at_call 79; refine (width_to r _ (Tab.next HT.out k0) 0 HW.out).mono ?_; rintro e W1 ⟨rfl, b1⟩; have k1 := k0.trans (b1.mono k0.size); have d1 := cell_keep b1 c1; have d2 := cell_keep b1 c2; have d3 := cell_keep b1 c3; have d0 := cell_keep b1 c0)
  go_ret
  exact ⟨rfl, k1⟩
set_option maxHeartbeats 1000000 in
theorem cell_range2 (b o c : Nat) (cs : List C) (x : Nat) (r f bk xx : Int) (w : World) (hT : Txt.Tab w) (hC : CellsAt w b o cs) (hx : x < cs.length) (hn : cs.length ≤ 1000000)
    (h0 : w.cell? ⟨b, o + x * 4, none⟩ = some (.int .i32 r)) (h1 : w.cell? ⟨b, o + x * 4 + 1, none⟩ = some (.int .i64 f)) (h2 : w.cell? ⟨b, o + x * 4 + 2, none⟩ = some (.int .i64 bk)) (h3 : w.cell? ⟨b, o + x * 4 + 3, none⟩ = some (.int .i64 xx)) (hr : r ≠ 0) (hw : wd r ≠ 0) (hs : isSt (f, bk, xx) = false) :
    Calls Tryz.prog 134 #[.slice (some ⟨b, o, none⟩) cs.length c, .int .i64 (x : Int)] w fun e w' => e = .returned (.int .i64 4) ∧ Below w.heap.size w w' := by
  have HT : Hid (Txt.Tab w) := hT
  have HC : Hid (CellsAt w b o cs) := hC
  have HX : Hid (x < cs.length) := hx
  have HN : Hid (cs.length ≤ 1000000) := hn
  clear hT hC
  have ⟨c0, c1, c2, c3⟩ := cells4_new w 91 (.int .i32 r) (.int .i64 f) (.int .i64 bk) (.int .i64 xx)
  have k0 : Below w.heap.size w (w.alloc (.cells #[.int .i32 r, .int .i64 f, .int .i64 bk, .int .i64 xx] 91)) := (Below.refl _ _).alloc (Nat.le_refl _) _
  have nr : (r != 0) = true := by simpa using hr
  have nr' : (r == 0) = false := by simpa using hr
  have HW : Hid (wd r = wd r) := rfl
  have nw : (wd r == 0) = false := by simpa using hw
  have HS : Hid (isSt (f, bk, xx) = false) := hs
  clear hs
  go_enter Tryz.func134, Tryz.ntmps134
  go_wp2_with (first | (go_at_call 79; refine (width_to r _ (Tab.next HT.out k0) _ HW.out).mono ?_; rintro e W1 ⟨rfl, b1⟩; have k1 := k0.trans (b1.mono k0.size); have d1 := cell_keep b1 c1; have d2 := cell_keep b1 c2; have d3 := cell_keep b1 c3; have d0 := cell_keep b1 c0) | (go_at_call 78; refine (check_to f bk xx _ HS.out _).mono ?_; rintro e W2 ⟨rfl, b2⟩; have k2 := k1.trans (b2.mono k1.size); have e0 := cell_keep b2 d0; have e1 := cell_keep b2 d1; have e2 := cell_keep b2 d2; have e3 := cell_keep b2 d3))
  go_ret
  exact ⟨rfl, k2⟩
set_option maxHeartbeats 1000000 in
theorem cell_range3 (b o c : Nat) (cs : List C) (x : Nat) (r f bk xx : Int) (w : World) (hT : Txt.Tab w) (hC : CellsAt w b o cs) (hx : x < cs.length) (hn : cs.length ≤ 1000000)
    (h0 : w.cell? ⟨b, o + x * 4, none⟩ = some (.int .i32 r)) (h1 : w.cell? ⟨b, o + x * 4 + 1, none⟩ = some (.int .i64 f)) (h2 : w.cell? ⟨b, o + x * 4 + 2, none⟩ = some (.int .i64 bk)) (h3 : w.cell? ⟨b, o + x * 4 + 3, none⟩ = some (.int .i64 xx)) (hr : r = 0) (hs : isSt (f, bk, xx) = false) :
    Calls Tryz.prog 134 #[.slice (some ⟨b, o, none⟩) cs.length c, .int .i64 (x : Int)] w fun e w' => e = .returned (.int .i64 4) ∧ Below w.heap.size w w' := by
  have HT : Hid (Txt.Tab w) := hT
  have HC : Hid (CellsAt w b o cs) := hC
  have HX : Hid (x < cs.length) := hx
  have HN : Hid (cs.length ≤ 1000000) := hn
  clear hT hC
  have ⟨c0, c1, c2, c3⟩ := cells4_new w 91 (.int .i32 r) (.int .i64 f) (.int .i64 bk) (.int .i64 xx)
  have k0 : Below w.heap.size w (w.alloc (.cells #[.int .i32 r, .int .i64 f, .int .i64 bk, .int .i64 xx] 91)) := (Below.refl _ _).alloc (Nat.le_refl _) _
  subst hr
  have HS : Hid (isSt (f, bk, xx) = false) := hs
  clear hs
  go_enter Tryz.func134, Tryz.ntmps134
  go_wp2_with (go_at_call 78; refine (check_to f bk xx _ HS.out _).mono ?_; rintro e W2 ⟨rfl, b2⟩; have k2 := k0.trans (b2.mono k0.size); have e0 := cell_keep b2 c0; have e1 := cell_keep b2 c1; have e2 := cell_keep b2 c2; have e3 := cell_keep b2 c3)
  go_ret
  exact ⟨rfl, k2⟩
set_option maxHeartbeats 1000000 in
theorem cell_loose1 (b o c : Nat) (cs : List C) (x : Nat) (r f bk xx : Int) (w : World) (hT : Txt.Tab w) (hC : CellsAt w b o cs) (hx : x < cs.length) (hn : cs.length ≤ 1000000)
    (h0 : w.cell? ⟨b, o + x * 4, none⟩ = some (.int .i32 r)) (h1 : w.cell? ⟨b, o + x * 4 + 1, none⟩ = some (.int .i64 f)) (h2 : w.cell? ⟨b, o + x * 4 + 2, none⟩ = some (.int .i64 bk)) (h3 : w.cell? ⟨b, o + x * 4 + 3, none⟩ = some (.int .i64 xx)) (hr : r ≠ 0) (hw : wd r ≠ 0) (hs : isSt (f, bk, xx) = true) (hl : loose cs x = true) :
    Calls Tryz.prog 134 #[.slice (some ⟨b, o, none⟩) cs.length c, .int .i64 (x : Int)] w fun e w' => e = .returned (.int .i64 5) ∧ Below w.heap.size w w' := by
  have HT : Hid (Txt.Tab w) := hT
  have HC : Hid (CellsAt w b o cs) := hC
  have HX : Hid (x < cs.length) := hx
  have HN : Hid (cs.length ≤ 1000000) := hn
  clear hT hC
  have ⟨c0, c1, c2, c3⟩ := cells4_new w 91 (.int .i32 r) (.int .i64 f) (.int .i64 bk) (.int .i64 xx)
  have k0 : Below w.heap.size w (w.alloc (.cells #[.int .i32 r, .int .i64 f, .int .i64 bk, .int .i64 xx] 91)) := (Below.refl _ _).alloc (Nat.le_refl _) _
  have nr : (r != 0) = true := by simpa using hr
  have nr' : (r == 0) = false := by simpa using hr
  have HW : Hid (wd r = wd r) := rfl
  have nw : (wd r == 0) = false := by simpa using hw
  have HS : Hid (isSt (f, bk, xx) = true) := hs
  have HL : Hid (loose cs x = true) := hl
  clear hs hl
  go_enter Tryz.func134, Tryz.ntmps134
  go_wp2_with (first | (go_at_call 79; refine (width_to r _ (Tab.next HT.out k0) _ HW.out).mono ?_; rintro e W1 ⟨rfl, b1⟩; have k1 := k0.trans (b1.mono k0.size); have d1 := cell_keep b1 c1; have d2 := cell_keep b1 c2; have d3 := cell_keep b1 c3; have d0 := cell_keep b1 c0) | (go_at_call 78; refine (check_to f bk xx _ HS.out _).mono ?_; rintro e W2 ⟨rfl, b2⟩; have k2 := k1.trans (b2.mono k1.size); have e0 := cell_keep b2 d0; have e1 := cell_keep b2 d1; have e2 := cell_keep b2 d2; have e3 := cell_keep b2 d3))
  have y0 : ∀ d os, (Sort.grow (redrawn W2 d) os).cell? ⟨w.heap.size, 0, none⟩ = some (.int .i32 r) := fun d os => cell_regrown e0 d os
  have y1 : ∀ d os, (Sort.grow (redrawn W2 d) os).cell? ⟨w.heap.size, 1, none⟩ = some (.int .i64 f) := fun d os => cell_regrown e1 d os
  have y2 : ∀ d os, (Sort.grow (redrawn W2 d) os).cell? ⟨w.heap.size, 2, none⟩ = some (.int .i64 bk) := fun d os => cell_regrown e2 d os
  have y3 : ∀ d os, (Sort.grow (redrawn W2 d) os).cell? ⟨w.heap.size, 3, none⟩ = some (.int .i64 xx) := fun d os => cell_regrown e3 d os
  have K4 : Hid (∀ d os, Calls Tryz.prog 158 #[.slice (some ⟨b, o, none⟩) cs.length c, .int .i64 (x : Int)] (Sort.grow (redrawn W2 d) os) fun e w'' => e = .returned (.bool true) ∧ ∃ p : Regrown, w'' = Sort.grow (redrawn W2 p.d) p.os) := fun d os => Calls.regrown_of (loose_to b o c cs x true HL.out _ (Tab.next HT.out (k2.trans ((below_regrown W2 d os).mono k2.size))) (HC.out.below (k2.trans ((below_regrown W2 d os).mono k2.size))) HX.out HN.out)
  refine wp_region_quiet_below (by kernel_rfl) (by kernel_rfl) ?_
  repeat (first | go_big_quiet_skip | quiet_step (first | (go_at_call 158; exact K4.out _ _)))
  refine wpQuiet_nil ?_
  intro _ hw'
  obtain ⟨⟨dq, os⟩, hw''⟩ := hw'
  subst hw''
  have k3 : Below w.heap.size w (Sort.grow (redrawn W2 dq) os) := k2.trans ((below_regrown W2 dq os).mono k2.size)
  generalize Sort.grow (redrawn W2 dq) os = W3 at *
  go_wp2_with fail
  go_ret
  exact ⟨rfl, k3⟩
set_option maxHeartbeats 1000000 in
theorem cell_loose2 (b o c : Nat) (cs : List C) (x : Nat) (r f bk xx : Int) (w : World) (hT : Txt.Tab w) (hC : CellsAt w b o cs) (hx : x < cs.length) (hn : cs.length ≤ 1000000)
    (h0 : w.cell? ⟨b, o + x * 4, none⟩ = some (.int .i32 r)) (h1 : w.cell? ⟨b, o + x * 4 + 1, none⟩ = some (.int .i64 f)) (h2 : w.cell? ⟨b, o + x * 4 + 2, none⟩ = some (.int .i64 bk)) (h3 : w.cell? ⟨b, o + x * 4 + 3, none⟩ = some (.int .i64 xx)) (hr : r = 0) (hs : isSt (f, bk, xx) = true) (hl : loose cs x = true) :
    Calls Tryz.prog 134 #[.slice (some ⟨b, o, none⟩) cs.length c, .int .i64 (x : Int)] w fun e w' => e = .returned (.int .i64 5) ∧ Below w.heap.size w w' := by
  have HT : Hid (Txt.Tab w) := hT
  have HC : Hid (CellsAt w b o cs) := hC
  have HX : Hid (x < cs.length) := hx
  have HN : Hid (cs.length ≤ 1000000) := hn
  clear hT hC
  have ⟨c0, c1, c2, c3⟩ := cells4_new w 91 (.int .i32 r) (.int .i64 f) (.int .i64 bk) (.int .i64 xx)
  have k0 : Below w.heap.size w (w.alloc (.cells #[.int .i32 r, .int .i64 f, .int .i64 bk, .int .i64 xx] 91)) := (Below.refl _ _).alloc (Nat.le_refl _) _
  subst hr
  have HS : Hid (isSt (f, bk, xx) = true) := hs
  have HL : Hid (loose cs x = true) := hl
  clear hs hl
  go_enter Tryz.func134, Tryz.ntmps134
  go_wp2_with (go_at_call 78; refine (check_to f bk xx _ HS.out _).mono ?_; rintro e W2 ⟨rfl, b2⟩; have k2 := k0.trans (b2.mono k0.size); have e0 := cell_keep b2 c0; have e1 := cell_keep b2 c1; have e2 := cell_keep b2 c2; have e3 := cell_keep b2 c3)
  have y0 : ∀ d os, (Sort.grow (redrawn W2 d) os).cell? ⟨w.heap.size, 0, none⟩ = some (.int .i32 0) := fun d os => cell_regrown e0 d os
  have y1 : ∀ d os, (Sort.grow (redrawn W2 d) os).cell? ⟨w.heap.size, 1, none⟩ = some (.int .i64 f) := fun d os => cell_regrown e1 d os
  have y2 : ∀ d os, (Sort.grow (redrawn W2 d) os).cell? ⟨w.heap.size, 2, none⟩ = some (.int .i64 bk) := fun d os => cell_regrown e2 d os
  have y3 : ∀ d os, (Sort.grow (redrawn W2 d) os).cell? ⟨w.heap.size, 3, none⟩ = some (.int .i64 xx) := fun d os => cell_regrown e3 d os
  have K4 : Hid (∀ d os, Calls Tryz.prog 158 #[.slice (some ⟨b, o, none⟩) cs.length c, .int .i64 (x : Int)] (Sort.grow (redrawn W2 d) os) fun e w'' => e = .returned (.bool true) ∧ ∃ p : Regrown, w'' = Sort.grow (redrawn W2 p.d) p.os) := fun d os => Calls.regrown_of (loose_to b o c cs x true HL.out _ (Tab.next HT.out (k2.trans ((below_regrown W2 d os).mono k2.size))) (HC.out.below (k2.trans ((below_regrown W2 d os).mono k2.size))) HX.out HN.out)
  refine wp_region_quiet_below (by kernel_rfl) (by kernel_rfl) ?_
  repeat (first | go_big_quiet_skip | quiet_step (first | (go_at_call 158; exact K4.out _ _)))
  refine wpQuiet_nil ?_
  intro _ hw'
  obtain ⟨⟨dq, os⟩, hw''⟩ := hw'
  subst hw''
  have k3 : Below w.heap.size w (Sort.grow (redrawn W2 dq) os) := k2.trans ((below_regrown W2 dq os).mono k2.size)
  generalize Sort.grow (redrawn W2 dq) os = W3 at *
  go_wp2_with fail
  go_ret
  exact ⟨rfl, k3⟩
set_option maxHeartbeats 1000000 in
theorem cell_ok1 (b o c : Nat) (cs : List C) (x : Nat) (r f bk xx : Int) (w : World) (hT : Txt.Tab w) (hC : CellsAt w b o cs) (hx : x < cs.length) (hn : cs.length ≤ 1000000)
    (h0 : w.cell? ⟨b, o + x * 4, none⟩ = some (.int .i32 r)) (h1 : w.cell? ⟨b, o + x * 4 + 1, none⟩ = some (.int .i64 f)) (h2 : w.cell? ⟨b, o + x * 4 + 2, none⟩ = some (.int .i64 bk)) (h3 : w.cell? ⟨b, o + x * 4 + 3, none⟩ = some (.int .i64 xx)) (hr : r ≠ 0) (hw : wd r ≠ 0) (hs : isSt (f, bk, xx) = true) (hl : loose cs x = false) :
    Calls Tryz.prog 134 #[.slice (some ⟨b, o, none⟩) cs.length c, .int .i64 (x : Int)] w fun e w' => e = .returned (.int .i64 0) ∧ Below w.heap.size w w' := by
  have HT : Hid (Txt.Tab w) := hT
  have HC : Hid (CellsAt w b o cs) := hC
  have HX : Hid (x < cs.length) := hx
  have HN : Hid (cs.length ≤ 1000000) := hn
  clear hT hC
  have ⟨c0, c1, c2, c3⟩ := cells4_new w 91 (.int .i32 r) (.int .i64 f) (.int .i64 bk) (.int .i64 xx)
  have k0 : Below w.heap.size w (w.alloc (.cells #[.int .i32 r, .int .i64 f, .int .i64 bk, .int .i64 xx] 91)) := (Below.refl _ _).alloc (Nat.le_refl _) _
  have nr : (r != 0) = true := by simpa using hr
  have nr' : (r == 0) = false := by simpa using hr
  have HW : Hid (wd r = wd r) := rfl
  have nw : (wd r == 0) = false := by simpa using hw
  have HS : Hid (isSt (f, bk, xx) = true) := hs
  have HL : Hid (loose cs x = false) := hl
  clear hs hl
  go_enter Tryz.func134, Tryz.ntmps134
  go_wp2_with (first | (go_at_call 79; refine (width_to r _ (Tab.next HT.out k0) _ HW.out).mono ?_; rintro e W1 ⟨rfl, b1⟩; have k1 := k0.trans (b1.mono k0.size); have d1 := cell_keep b1 c1; have d2 := cell_keep b1 c2; have d3 := cell_keep b1 c3; have d0 := cell_keep b1 c0) | (go_at_call 78; refine (check_to f bk xx _ HS.out _).mono ?_; rintro e W2 ⟨rfl, b2⟩; have k2 := k1.trans (b2.mono k1.size); have e0 := cell_keep b2 d0; have e1 := cell_keep b2 d1; have e2 := cell_keep b2 d2; have e3 := cell_keep b2 d3))
  have y0 : ∀ d os, (Sort.grow (redrawn W2 d) os).cell? ⟨w.heap.size, 0, none⟩ = some (.int .i32 r) := fun d os => cell_regrown e0 d os
  have y1 : ∀ d os, (Sort.grow (redrawn W2 d) os).cell? ⟨w.heap.size, 1, none⟩ = some (.int .i64 f) := fun d os => cell_regrown e1 d os
  have y2 : ∀ d os, (Sort.grow (redrawn W2 d) os).cell? ⟨w.heap.size, 2, none⟩ = some (.int .i64 bk) := fun d os => cell_regrown e2 d os
  have y3 : ∀ d os, (Sort.grow (redrawn W2 d) os).cell? ⟨w.heap.size, 3, none⟩ = some (.int .i64 xx) := fun d os => cell_regrown e3 d os
  have K4 : Hid (∀ d os, Calls Tryz.prog 158 #[.slice (some ⟨b, o, none⟩) cs.length c, .int .i64 (x : Int)] (Sort.grow (redrawn W2 d) os) fun e w'' => e = .returned (.bool false) ∧ ∃ p : Regrown, w'' = Sort.grow (redrawn W2 p.d) p.os) := fun d os => Calls.regrown_of (loose_to b o c cs x false HL.out _ (Tab.next HT.out (k2.trans ((below_regrown W2 d os).mono k2.size))) (HC.out.below (k2.trans ((below_regrown W2 d os).mono k2.size))) HX.out HN.out)
  refine wp_region_quiet_below (by kernel_rfl) (by kernel_rfl) ?_
  repeat (first | go_big_quiet_skip | quiet_step (first | (go_at_call 158; exact K4.out _ _)))
  refine wpQuiet_nil ?_
  intro _ hw'
  obtain ⟨⟨dq, os⟩, hw''⟩ := hw'
  subst hw''
  have k3 : Below w.heap.size w (Sort.grow (redrawn W2 dq) os) := k2.trans ((below_regrown W2 dq os).mono k2.size)
  generalize Sort.grow (redrawn W2 dq) os = W3 at *
  go_wp2_with fail
  go_ret
  exact ⟨rfl, k3⟩
set_option maxHeartbeats 1000000 in
theorem cell_style (b o c : Nat) (cs : List C) (x : Nat) (r f bk xx : Int) (w : World) (hT : Txt.Tab w) (hC : CellsAt w b o cs) (hx : x < cs.length) (hn : cs.length ≤ 1000000)
    (h0 : w.cell? ⟨b, o + x * 4, none⟩ = some (.int .i32 r)) (h1 : w.cell? ⟨b, o + x * 4 + 1, none⟩ = some (.int .i64 f)) (h2 : w.cell? ⟨b, o + x * 4 + 2, none⟩ = some (.int .i64 bk)) (h3 : w.cell? ⟨b, o + x * 4 + 3, none⟩ = some (.int .i64 xx)) (hr : r = 0) (hs : isSt (f, bk, xx) = true) (hl : loose cs x = false) (fp bp xp : Int) (hx0 : 0 < x) (p1 : w.cell? ⟨b, o + (x - 1) * 4 + 1, none⟩ = some (.int .i64 fp)) (p2 : w.cell? ⟨b, o + (x - 1) * 4 + 2, none⟩ = some (.int .i64 bp)) (p3 : w.cell? ⟨b, o + (x - 1) * 4 + 3, none⟩ = some (.int .i64 xp)) (hq : (f, bk, xx) ≠ (fp, bp, xp)) :
    Calls Tryz.prog 134 #[.slice (some ⟨b, o, none⟩) cs.length c, .int .i64 (x : Int)] w fun e w' => e = .returned (.int .i64 5) ∧ Below w.heap.size w w' := by
  have HT : Hid (Txt.Tab w) := hT
  have HC : Hid (CellsAt w b o cs) := hC
  have HX : Hid (x < cs.length) := hx
  have HN : Hid (cs.length ≤ 1000000) := hn
  clear hT hC
  have ⟨c0, c1, c2, c3⟩ := cells4_new w 91 (.int .i32 r) (.int .i64 f) (.int .i64 bk) (.int .i64 xx)
  have k0 : Below w.heap.size w (w.alloc (.cells #[.int .i32 r, .int .i64 f, .int .i64 bk, .int .i64 xx] 91)) := (Below.refl _ _).alloc (Nat.le_refl _) _
  subst hr
  have nq : ∀ w, (binOp .neq 26 (.agg #[.int .i64 f, .int .i64 bk, .int .i64 xx]) (.agg #[.int .i64 fp, .int .i64 bp, .int .i64 xp])).run Tryz.prog w = .ok (.bool true) w := fun w => by rw [Sty.neq_agg]; simp [hq]
  clear hq
  have HS : Hid (isSt (f, bk, xx) = true) := hs
  have HL : Hid (loose cs x = false) := hl
  clear hs hl
  go_enter Tryz.func134, Tryz.ntmps134
  go_wp2_with (go_at_call 78; refine (check_to f bk xx _ HS.out _).mono ?_; rintro e W2 ⟨rfl, b2⟩; have k2 := k0.trans (b2.mono k0.size); have e0 := cell_keep b2 c0; have e1 := cell_keep b2 c1; have e2 := cell_keep b2 c2; have e3 := cell_keep b2 c3)
  have hwr : IntKind.i64.wrap ((x : Int) - 1) = ((x - 1 : Nat) : Int) := by unfold IntKind.wrap; simp [IntKind.bits, IntKind.signed]; omega
  have hxp : x - 1 < cs.length := by omega
  have y0 : ∀ d os, (Sort.grow (redrawn W2 d) os).cell? ⟨w.heap.size, 0, none⟩ = some (.int .i32 0) := fun d os => cell_regrown e0 d os
  have y1 : ∀ d os, (Sort.grow (redrawn W2 d) os).cell? ⟨w.heap.size, 1, none⟩ = some (.int .i64 f) := fun d os => cell_regrown e1 d os
  have y2 : ∀ d os, (Sort.grow (redrawn W2 d) os).cell? ⟨w.heap.size, 2, none⟩ = some (.int .i64 bk) := fun d os => cell_regrown e2 d os
  have y3 : ∀ d os, (Sort.grow (redrawn W2 d) os).cell? ⟨w.heap.size, 3, none⟩ = some (.int .i64 xx) := fun d os => cell_regrown e3 d os
  have u1 : ∀ d os, (Sort.grow (redrawn W2 d) os).cell? ⟨b, o + (x - 1) * 4 + 1, none⟩ = some (.int .i64 fp) := fun d os => cell_regrown (cell_keep k2 p1) d os
  have u2 : ∀ d os, (Sort.grow (redrawn W2 d) os).cell? ⟨b, o + (x - 1) * 4 + 2, none⟩ = some (.int .i64 bp) := fun d os => cell_regrown (cell_keep k2 p2) d os
  have u3 : ∀ d os, (Sort.grow (redrawn W2 d) os).cell? ⟨b, o + (x - 1) * 4 + 3, none⟩ = some (.int .i64 xp) := fun d os => cell_regrown (cell_keep k2 p3) d os
  have K4 : Hid (∀ d os, Calls Tryz.prog 158 #[.slice (some ⟨b, o, none⟩) cs.length c, .int .i64 (x : Int)] (Sort.grow (redrawn W2 d) os) fun e w'' => e = .returned (.bool false) ∧ ∃ p : Regrown, w'' = Sort.grow (redrawn W2 p.d) p.os) := fun d os => Calls.regrown_of (loose_to b o c cs x false HL.out _ (Tab.next HT.out (k2.trans ((below_regrown W2 d os).mono k2.size))) (HC.out.below (k2.trans ((below_regrown W2 d os).mono k2.size))) HX.out HN.out)
  refine wp_region_quiet_below (by kernel_rfl) (by kernel_rfl) ?_
  repeat (first | go_big_quiet_skip | quiet_step (first | (go_at_call 158; exact K4.out _ _)))
  refine wpQuiet_nil ?_
  intro _ hw'
  obtain ⟨⟨dq, os⟩, hw''⟩ := hw'
  subst hw''
  have k3 : Below w.heap.size w (Sort.grow (redrawn W2 dq) os) := k2.trans ((below_regrown W2 dq os).mono k2.size)
  generalize Sort.grow (redrawn W2 dq) os = W3 at *
  go_wp2_with fail
  go_ret
  exact ⟨rfl, k3⟩
set_option maxHeartbeats 1000000 in
theorem cell_ok0 (b o c : Nat) (cs : List C) (x : Nat) (r f bk xx : Int) (w : World) (hT : Txt.Tab w) (hC : CellsAt w b o cs) (hx : x < cs.length) (hn : cs.length ≤ 1000000)
    (h0 : w.cell? ⟨b, o + x * 4, none⟩ = some (.int .i32 r)) (h1 : w.cell? ⟨b, o + x * 4 + 1, none⟩ = some (.int .i64 f)) (h2 : w.cell? ⟨b, o + x * 4 + 2, none⟩ = some (.int .i64 bk)) (h3 : w.cell? ⟨b, o + x * 4 + 3, none⟩ = some (.int .i64 xx)) (hr : r = 0) (hs : isSt (f, bk, xx) = true) (hl : loose cs x = false) (fp bp xp : Int) (hx0 : 0 < x) (p1 : w.cell? ⟨b, o + (x - 1) * 4 + 1, none⟩ = some (.int .i64 fp)) (p2 : w.cell? ⟨b, o + (x - 1) * 4 + 2, none⟩ = some (.int .i64 bp)) (p3 : w.cell? ⟨b, o + (x - 1) * 4 + 3, none⟩ = some (.int .i64 xp)) (hq : (f, bk, xx) = (fp, bp, xp)) :
    Calls Tryz.prog 134 #[.slice (some ⟨b, o, none⟩) cs.length c, .int .i64 (x : Int)] w fun e w' => e = .returned (.int .i64 0) ∧ Below w.heap.size w w' := by
  have HT : Hid (Txt.Tab w) := hT
  have HC : Hid (CellsAt w b o cs) := hC
  have HX : Hid (x < cs.length) := hx
  have HN : Hid (cs.length ≤ 1000000) := hn
  clear hT hC
  have ⟨c0, c1, c2, c3⟩ := cells4_new w 91 (.int .i32 r) (.int .i64 f) (.int .i64 bk) (.int .i64 xx)
  have k0 : Below w.heap.size w (w.alloc (.cells #[.int .i32 r, .int .i64 f, .int .i64 bk, .int .i64 xx] 91)) := (Below.refl _ _).alloc (Nat.le_refl _) _
  subst hr
  have nq : ∀ w, (binOp .neq 26 (.agg #[.int .i64 f, .int .i64 bk, .int .i64 xx]) (.agg #[.int .i64 fp, .int .i64 bp, .int .i64 xp])).run Tryz.prog w = .ok (.bool false) w := fun w => by rw [Sty.neq_agg]; simp [hq]
  clear hq
  have HS : Hid (isSt (f, bk, xx) = true) := hs
  have HL : Hid (loose cs x = false) := hl
  clear hs hl
  go_enter Tryz.func134, Tryz.ntmps134
  go_wp2_with (go_at_call 78; refine (check_to f bk xx _ HS.out _).mono ?_; rintro e W2 ⟨rfl, b2⟩; have k2 := k0.trans (b2.mono k0.size); have e0 := cell_keep b2 c0; have e1 := cell_keep b2 c1; have e2 := cell_keep b2 c2; have e3 := cell_keep b2 c3)
  have hwr : IntKind.i64.wrap ((x : Int) - 1) = ((x - 1 : Nat) : Int) := by unfold IntKind.wrap; simp [IntKind.bits, IntKind.signed]; omega
  have hxp : x - 1 < cs.length := by omega
  have y0 : ∀ d os, (Sort.grow (redrawn W2 d) os).cell? ⟨w.heap.size, 0, none⟩ = some (.int .i32 0) := fun d os => cell_regrown e0 d os
  have y1 : ∀ d os, (Sort.grow (redrawn W2 d) os).cell? ⟨w.heap.size, 1, none⟩ = some (.int .i64 f) := fun d os => cell_regrown e1 d os
  have y2 : ∀ d os, (Sort.grow (redrawn W2 d) os).cell? ⟨w.heap.size, 2, none⟩ = some (.int .i64 bk) := fun d os => cell_regrown e2 d os
  have y3 : ∀ d os, (Sort.grow (redrawn W2 d) os).cell? ⟨w.heap.size, 3, none⟩ = some (.int .i64 xx) := fun d os => cell_regrown e3 d os
  have u1 : ∀ d os, (Sort.grow (redrawn W2 d) os).cell? ⟨b, o + (x - 1) * 4 + 1, none⟩ = some (.int .i64 fp) := fun d os => cell_regrown (cell_keep k2 p1) d os
  have u2 : ∀ d os, (Sort.grow (redrawn W2 d) os).cell? ⟨b, o + (x - 1) * 4 + 2, none⟩ = some (.int .i64 bp) := fun d os => cell_regrown (cell_keep k2 p2) d os
  have u3 : ∀ d os, (Sort.grow (redrawn W2 d) os).cell? ⟨b, o + (x - 1) * 4 + 3, none⟩ = some (.int .i64 xp) := fun d os => cell_regrown (cell_keep k2 p3) d os
  have K4 : Hid (∀ d os, Calls Tryz.prog 158 #[.slice (some ⟨b, o, none⟩) cs.length c, .int .i64 (x : Int)] (Sort.grow (redrawn W2 d) os) fun e w'' => e = .returned (.bool false) ∧ ∃ p : Regrown, w'' = Sort.grow (redrawn W2 p.d) p.os) := fun d os => Calls.regrown_of (loose_to b o c cs x false HL.out _ (Tab.next HT.out (k2.trans ((below_regrown W2 d os).mono k2.size))) (HC.out.below (k2.trans ((below_regrown W2 d os).mono k2.size))) HX.out HN.out)
  refine wp_region_quiet_below (by kernel_rfl) (by kernel_rfl) ?_
  repeat (first | go_big_quiet_skip | quiet_step (first | (go_at_call 158; exact K4.out _ _)))
  refine wpQuiet_nil ?_
  intro _ hw'
  obtain ⟨⟨dq, os⟩, hw''⟩ := hw'
  subst hw''
  have k3 : Below w.heap.size w (Sort.grow (redrawn W2 dq) os) := k2.trans ((below_regrown W2 dq os).mono k2.size)
  generalize Sort.grow (redrawn W2 dq) os = W3 at *
  go_wp2_with fail
  go_ret
  exact ⟨rfl, k3⟩
theorem checkCell_any (b o c : Nat) (cs : List C) (x : Nat) (w : World) (hT : Txt.Tab w) (hC : CellsAt w b o cs) (hx : x < cs.length) (hn : cs.length ≤ 1000000) :
    Calls Tryz.prog 134 #[.slice (some ⟨b, o, none⟩) cs.length c, .int .i64 (x : Int)] w fun e w' => e = .returned (.int .i64 (cellErr cs x)) ∧ Below w.heap.size w w' := by
  obtain ⟨h0, h1, h2, h3⟩ := hC x hx
  have hp : 0 < x → _ := fun h => (hC (x - 1) (by omega)).2
  have hlo : (cs.getD x z0).1 = 0 → loose cs x = false → 0 < x := fun h0 hl => by
    unfold loose at hl
    rw [if_pos h0] at hl
    simp at hl
    omega
  unfold cellErr
  rcases hc : cs.getD x z0 with ⟨r, f, bk, xx⟩
  rcases hcp : cs.getD (x - 1) z0 with ⟨rp, fp, bp, xp⟩
  rw [hc] at h0 h1 h2 h3 hlo
  rw [hcp] at hp
  dsimp only at h0 h1 h2 h3 hp hlo ⊢
  by_cases hr : r = 0
  · cases hs : isSt (f, bk, xx) with
    | false => rw [if_pos (Or.inr rfl)]; exact cell_range3 b o c cs x r f bk xx w hT hC hx hn h0 h1 h2 h3 hr hs
    | true =>
      rw [if_neg (by simp [hr])]
      cases hl : loose cs x with
      | true => rw [if_pos (Or.inl rfl)]; exact cell_loose2 b o c cs x r f bk xx w hT hC hx hn h0 h1 h2 h3 hr hs hl
      | false =>
        have hx0 := hlo hr hl
        obtain ⟨p1, p2, p3⟩ := hp hx0
        by_cases hq : (f, bk, xx) = (fp, bp, xp)
        · rw [if_neg (by simp [hq])]
          exact cell_ok0 b o c cs x r f bk xx w hT hC hx hn h0 h1 h2 h3 hr hs hl fp bp xp hx0 p1 p2 p3 hq
        · rw [if_pos (Or.inr ⟨hr, hq⟩)]
          exact cell_style b o c cs x r f bk xx w hT hC hx hn h0 h1 h2 h3 hr hs hl fp bp xp hx0 p1 p2 p3 hq
  · by_cases hw : wd r = 0
    · rw [if_pos (Or.inl ⟨hr, hw⟩)]
      exact cell_range1 b o c cs x r f bk xx w hT hC hx hn h0 h1 h2 h3 hr hw
    · cases hs : isSt (f, bk, xx) with
      | false => rw [if_pos (Or.inr rfl)]; exact cell_range2 b o c cs x r f bk xx w hT hC hx hn h0 h1 h2 h3 hr hw hs
      | true =>
        rw [if_neg (by simp [hw])]
        cases hl : loose cs x with
        | true => rw [if_pos (Or.inl rfl)]; exact cell_loose1 b o c cs x r f bk xx w hT hC hx hn h0 h1 h2 h3 hr hw hs hl
        | false =>
          rw [if_neg (by simp [hr])]
          exact cell_ok1 b o c cs x r f bk xx w hT hC hx hn h0 h1 h2 h3 hr hw hs hl
end Grd
end Go.Proofs.YtnkeahfcpbepjaaGreatDoor

/- The walks of rowOf and Check. -/
namespace Go.Proofs.YtnkeahfcpbepjaaGreatDoor
open Go.ChangeShapes Go.WideShapes Go.ChangeAt Go.RowKit
namespace Grd
open Txt (wd)
set_option maxHeartbeats 1000000 in
theorem rowOf_any (b o L c n y : Nat) (h : Int) (w : World) (hn : 1 ≤ n) (hL : (y + 1) * n ≤ L) (hc : L ≤ c) (hm : c ≤ 9223372036854775807) :
    Calls Tryz.prog 133 #[.agg #[.int .i64 (n : Int), .int .i64 h, .slice (some ⟨b, o, none⟩) L c], .int .i64 (y : Int)] w fun e w' => e = .returned (.slice (some ⟨b, o + y * n * 4, none⟩) n (c - y * n)) ∧ Below w.heap.size w w' := by
  obtain ⟨p, hp⟩ : ∃ p, p = y * n := ⟨_, rfl⟩
  have hq : (y + 1) * n = p + n := by rw [hp, Nat.add_mul, Nat.one_mul]
  rw [hq] at hL
  rw [← hp]
  have hy : y ≤ p := by rw [hp]; exact Nat.le_mul_of_pos_right _ (by omega)
  have e1 : (y : Int) * (n : Int) = (p : Int) := by rw [hp]; simp
  have e2 : ((y : Int) + 1) * (n : Int) = ((p + n : Nat) : Int) := by rw [← hq]; simp
  clear hq hp
  have e3 : p + n - p = n := by omega
  go_enter Tryz.func133, Tryz.ntmps133
  go_wp2_with fail
  go_ret
  exact ⟨by show Ending.returned (.slice (some ⟨b, o + p * 4, none⟩) (p + n - p) (c - p)) = _; rw [e3], (Below.refl _ _).alloc (Nat.le_refl _) _⟩
theorem isSize_any (a b : Int) (w : World) :
    Calls Tryz.prog 132 #[.int .i64 a, .int .i64 b] w fun e w' => e = .returned (.bool (isSize a b)) ∧ w = w' := by
  go_enter Tryz.func132, Tryz.ntmps132
  go_wp2
  all_goals (go_ret; exact ⟨Sty.ret_bool (by rw [Bool.eq_iff_iff]; simp [isSize]; try omega), rfl⟩)
theorem isSize_to (a b : Int) (v : Bool) (h : isSize a b = v) (w : World) :
    Calls Tryz.prog 132 #[.int .i64 a, .int .i64 b] w fun e w' => e = .returned (.bool v) ∧ w = w' := by
  have := isSize_any a b w
  rwa [h] at this
/-- A slice of cells that reads as cs. -/
def SliceAt (w : World) (v : Value) (cs : List C) : Prop :=
  (cs = [] ∧ ∃ a c, v = .slice a 0 c) ∨ (cs ≠ [] ∧ ∃ b o c, v = .slice (some ⟨b, o, none⟩) cs.length c ∧ cs.length ≤ c ∧ c ≤ 9223372036854775807 ∧ CellsAt w b o cs)
theorem SliceAt.below {w w' : World} {v : Value} {cs : List C} (h : SliceAt w v cs) (hb : Below w.heap.size w w') : SliceAt w' v cs := by
  rcases h with h | ⟨h0, b, o, c, hv, hc, hm, hC⟩
  · exact .inl h
  · exact .inr ⟨h0, b, o, c, hv, hc, hm, hC.below hb⟩
theorem SliceAt.shape {w : World} {v : Value} {cs : List C} (h : SliceAt w v cs) : ∃ a c, v = .slice a cs.length c := by
  rcases h with ⟨rfl, a, c, rfl⟩ | ⟨_, b, o, c, rfl, _⟩
  · exact ⟨a, c, rfl⟩
  · exact ⟨_, c, rfl⟩
set_option maxHeartbeats 1000000 in
theorem check_size1 (a b : Int) (v : Value) (w : World) (h : isSize a b = false) :
    Calls Tryz.prog 75 #[.agg #[.int .i64 a, .int .i64 b, v]] w fun e w' => e = .returned (.int .i64 3) ∧ Below w.heap.size w w' := by
  have H : Hid (isSize a b = false) := h
  clear h
  go_enter Tryz.func75, Tryz.ntmps75
  go_wp2_with (go_at_call 132; refine (isSize_to a b _ H.out _).mono ?_; rintro e W1 ⟨rfl, rfl⟩)
  go_ret
  exact ⟨rfl, (Below.refl _ _).alloc (Nat.le_refl _) _⟩
theorem prod_in (a b : Int) (h : isSize a b = true) : 0 ≤ a * b ∧ a * b ≤ 7200 ∧ 1 ≤ a ∧ a ≤ 120 ∧ 1 ≤ b ∧ b ≤ 60 := by
  unfold isSize at h
  have h' := of_decide_eq_true h
  obtain ⟨h1, h2, h3, h4⟩ := h'
  have e1 : 0 ≤ a * b := Int.mul_nonneg (by omega) (by omega)
  have e2 : a * b ≤ 120 * 60 := Int.mul_le_mul h2 h4 (by omega) (by omega)
  exact ⟨e1, by omega, h1, h2, h3, h4⟩
set_option maxHeartbeats 1000000 in
theorem check_size2 (a b : Int) (ad : Option Addr) (L c : Nat) (w : World) (h : isSize a b = true) (hL : (L : Int) ≠ a * b) :
    Calls Tryz.prog 75 #[.agg #[.int .i64 a, .int .i64 b, .slice ad L c]] w fun e w' => e = .returned (.int .i64 3) ∧ Below w.heap.size w w' := by
  have H : Hid (isSize a b = true) := h
  have ⟨p0, p1, _⟩ := prod_in a b h
  clear h
  obtain ⟨p, hp⟩ : ∃ p, p = a * b := ⟨_, rfl⟩
  rw [← hp] at hL p0 p1
  have e1 : a * b = p := hp.symm
  clear hp
  have ne : ((L : Int) != p) = true := by simpa using hL
  clear hL
  go_enter Tryz.func75, Tryz.ntmps75
  go_wp2_with (go_at_call 132; refine (isSize_to a b _ H.out _).mono ?_; rintro e W1 ⟨rfl, rfl⟩)
  go_ret
  exact ⟨rfl, (Below.refl _ _).alloc (Nat.le_refl _) _⟩
theorem first_step (f : Nat → Int) (k N : Nat) (hk : k < N) : firstErr f k (N - k) = if f k = 0 then firstErr f (k + 1) (N - (k + 1)) else f k := by
  rw [show N - k = (N - (k + 1)) + 1 by omega]
  rfl
theorem first_end (f : Nat → Int) (k N : Nat) (hk : ¬ k < N) : firstErr f k (N - k) = 0 := by
  rw [show N - k = 0 by omega]
  rfl
theorem row_len (n hh : Nat) (cs : List C) (k : Nat) (hL : cs.length = n * hh) (hk : k < hh) : (rowAt n cs k).length = n := by
  unfold rowAt
  rw [List.length_take, List.length_drop, hL]
  have : (k + 1) * n ≤ n * hh := by rw [Nat.mul_comm n hh]; exact Nat.mul_le_mul_right _ hk
  rw [Nat.add_mul, Nat.one_mul] at this
  omega
theorem row_fits (n hh L : Nat) (k : Nat) (hL : L = n * hh) (hk : k < hh) : (k + 1) * n ≤ L := by
  rw [hL, Nat.mul_comm n hh]; exact Nat.mul_le_mul_right _ hk
theorem cells3 {w : World} {g : Nat} {t : TypeId} {a b c : Value} (h : w.heap[g]? = some (.cells #[a, b, c] t (0, 0))) :
    w.cell? ⟨g, 0, none⟩ = some a ∧ w.cell? ⟨g, 1, none⟩ = some b ∧ w.cell? ⟨g, 2, none⟩ = some c ∧ (∀ i, w.frozen? ⟨g, i, none⟩ = false) :=
  ⟨by simp [World.cell?, h], by simp [World.cell?, h], by simp [World.cell?, h], fun i => by simp [World.frozen?, h]⟩
theorem blk_lt {w : World} {g : Nat} {o : Obj} (h : w.heap[g]? = some o) : g < w.heap.size := (Array.getElem?_eq_some_iff.1 h).1
theorem carry {W W' : World} {g : Nat} {o : Obj} (h : W.heap[g]? = some o) (hb : Below W.heap.size W W') : W'.heap[g]? = some o := (hb.block _ (blk_lt h)).trans h
set_option maxHeartbeats 4000000 in
theorem check_rows (n hh : Nat) (b o c : Nat) (cs : List C) (w : World) (hT : Txt.Tab w) (hC : CellsAt w b o cs) (hs : isSize n hh = true) (hL : cs.length = n * hh) (hc : cs.length ≤ c) (hm : c ≤ 9223372036854775807) :
    Calls Tryz.prog 75 #[.agg #[.int .i64 (n : Int), .int .i64 (hh : Int), .slice (some ⟨b, o, none⟩) cs.length c]] w fun e w' => e = .returned (.int .i64 (firstErr (fun y => rowErr (rowAt n cs y)) 0 hh)) ∧ Below w.heap.size w w' := by
  have H : Hid (isSize n hh = true) := hs
  have HT : Hid (Txt.Tab w) := hT
  have HC : Hid (CellsAt w b o cs) := hC
  have HL : Hid (cs.length = n * hh) := hL
  have ⟨p0, p1, p2, p3, p4, p5⟩ := prod_in n hh hs
  clear hs hT hC
  have e1 : (n : Int) * (hh : Int) = (cs.length : Int) := by rw [hL]; simp
  have l1 : cs.length ≤ 7200 := by rw [hL]; omega
  clear hL p0 p1
  have ne : ((cs.length : Int) != (cs.length : Int)) = false := by simp
  go_enter Tryz.func75, Tryz.ntmps75
  go_wp2_with (go_at_call 132; refine (isSize_to n hh _ H.out _).mono ?_; rintro e W1 ⟨rfl, rfl⟩)
  generalize hF : (fun y => rowErr (rowAt n cs y)) = F
  have HF : Hid (∀ y, F y = rowErr (rowAt n cs y)) := fun y => by rw [← hF]
  have HFF : Hid (firstErr F 0 hh = firstErr (fun y => rowErr (rowAt n cs y)) 0 hh) := by unfold Hid; rw [hF]
  clear hF
  go_loopg [26] hh (fun g y wr => ∃ k : Nat, y = .int .i64 (k : Int) ∧ k ≤ hh ∧ hh - k ≤ g ∧ Below w.heap.size w wr ∧ wr.heap[w.heap.size]? = some (.cells #[.int .i64 (n : Int), .int .i64 (hh : Int), .slice (some ⟨b, o, none⟩) cs.length c] 24 (0, 0)) ∧ firstErr F k (hh - k) = firstErr F 0 hh)
  case atStart => exact ⟨0, rfl, by omega, by omega, (Below.refl _ _).alloc (Nat.le_refl _) _, heap_alloc_new _ _, rfl⟩
  case round =>
    obtain ⟨k, rfl, hk, hg, hb, hv, hf⟩ := hrel
    have HF1 : Hid (firstErr F k (hh - k) = firstErr F 0 hh) := hf
    clear hf
    have ⟨c0, c1, c2, _⟩ := cells3 hv
    by_cases hlt : k < hh
    · have HR : Hid (∀ W, Below w.heap.size w W → Calls Tryz.prog 133 #[.agg #[.int .i64 (n : Int), .int .i64 (hh : Int), .slice (some ⟨b, o, none⟩) cs.length c], .int .i64 (k : Int)] W fun e w' => e = .returned (.slice (some ⟨b, o + k * n * 4, none⟩) n (c - k * n)) ∧ Below W.heap.size W w') := fun W _ => rowOf_any b o cs.length c n k hh W (by omega) (row_fits n hh _ k HL.out hlt) hc hm
      have hrl := row_len n hh cs k HL.out hlt
      have HC1 : Hid (∀ W, Below w.heap.size w W → ∀ j : Nat, j < n → Calls Tryz.prog 134 #[.slice (some ⟨b, o + k * n * 4, none⟩) n (c - k * n), .int .i64 (j : Int)] W fun e w' => e = .returned (.int .i64 (cellErr (rowAt n cs k) j)) ∧ Below W.heap.size W w') := fun W kW j hj => by
        have hp := (HC.out.below kW).part (k * n) n (by have := row_fits n hh _ k HL.out hlt; rw [Nat.add_mul, Nat.one_mul] at this; omega)
        have := checkCell_any b (o + k * n * 4) (c - k * n) (rowAt n cs k) j W (Tab.next HT.out kW) hp (by rw [hrl]; exact hj) (by rw [hrl]; omega)
        rwa [hrl] at this
      have HRE : Hid (rowErr (rowAt n cs k) = firstErr (cellErr (rowAt n cs k)) 0 n) := by unfold Hid rowErr; rw [hrl]
      have HFk : Hid (F k = rowErr (rowAt n cs k)) := HF.out k
      clear hrl
      have lt1 : ((k : Int) < (hh : Int)) := by omega
      go_wp2_with (go_at_call 133; refine (HR.out _ hb).mono ?_; rintro e W1 ⟨rfl, b1⟩)
      have k1 : Below w.heap.size w W1 := hb.trans (b1.mono hb.size)
      have v1 := carry hv b1
      clear hb hv b1 c0 c1 c2
      generalize rowAt n cs k = row at *
      go_loopg [34] n (fun g x wr => ∃ j : Nat, x = .int .i64 (j : Int) ∧ j ≤ n ∧ n - j ≤ g ∧ Below w.heap.size w wr ∧ wr.heap[w.heap.size]? = some (.cells #[.int .i64 (n : Int), .int .i64 (hh : Int), .slice (some ⟨b, o, none⟩) cs.length c] 24 (0, 0)) ∧ firstErr (cellErr row) j (n - j) = firstErr (cellErr row) 0 n)
      case atStart => exact ⟨0, rfl, by omega, by omega, k1, v1, rfl⟩
      case round =>
        obtain ⟨j, rfl, hj, hg2, hb, hv, hf⟩ := hrel
        have HF2 : Hid (firstErr (cellErr row) j (n - j) = firstErr (cellErr row) 0 n) := hf
        clear hf
        by_cases hjn : j < n
        · have lt2 : ((j : Int) < (n : Int)) := by omega
          have KC := HC1.out _ hb j hjn
          have HST := first_step (cellErr row) j n hjn
          by_cases he : cellErr row j = 0
          · rw [if_pos he] at HST
            rw [he] at KC
            have HK : Hid (Calls Tryz.prog 134 #[.slice (some ⟨b, o + k * n * 4, none⟩) n (c - k * n), .int .i64 (j : Int)] wr fun e w' => e = .returned (.int .i64 0) ∧ Below wr.heap.size wr w') := KC
            have HS : Hid (firstErr (cellErr row) j (n - j) = firstErr (cellErr row) (j + 1) (n - (j + 1))) := HST
            clear KC HST he
            go_wp2_with (go_at_call 134; refine HK.out.mono ?_; rintro e W2 ⟨rfl, b2⟩)
            go_roundg (n - (j + 1))
            case measure => omega
            case rel => exact ⟨j + 1, rfl, by omega, by omega, hb.trans (b2.mono hb.size), carry hv b2, by rw [← HF2.out, HS.out]⟩
          · rw [if_neg he] at HST
            have HK : Hid (Calls Tryz.prog 134 #[.slice (some ⟨b, o + k * n * 4, none⟩) n (c - k * n), .int .i64 (j : Int)] wr fun e w' => e = .returned (.int .i64 (cellErr row j)) ∧ Below wr.heap.size wr w') := KC
            have HV : Hid (cellErr row j = firstErr F 0 hh) := by
              have h1 := first_step F k hh hlt
              have h2 : F k = cellErr row j := by rw [HFk.out, HRE.out, ← HF2.out, HST]
              rw [h2, if_neg he] at h1
              unfold Hid
              rw [← HF1.out, h1]
            clear KC HST
            generalize cellErr row j = ce at *
            have nz : (ce != 0) = true := by simpa using he
            go_wp2_with (go_at_call 134; refine HK.out.mono ?_; rintro e W2 ⟨rfl, b2⟩)
            go_ret
            exact ⟨Txt.ret_int (HV.out.trans HFF.out), hb.trans (b2.mono hb.size)⟩
        · have lt2 : ¬ ((j : Int) < (n : Int)) := by omega
          have HV : Hid (firstErr F k (hh - k) = firstErr F (k + 1) (hh - (k + 1))) := by
            have h1 := first_step F k hh hlt
            have h2 : F k = 0 := by rw [HFk.out, HRE.out, ← HF2.out, first_end _ _ _ hjn]
            rw [if_pos h2] at h1
            exact h1
          go_wp2_with fail
          go_roundg (hh - (k + 1))
          case measure => omega
          case rel => exact ⟨k + 1, rfl, by omega, by omega, hb, hv, by rw [← HF1.out, HV.out]⟩
    · have lt1 : ¬ ((k : Int) < (hh : Int)) := by omega
      have HV : Hid (0 = firstErr F 0 hh) := by unfold Hid; rw [← HF1.out, first_end _ _ _ hlt]
      go_wp2_with fail
      go_ret
      exact ⟨Txt.ret_int (HV.out.trans HFF.out), hb⟩
/-- Check tells gridErr of any grid. -/
theorem check_any (a h : Int) (v : Value) (cs : List C) (w : World) (hT : Txt.Tab w) (hS : SliceAt w v cs) :
    Calls Tryz.prog 75 #[.agg #[.int .i64 a, .int .i64 h, v]] w fun e w' => e = .returned (.int .i64 (gridErr a h cs)) ∧ Below w.heap.size w w' := by
  unfold gridErr
  cases hs : isSize a h with
  | false => rw [if_pos (Or.inl rfl)]; exact check_size1 a h v w hs
  | true =>
    obtain ⟨p0, p1, p2, p3, p4, p5⟩ := prod_in a h hs
    by_cases hL : (cs.length : Int) = a * h
    · rw [if_neg (by simp [hL])]
      rcases hS with ⟨rfl, _⟩ | ⟨_, b, o, c, rfl, hc, hm, hC⟩
      · exfalso
        have : 1 * 1 ≤ a * h := Int.mul_le_mul p2 p4 (by omega) (by omega)
        simp at hL
        omega
      · obtain ⟨n, rfl⟩ := Int.eq_ofNat_of_zero_le (show 0 ≤ a by omega)
        obtain ⟨m, rfl⟩ := Int.eq_ofNat_of_zero_le (show 0 ≤ h by omega)
        rw [Int.toNat_natCast, Int.toNat_natCast]
        exact check_rows n m b o c cs w hT hC hs (by exact_mod_cast hL) hc hm
    · rw [if_pos (Or.inr hL)]
      obtain ⟨ad, c, rfl⟩ := hS.shape
      exact check_size2 a h ad cs.length c w hs hL
end Grd
end Go.Proofs.YtnkeahfcpbepjaaGreatDoor

/- copy of elements that take several words; cells laid flat. -/
namespace Go.Proofs.YtnkeahfcpbepjaaGreatDoor
open Go.ChangeShapes Go.WideShapes Go.ChangeAt Go.RowKit
namespace Grd
theorem run_copy_wide {P : Program} (w : World) (dT sT ty elem : TypeId) (g o dLen dCap : Nat) (a : Addr) (sLen sCap k : Nat) (cur : Array Value) (t : TypeId) (cs : List Value)
    (hu : P.underlying dT = some (.slice elem)) (hs : (P.info? elem).map (·.size) = some k)
    (hg : w.heap[g]? = some (.cells cur t (0, 0))) (hn : cs.length = Nat.min sLen dLen * k)
    (hsrc : ∀ j v, cs[j]? = some v → w.cell? (a.add j) = some v) (hfit : o + cs.length ≤ cur.size) (h1 : ∀ v ∈ cs, v.oneCell' = true) :
    (Builtin.copy_ #[dT, sT] ty #[.slice (some ⟨g, o, none⟩) dLen dCap, .slice (some a) sLen sCap]).run P w =
      .ok (goInt (Nat.min sLen dLen)) (w.setRow g (cur.toList.take o ++ cs ++ cur.toList.drop (o + cs.length)).toArray) := by
  have hl := run_loadCells_list (P := P) w a cs hsrc
  have hst := run_storeCells_at P g o t cs 0 cur w hg (by simpa using hfit) h1
  cases hq : P.info? elem with
  | none => simp [hq] at hs
  | some i =>
    have hi : i.size = k := by simpa [hq] using hs
    simp [Builtin.copy_, run_underlying hu, Builtin.lenOf, Builtin.firstCells, sizeOf, typeInfo, hq, hi, ← hn, hl, hst]
theorem wpList_copy_wide {P : Program} {w : World} {ops : Array Oper} {rest : List Oper} {o : Oper} {a : Act} {Q : Exit → Act → World → Prop} (hgd : o.guard = none) (d s : Operand) (dT sT : TypeId)
    (ho : o.op = .call { callee := .builtin .copy, args := #[d, s], argTypes := #[dT, sT] }) (elem : TypeId) (hu : P.underlying dT = some (.slice elem)) (k : Nat) (hsz : (P.info? elem).map (·.size) = some k)
    (g off dLen dCap : Nat) (ad : Addr) (sLen sCap : Nat) (hd : a.eval d = .slice (some ⟨g, off, none⟩) dLen dCap) (hs : a.eval s = .slice (some ad) sLen sCap)
    (cur : Array Value) (t : TypeId) (hg : w.heap[g]? = some (.cells cur t (0, 0))) (cs : List Value) (m : Nat) (hm : Nat.min sLen dLen = m) (hn : cs.length = m * k)
    (hsrc : ∀ j v, cs[j]? = some v → w.cell? (ad.add j) = some v) (hfit : off + cs.length ≤ cur.size) (h1 : ∀ v ∈ cs, v.oneCell' = true)
    (h : wpList P ops Q rest (a.put o.dst (goInt m)) (w.setRow g (cur.toList.take off ++ (cs ++ cur.toList.drop (off + cs.length))).toArray)) : wpList P ops Q (o :: rest) a w := by
  refine wpList_plain hgd fun K hK => ?_
  have hrun := run_copy_wide (P := P) w dT sT o.type elem g off dLen dCap ad sLen sCap k cur t cs hu hsz hg (by rw [hm]; exact hn) hsrc hfit h1
  rw [hm] at hrun
  unfold Oper.wp
  simp [execOp, ho, resolve, invoke, builtin, hd, hs, hrun, Result.andThen]
  exact hK _ _ h
/-- The four words of a cell. -/
def words (c : C) : List Value := [.int .i32 c.1, .int .i64 c.2.1, .int .i64 c.2.2.1, .int .i64 c.2.2.2]
def flat (cs : List C) : List Value := cs.flatMap words
theorem flat_len : ∀ cs : List C, (flat cs).length = cs.length * 4
  | [] => rfl
  | c :: cs => by
    show (words c ++ flat cs).length = _
    rw [List.length_append, flat_len cs]
    simp [words]
    omega
theorem flat_append (a b : List C) : flat (a ++ b) = flat a ++ flat b := by simp [flat]
theorem flat_at : ∀ (cs : List C) (j i : Nat), j < cs.length → i < 4 → (flat cs)[j * 4 + i]? = (words (cs.getD j z0))[i]?
  | c :: cs, 0, i, _, hi => by
    show (words c ++ flat cs)[0 * 4 + i]? = _
    rw [List.getElem?_append_left (by simp [words]; omega)]
    simp
  | c :: cs, j + 1, i, hj, hi => by
    show (words c ++ flat cs)[(j + 1) * 4 + i]? = _
    rw [List.getElem?_append_right (by simp [words]; omega), show (j + 1) * 4 + i - (words c).length = j * 4 + i by simp [words]; omega, flat_at cs j i (by simpa using hj) hi]
    simp
theorem flat_one : ∀ cs : List C, ∀ v ∈ flat cs, v.oneCell' = true := by
  intro cs v hv
  obtain ⟨c, _, hv⟩ := List.mem_flatMap.1 hv
  simp [words] at hv
  rcases hv with rfl | rfl | rfl | rfl <;> rfl
/-- v is a slice of the call's own (in a block from base on) that reads as cs, from the block's head on. -/
def OwnG (w : World) (base : Nat) (v : Value) (cs : List C) : Prop := ∃ (g cap : Nat) (rest : List Value) (t : { t : TypeId // t = 91 }),
  v = .slice (some ⟨g, 0, none⟩) cs.length cap ∧ base ≤ g ∧ cs.length ≤ cap ∧ cap ≤ 9223372036854775807 ∧ w.heap[g]? = some (.cells (flat cs ++ rest).toArray t (0, 0))
theorem cellsAt_flat {w : World} {g : Nat} {cs : List C} {rest : List Value} {t : TypeId} (h : w.heap[g]? = some (.cells (flat cs ++ rest).toArray t (0, 0))) : CellsAt w g 0 cs := fun j hj => by
  have key : ∀ i, i < 4 → w.cell? ⟨g, 0 + j * 4 + i, none⟩ = (words (cs.getD j z0))[i]? := fun i hi => by
    rw [Nat.zero_add, ← flat_at cs j i hj hi]
    unfold World.cell?
    rw [h]
    have hl : j * 4 + i < (flat cs).length := by rw [flat_len]; omega
    simp [List.getElem?_append_left hl]
  exact ⟨key 0 (by omega), key 1 (by omega), key 2 (by omega), key 3 (by omega)⟩
theorem OwnG.slice {w : World} {base : Nat} {v : Value} {cs : List C} (h : OwnG w base v cs) : SliceAt w v cs := by
  obtain ⟨g, cap, rest, t, hv, _, hc, hm, hh⟩ := h
  rcases cs with _ | ⟨c, cs⟩
  · exact .inl ⟨rfl, _, _, hv⟩
  · exact .inr ⟨by simp, g, 0, cap, hv, hc, hm, cellsAt_flat hh⟩
theorem OwnG.below {w w' : World} {base : Nat} {v : Value} {cs : List C} (h : OwnG w base v cs) (hb : Below w.heap.size w w') : OwnG w' base v cs := by
  obtain ⟨g, cap, rest, t, hv, hg, hc, hm, hh⟩ := h
  exact ⟨g, cap, rest, t, hv, hg, hc, hm, carry hh hb⟩
end Grd
end Go.Proofs.YtnkeahfcpbepjaaGreatDoor

/- The library's contracts that this claim uses, laid at this program: each is one application of a theorem of the library. -/
namespace Go.Proofs
open Go.Shelf
def Tryz.lays169_ren : Go.Shelf.Ren := ⟨fun | 169 => 114 | n => n, fun | 70 => 104 | 9 => 9 | 0 => 0 | 72 => 107 | 37 => 105 | 127 => 149 | 3 => 3 | 5 => 5 | n => n, fun | n => n⟩
theorem Tryz.lays169 : Go.Proofs.Lays.n169 Tryz.prog Tryz.lays169_ren := {
  mixed := by kernel_rfl
  f169 := Tryz.func114.trans (congrArg some (by kernel_rfl))
  t0 := Tryz.underlying0
  a0 := Tryz.isAgg0
  z0 := Tryz.sizeOf0
  v0 := Tryz.zeroValue0
  t3 := Tryz.underlying3
  a3 := Tryz.isAgg3
  z3 := Tryz.sizeOf3
  v3 := Tryz.zeroValue3
  t9 := Tryz.underlying9
  a9 := Tryz.isAgg9
  z9 := Tryz.sizeOf9
  v9 := Tryz.zeroValue9
  t37 := Tryz.underlying105
  a37 := Tryz.isAgg105
  z37 := Tryz.sizeOf105
  v37 := Tryz.zeroValue105
  t70 := Tryz.underlying104
  a70 := Tryz.isAgg104
  z70 := Tryz.sizeOf104
  v70 := Tryz.zeroValue104
  t72 := Tryz.underlying107
  a72 := Tryz.isAgg107
  z72 := Tryz.sizeOf107
  v72 := Tryz.zeroValue107
  t127 := Tryz.underlying149
  a127 := Tryz.isAgg149
  z127 := Tryz.sizeOf149
  v127 := Tryz.zeroValue149 }
theorem Tryz.Builder_Extra_169 : Builder.Extra Tryz.prog Tryz.lays169_ren := {
  sizeBuilder := by kernel_rfl
  liesBuilder := by kernel_rfl
  t5 := Tryz.underlying5
  a5 := Tryz.isAgg5
  z5 := Tryz.sizeOf5
  v5 := Tryz.zeroValue5
  infoByte := by kernel_rfl
  cellsByte := by kernel_rfl
  sizeByte := by kernel_rfl
  neB5 := by decide }
open Go.RowKit in
theorem Tryz.Builder_String (B b : Nat) (l : List UInt8) (w : World) (h : Lib.IsBuilder 107 5 B b (Lib.byteCells l) w) (h0 : l ≠ []) :
    Calls Tryz.prog 114 #[.pointer (some ⟨b, 0, none⟩)] w fun e w' => e = .returned (.string ⟨l.toArray⟩) ∧ Below B w w' := Any.Builder_String Tryz.lays169 Tryz.Builder_Extra_169 B b l w h h0
open Go.RowKit in
theorem Tryz.Builder_String_empty (B b : Nat) (w : World) (h : Lib.IsBuilder 107 5 B b [] w) (hBw : B ≤ w.heap.size) :
    Calls Tryz.prog 114 #[.pointer (some ⟨b, 0, none⟩)] w fun e w' => e = .returned (.string ⟨#[]⟩) ∧ Below B w w' := Any.Builder_String_empty Tryz.lays169 Tryz.Builder_Extra_169 B b w h hBw
open Go.RowKit in
theorem Tryz.Builder_String_any (B b : Nat) (l : List UInt8) (w : World) (h : Lib.IsBuilder 107 5 B b (Lib.byteCells l) w) (hBw : B ≤ w.heap.size) :
    Calls Tryz.prog 114 #[.pointer (some ⟨b, 0, none⟩)] w fun e w' => e = .returned (.string ⟨l.toArray⟩) ∧ Below B w w' := Any.Builder_String_any Tryz.lays169 Tryz.Builder_Extra_169 B b l w h hBw
open Go.RowKit in
theorem Tryz.Builder_String_f (B b : Nat) (l : List UInt8) (w : World) (h : Lib.IsBuilderF 107 5 B b (Lib.byteCells l) w) (h0 : l ≠ []) :
    Calls Tryz.prog 114 #[.pointer (some ⟨b, 0, none⟩)] w fun e w' => e = .returned (.string ⟨l.toArray⟩) ∧ (Lib.IsBuilderF 107 5 B b (Lib.byteCells l) w' ∧ Below B w w') := Any.Builder_String_f Tryz.lays169 Tryz.Builder_Extra_169 B b l w h h0
open Go.RowKit in
theorem Tryz.Builder_String_empty_f (B b : Nat) (w : World) (h : Lib.IsBuilderF 107 5 B b [] w) (hBw : B ≤ w.heap.size) :
    Calls Tryz.prog 114 #[.pointer (some ⟨b, 0, none⟩)] w fun e w' => e = .returned (.string ⟨#[]⟩) ∧ (Lib.IsBuilderF 107 5 B b [] w' ∧ Below B w w') := Any.Builder_String_empty_f Tryz.lays169 Tryz.Builder_Extra_169 B b w h hBw
open Go.RowKit in
theorem Tryz.Builder_String_any_f (B b : Nat) (l : List UInt8) (w : World) (h : Lib.IsBuilderF 107 5 B b (Lib.byteCells l) w) (hBw : B ≤ w.heap.size) :
    Calls Tryz.prog 114 #[.pointer (some ⟨b, 0, none⟩)] w fun e w' => e = .returned (.string ⟨l.toArray⟩) ∧ (Lib.IsBuilderF 107 5 B b (Lib.byteCells l) w' ∧ Below B w w') := Any.Builder_String_any_f Tryz.lays169 Tryz.Builder_Extra_169 B b l w h hBw
open Go.RowKit in
theorem Tryz.Builder_String_k (B b : Nat) (l : List UInt8) (w : World) (h : Lib.IsBuilderF 107 5 B b (Lib.byteCells l) w) (h0 : l ≠ []) :
    Calls Tryz.prog 114 #[.pointer (some ⟨b, 0, none⟩)] w fun e w' => e = .returned (.string ⟨l.toArray⟩) ∧ (Lib.IsBuilderF 107 5 B b (Lib.byteCells l) w' ∧ Below B w w' ∧ Lib.OthersKept 5 (some b) w w') := Any.Builder_String_k Tryz.lays169 Tryz.Builder_Extra_169 B b l w h h0
open Go.RowKit in
theorem Tryz.Builder_String_empty_k (B b : Nat) (w : World) (h : Lib.IsBuilderF 107 5 B b [] w) (hBw : B ≤ w.heap.size) :
    Calls Tryz.prog 114 #[.pointer (some ⟨b, 0, none⟩)] w fun e w' => e = .returned (.string ⟨#[]⟩) ∧ (Lib.IsBuilderF 107 5 B b [] w' ∧ Below B w w' ∧ Lib.OthersKept 5 (some b) w w') := Any.Builder_String_empty_k Tryz.lays169 Tryz.Builder_Extra_169 B b w h hBw
open Go.RowKit in
theorem Tryz.Builder_String_any_k (B b : Nat) (l : List UInt8) (w : World) (h : Lib.IsBuilderF 107 5 B b (Lib.byteCells l) w) (hBw : B ≤ w.heap.size) :
    Calls Tryz.prog 114 #[.pointer (some ⟨b, 0, none⟩)] w fun e w' => e = .returned (.string ⟨l.toArray⟩) ∧ (Lib.IsBuilderF 107 5 B b (Lib.byteCells l) w' ∧ Below B w w' ∧ Lib.OthersKept 5 (some b) w w') := Any.Builder_String_any_k Tryz.lays169 Tryz.Builder_Extra_169 B b l w h hBw
def Tryz.lays278_ren : Go.Shelf.Ren := ⟨fun | 278 => 167 | n => n, fun | 37 => 105 | 21 => 21 | 51 => 154 | 4 => 4 | 46 => 137 | 5 => 5 | n => n, fun | n => n⟩
theorem Tryz.lays278 : Go.Proofs.Lays.n278 Tryz.prog Tryz.lays278_ren := {
  mixed := by kernel_rfl
  f278 := Tryz.func167.trans (congrArg some (by kernel_rfl))
  t4 := Tryz.underlying4
  a4 := Tryz.isAgg4
  z4 := Tryz.sizeOf4
  v4 := Tryz.zeroValue4
  t5 := Tryz.underlying5
  a5 := Tryz.isAgg5
  z5 := Tryz.sizeOf5
  v5 := Tryz.zeroValue5
  t21 := Tryz.underlying21
  a21 := Tryz.isAgg21
  z21 := Tryz.sizeOf21
  v21 := Tryz.zeroValue21
  t37 := Tryz.underlying105
  a37 := Tryz.isAgg105
  z37 := Tryz.sizeOf105
  v37 := Tryz.zeroValue105
  t46 := Tryz.underlying137
  a46 := Tryz.isAgg137
  z46 := Tryz.sizeOf137
  v46 := Tryz.zeroValue137
  t51 := Tryz.underlying154
  a51 := Tryz.isAgg154
  z51 := Tryz.sizeOf154
  v51 := Tryz.zeroValue154 }
open Go.RowKit in
theorem Tryz.utf8_appendRuneNonASCII_row (B : Nat) (v : Value) (n : Nat) (xs : List Value) (r : Int) (hr0 : -2147483648 ≤ r) (hr1 : r ≤ 2147483647) (hna : r < 0 ∨ 128 ≤ r) (w : World) (hown : w.ownsRowF B 5 1 v n xs) (hlen : n + 4 ≤ 140737488355328) (hBw : B ≤ w.heap.size) :
    Calls Tryz.prog 167 #[v, .int .i32 r] w fun e w' => ∃ v', e = .returned v' ∧ w'.ownsRowF B 5 1 v' (n + (Lib.runeCells r).length) (xs ++ Lib.runeCells r) ∧ ∃ o, (w.alloc o).grownBy w' v.ownBlock := Any.utf8_appendRuneNonASCII_row Tryz.lays278 (by kernel_rfl) B v n xs r hr0 hr1 hna w hown hlen hBw
def Tryz.lays242_ren : Go.Shelf.Ren := ⟨fun | 242 => 151 | 278 => 167 | n => n, fun | 37 => 105 | 21 => 21 | 51 => 154 | 4 => 4 | 5 => 5 | 46 => 137 | n => n, fun | n => n⟩
theorem Tryz.lays242 : Go.Proofs.Lays.n242 Tryz.prog Tryz.lays242_ren := {
  mixed := by kernel_rfl
  f242 := Tryz.func151.trans (congrArg some (by kernel_rfl))
  f278 := Tryz.func167.trans (congrArg some (by kernel_rfl))
  t4 := Tryz.underlying4
  a4 := Tryz.isAgg4
  z4 := Tryz.sizeOf4
  v4 := Tryz.zeroValue4
  t5 := Tryz.underlying5
  a5 := Tryz.isAgg5
  z5 := Tryz.sizeOf5
  v5 := Tryz.zeroValue5
  t21 := Tryz.underlying21
  a21 := Tryz.isAgg21
  z21 := Tryz.sizeOf21
  v21 := Tryz.zeroValue21
  t37 := Tryz.underlying105
  a37 := Tryz.isAgg105
  z37 := Tryz.sizeOf105
  v37 := Tryz.zeroValue105
  t46 := Tryz.underlying137
  a46 := Tryz.isAgg137
  z46 := Tryz.sizeOf137
  v46 := Tryz.zeroValue137
  t51 := Tryz.underlying154
  a51 := Tryz.isAgg154
  z51 := Tryz.sizeOf154
  v51 := Tryz.zeroValue154 }
open Go.RowKit in
theorem Tryz.utf8_AppendRune_row (B : Nat) (v : Value) (n : Nat) (xs : List Value) (r : Int) (hr0 : -2147483648 ≤ r) (hr1 : r ≤ 2147483647) (w : World) (hown : w.ownsRowF B 5 1 v n xs) (hlen : n + 4 ≤ 140737488355328) (hBw : B ≤ w.heap.size) :
    Calls Tryz.prog 151 #[v, .int .i32 r] w fun e w' => ∃ v', e = .returned v' ∧ w'.ownsRowF B 5 1 v' (n + (Lib.runeCells r).length) (xs ++ Lib.runeCells r) ∧ ∃ o, (w.alloc o).grownBy w' v.ownBlock := Any.utf8_AppendRune_row Tryz.lays242 (by kernel_rfl) B v n xs r hr0 hr1 w hown hlen hBw
open Go.RowKit in
theorem Tryz.utf8_appendRuneNonASCII_plain (B : Nat) (v : Value) (n : Nat) (xs : List Value) (r : Int) (hr0 : -2147483648 ≤ r) (hr1 : r ≤ 2147483647) (hna : r < 0 ∨ 128 ≤ r) (w : World) (hown : w.ownsRow B 5 1 v n xs) (hlen : n + 4 ≤ 140737488355328) (hBw : B ≤ w.heap.size) :
    Calls Tryz.prog 167 #[v, .int .i32 r] w fun e w' => ∃ v', e = .returned v' ∧ w'.ownsRow B 5 1 v' (n + (Lib.runeCells r).length) (xs ++ Lib.runeCells r) ∧ ∃ o, (w.alloc o).grownBy w' v.ownBlock := Any.utf8_appendRuneNonASCII_plain Tryz.lays278 (by kernel_rfl) B v n xs r hr0 hr1 hna w hown hlen hBw
open Go.RowKit in
theorem Tryz.utf8_AppendRune_plain (B : Nat) (v : Value) (n : Nat) (xs : List Value) (r : Int) (hr0 : -2147483648 ≤ r) (hr1 : r ≤ 2147483647) (w : World) (hown : w.ownsRow B 5 1 v n xs) (hlen : n + 4 ≤ 140737488355328) (hBw : B ≤ w.heap.size) :
    Calls Tryz.prog 151 #[v, .int .i32 r] w fun e w' => ∃ v', e = .returned v' ∧ w'.ownsRow B 5 1 v' (n + (Lib.runeCells r).length) (xs ++ Lib.runeCells r) ∧ ∃ o, (w.alloc o).grownBy w' v.ownBlock := Any.utf8_AppendRune_plain Tryz.lays242 (by kernel_rfl) B v n xs r hr0 hr1 w hown hlen hBw
def Tryz.lays195_ren : Go.Shelf.Ren := ⟨fun | 195 => 136 | n => n, fun | 9 => 9 | 3 => 3 | 0 => 0 | 4 => 4 | n => n, fun | n => n⟩
theorem Tryz.lays195 : Go.Proofs.Lays.n195 Tryz.prog Tryz.lays195_ren := {
  mixed := by kernel_rfl
  f195 := Tryz.func136.trans (congrArg some (by kernel_rfl))
  t0 := Tryz.underlying0
  a0 := Tryz.isAgg0
  z0 := Tryz.sizeOf0
  v0 := Tryz.zeroValue0
  t3 := Tryz.underlying3
  a3 := Tryz.isAgg3
  z3 := Tryz.sizeOf3
  v3 := Tryz.zeroValue3
  t4 := Tryz.underlying4
  a4 := Tryz.isAgg4
  z4 := Tryz.sizeOf4
  v4 := Tryz.zeroValue4
  t9 := Tryz.underlying9
  a9 := Tryz.isAgg9
  z9 := Tryz.sizeOf9
  v9 := Tryz.zeroValue9 }
open Go.RowKit in
theorem Tryz.utf8_RuneCountInString (s : ByteArray) (w : World) (hs : s.size < 9223372036854775807) :
    Calls Tryz.prog 136 #[.string s] w fun e w' => e = .returned (.int .i64 (Lib.runeCount s)) ∧ ∃ pos, w' = w.iter s pos := Any.utf8_RuneCountInString Tryz.lays195 s w hs
def Tryz.laysM316_ren : Go.Shelf.Ren := ⟨fun | 316 => 157 | n => n, fun | 9 => 9 | 3 => 3 | 4 => 4 | 37 => 105 | 0 => 0 | 127 => 149 | 5 => 5 | n => n, fun | n => n⟩
theorem Tryz.laysM316 : Go.Proofs.LaysM.n316 Tryz.prog Tryz.laysM316_ren := {
  mixed := by kernel_rfl
  f316 := Tryz.func157.trans (congrArg some (by kernel_rfl))
  t0 := Tryz.underlying0
  a0 := Tryz.isAgg0
  z0 := Tryz.sizeOf0
  v0 := Tryz.zeroValue0
  t3 := Tryz.underlying3
  a3 := Tryz.isAgg3
  z3 := Tryz.sizeOf3
  v3 := Tryz.zeroValue3
  t4 := Tryz.underlying4
  a4 := Tryz.isAgg4
  z4 := Tryz.sizeOf4
  v4 := Tryz.zeroValue4
  t9 := Tryz.underlying9
  a9 := Tryz.isAgg9
  z9 := Tryz.sizeOf9
  v9 := Tryz.zeroValue9
  t37 := Tryz.underlying105
  a37 := Tryz.isAgg105
  z37 := Tryz.sizeOf105
  v37 := Tryz.zeroValue105
  t127 := Tryz.underlying149
  a127 := Tryz.isAgg149
  z127 := Tryz.sizeOf149
  v127 := Tryz.zeroValue149
  t5 := Tryz.underlying5
  a5 := Tryz.isAgg5
  z5 := Tryz.sizeOf5
  v5 := Tryz.zeroValue5
  i0 := by kernel_rfl
  i3 := by kernel_rfl
  i4 := by kernel_rfl
  i5 := by kernel_rfl
  i9 := by kernel_rfl
  i37 := by kernel_rfl
  i127 := by kernel_rfl }
open Go.RowKit in
theorem Tryz.stringslite_Clone (s : ByteArray) (w : World) (hlim : s.size ≤ 281474976710656) :
    Calls Tryz.prog 157 #[.string s] w fun e w' => e = .returned (.string s) ∧ Below w.heap.size w w' := Any.stringslite_Clone Tryz.laysM316 s w hlim
open Go.RowKit Go.Lib in
theorem Tryz.utf8_RuneCountInString_ascii (s : ByteArray) (w : World) (hs : s.size < 4294967281) (hascii : ∀ (j : Nat) b, s.data.toList[j]? = some b → b.toNat < 128) :
    Calls Tryz.prog 136 #[.string s] w fun e w' => e = .returned (.int .i64 s.size) ∧ w' = w.iter s s.size := Any.utf8_RuneCountInString_ascii Tryz.lays195 s w hs hascii
def Tryz.lays264_ren : Go.Shelf.Ren := ⟨fun | 264 => 162 | n => n, fun | 53 => 157 | 46 => 137 | n => n, fun | n => n⟩
theorem Tryz.lays264 : Go.Proofs.Lays.n264 Tryz.prog Tryz.lays264_ren := {
  mixed := by kernel_rfl
  f264 := Tryz.func162.trans (congrArg some (by kernel_rfl))
  t46 := Tryz.underlying137
  a46 := Tryz.isAgg137
  z46 := Tryz.sizeOf137
  v46 := Tryz.zeroValue137
  t53 := Tryz.underlying157
  a53 := Tryz.isAgg157
  z53 := Tryz.sizeOf157
  v53 := Tryz.zeroValue157 }
open Go.RowKit Go.Lib in
theorem Tryz.bits_Mul64 (x y : Nat) (hx : x < 18446744073709551616) (hy : y < 18446744073709551616) (w : World) :
    Calls Tryz.prog 162 #[.int .u64 x, .int .u64 y] w fun e w' => e = .returned (.tuple #[.int .u64 ((x * y / 18446744073709551616 : Nat) : Int), .int .u64 ((x * y % 18446744073709551616 : Nat) : Int)]) ∧ w' = w := Any.bits_Mul64 Tryz.lays264 x y hx hy w
def Tryz.lays212_ren : Go.Shelf.Ren := ⟨fun | 212 => 143 | 263 => 161 | 264 => 162 | n => n, fun | 46 => 137 | 51 => 154 | 146 => 155 | 53 => 157 | 148 => 158 | n => n, fun | n => n⟩
theorem Tryz.lays212 : Go.Proofs.Lays.n212 Tryz.prog Tryz.lays212_ren := {
  mixed := by kernel_rfl
  f212 := Tryz.func143.trans (congrArg some (by kernel_rfl))
  f263 := Tryz.func161.trans (congrArg some (by kernel_rfl))
  f264 := Tryz.func162.trans (congrArg some (by kernel_rfl))
  t46 := Tryz.underlying137
  a46 := Tryz.isAgg137
  z46 := Tryz.sizeOf137
  v46 := Tryz.zeroValue137
  t51 := Tryz.underlying154
  a51 := Tryz.isAgg154
  z51 := Tryz.sizeOf154
  v51 := Tryz.zeroValue154
  t53 := Tryz.underlying157
  a53 := Tryz.isAgg157
  z53 := Tryz.sizeOf157
  v53 := Tryz.zeroValue157
  t146 := Tryz.underlying155
  a146 := Tryz.isAgg155
  z146 := Tryz.sizeOf155
  v146 := Tryz.zeroValue155
  t148 := Tryz.underlying158
  a148 := Tryz.isAgg158
  z148 := Tryz.sizeOf158
  v148 := Tryz.zeroValue158 }
open Go.RowKit Go.Lib in
theorem Tryz.bits_Mul (x y : Nat) (hx : x < 18446744073709551616) (hy : y < 18446744073709551616) (w : World) :
    Calls Tryz.prog 143 #[.int .u64 x, .int .u64 y] w fun e w' => e = .returned (.tuple #[.int .u64 ((x * y / 18446744073709551616 : Nat) : Int), .int .u64 ((x * y % 18446744073709551616 : Nat) : Int)]) ∧ w' = w := Any.bits_Mul Tryz.lays212 x y hx hy w
def Tryz.laysSlE041_f116_ren : Go.Shelf.Ren := ⟨fun | 41 => 116 | n => n, fun | 22 => 27 | 23 => 4 | 4 => 4 | n => n, fun | n => n⟩
theorem Tryz.laysSlE041_f116 : Go.Proofs.SlLaysE0.n41 Tryz.prog Tryz.laysSlE041_f116_ren := {
  mixed := by kernel_rfl
  f41 := ⟨Tryz.f116.name, by decide, Tryz.func116.trans (congrArg some (by kernel_rfl))⟩
  t4 := Tryz.underlying4
  a4 := Tryz.isAgg4
  z4 := Tryz.sizeOf4
  v4 := Tryz.zeroValue4
  t22 := Tryz.underlying27
  a22 := Tryz.isAgg27
  z22 := Tryz.sizeOf27
  v22 := Tryz.zeroValue27 }
open Go.RowKit Go.Lib in
theorem Tryz.slices_Clone (i0 : TypeInfo) (z : Value) (size bytes : Nat) (hi : Tryz.prog.info? 4 = some i0) (hz0 : i0.zero = some z) (hz1 : i0.size = size) (hz2 : i0.bytes = bytes) (hzs : z.cells.size = size) (hsz : 0 < size) (z23 : ∀ w, (Go.sizeOf 4).run Tryz.prog w = .ok size w) (b off n c : Nat) (news : List Value) (w : World) (hl : news.length = n * size) (hn : n ≤ maxLen) (hbig : n * bytes ≤ 140737488355328) (hc : ∀ j u, news[j]? = some u → w.cell? ⟨b, off + j, none⟩ = some u) (h1 : ∀ u ∈ news, u.oneCell' = true) :
    Calls Tryz.prog 116 #[.slice (some ⟨b, off, none⟩) n c] w fun e w' => ∃ v', e = .returned v' ∧ w'.ownsRow w.heap.size 4 size v' n news ∧ v' ≠ .slice none 0 0 ∧ Below w.heap.size w w' := AnyE.slices_Clone Tryz.laysSlE041_f116 i0 z size bytes hi hz0 hz1 hz2 hzs hsz z23 b off n c news w hl hn hbig hc h1
open Go.RowKit Go.Lib in
theorem Tryz.slices_Clone_nil (n c : Nat) (w : World) :
    Calls Tryz.prog 116 #[.slice none n c] w fun e w' => e = .returned (.slice none 0 0) ∧ w' = w := AnyE.slices_Clone_nil Tryz.laysSlE041_f116 n c w
end Go.Proofs
