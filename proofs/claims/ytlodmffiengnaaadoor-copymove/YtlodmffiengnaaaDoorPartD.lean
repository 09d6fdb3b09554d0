/- Package copying: lines and places in memory. -/
import Derived.Test.YtlodmffiengnaaaDoorRows
import Derived.WalkKit
import Derived.ProofKit
import Derived.OpenShut
import Derived.Deep.Draws
import Derived.Carry
import Derived.Maps.OwnOps
import Derived.Maps.OwnSet
import Derived.Maps.Views
import Derived.Maps.Keyed
import Derived.Laws.AppendOwn
import Derived.Laws.OwnMore
import Derived.Laws.ResultCell
import Derived.Laws.Rows
import Derived.Deep.LoopGhost
import Derived.Lib.OthersKept
import Derived.Shelf.Strings.Builder1
import Derived.Shelf.Strings.Builder2
import Derived.Shelf.Strings.OnBuilder
import Derived.Shelf.Small.Wraps
import Derived.Shelf.Strings.BuilderF
import Derived.Shelf.Strings.BuilderK
import Derived.Shelf.Strings.BuilderRune
import Derived.Shelf.Utf8.AppendRune
import Derived.Shelf.Utf8.AppendRunePlain
import Derived.Shelf.Utf8.RuneCount
import Derived.Shelf.Strings.Builder2Cap
import Derived.Shelf.Strings.Search1
import Derived.Shelf.Strings.Search2
import Derived.Shelf.Strings.Search3
import Derived.Shelf.LaysM
import Derived.Shelf.Strings.Shaped
import Derived.Shelf.Strings.Prefix
import Derived.Shelf.Strings.RuneCount
import Derived.Shelf.Strings.BuilderCap
import Derived.Ground.Names2Prog
import Derived.Shelf.Slices.SearchI
import Derived.Shelf.Slices.Empties
import Derived.Ground.SlgfProg
import Derived.Shelf.SlicesE.IndexFunc
import Derived.Test.YtlodmffiengnaaaDoorProg
import Derived.Lib.DecodeN
import Derived.Lib.Strings
import Derived.Lib.LaidU8
import Derived.Deep.Strs
namespace Go.Proofs.YtlodmffiengnaaaDoor
open Go.ChangeShapes Go.WideShapes Go.ChangeAt Go.RowKit Go.Maps
namespace Cpy
theorem lt_of_cell {w : World} {b o : Nat} {v : Value} (h : w.cell? ⟨b, o, none⟩ = some v) : b < w.heap.size := by
  unfold World.cell? at h
  split at h
  · rename_i hh
    exact (Array.getElem?_eq_some_iff.1 hh).1
  all_goals cases h
/-- All cells stand as they stood. -/
def CK (w w' : World) : Prop := ∀ b o v, w.cell? ⟨b, o, none⟩ = some v → w'.cell? ⟨b, o, none⟩ = some v
theorem CK.refl (w : World) : CK w w := fun _ _ _ h => h
theorem CK.trans {a b c : World} (h : CK a b) (g : CK b c) : CK a c := fun x y v hv => g x y v (h x y v hv)
theorem CK.below {w w' : World} (h : Below w.heap.size w w') : CK w w' := fun b o v hv => by rw [h.cell (lt_of_cell hv)]; exact hv
theorem CK.alloc {w w' : World} (h : CK w w') (o : Obj) : CK w (w'.alloc o) := h.trans (CK.below ((Below.refl _ _).alloc (Nat.le_refl _) _))
/-- Texts in a row, wherever they lie. -/
def LsAt (w : World) (v : Value) (L : List ByteArray) : Prop :=
  ∃ a c, v = .slice a L.length c ∧ (L = [] ∨ ∃ b o, a = some ⟨b, o, none⟩ ∧ ∀ j x, L[j]? = some x → w.cell? ⟨b, o + j, none⟩ = some (.string x))
theorem LsAt.ck {w w' : World} {v : Value} {L : List ByteArray} (h : LsAt w v L) (hb : CK w w') : LsAt w' v L := by
  obtain ⟨a, c, hv, h⟩ := h
  refine ⟨a, c, hv, h.imp id ?_⟩
  rintro ⟨b, o, ha, hc⟩
  exact ⟨b, o, ha, fun j x hx => hb _ _ _ (hc j x hx)⟩
theorem LsAt.below {w w' : World} {v : Value} {L : List ByteArray} (h : LsAt w v L) (hb : Below w.heap.size w w') : LsAt w' v L := h.ck (CK.below hb)
/-- A place. -/
structure Cp where
  (x y fx fy : Int) (on : Bool)
def Cp.cells (c : Cp) : Array Value := #[.int .i64 c.x, .int .i64 c.y, .int .i64 c.fx, .int .i64 c.fy, .bool c.on]
/-- Is a place in n lines? -/
def okM (n : Nat) (x y : Int) : Bool := decide (0 ≤ y) && decide (y < n) && decide (0 ≤ x) && decide (x ≤ 120)
def long (s : ByteArray) : Bool := decide (4000 < s.size)
def okL (L : List ByteArray) : Bool := decide (1 ≤ L.length) && decide (L.length ≤ 110) && !L.any long
/-- What Check says. -/
def chk (L : List ByteArray) (c : Cp) : Int := if okL L then (if okM L.length c.x c.y && okM L.length c.fx c.fy then 0 else 4) else 2
theorem ret_b {a b : Bool} (h : a = b) : Ending.returned (.bool a) = Ending.returned (.bool b) := by rw [h]
theorem ret_i {a b : Int} (h : a = b) : Ending.returned (.int .i64 a) = Ending.returned (.int .i64 b) := by rw [h]
end Cpy
end Go.Proofs.YtlodmffiengnaaaDoor

/- Plain mathematics on the widths of runes: the same width by spans and by edges. It imports nothing of the program. -/
namespace Go.Proofs.YtlodmffiengnaaaDoor
namespace Txt

/-- The spans of package text: first, last, width. -/
def spans : List (Int × Int × Int) := [(0x0, 0x1F, 0), (0x7F, 0x9F, 0), (0x300, 0x36F, 0), (0x1100, 0x115F, 2), (0x200B, 0x200F, 0), (0x2028, 0x202E, 0), (0x20D0, 0x20FF, 0), (0x2E80, 0x303E, 2), (0x3041, 0x4DBF, 2), (0x4E00, 0xA4CF, 2), (0xAC00, 0xD7A3, 2), (0xD800, 0xDFFF, 0), (0xF900, 0xFAFF, 2), (0xFE00, 0xFE0F, 0), (0xFE30, 0xFE6F, 2), (0xFEFF, 0xFEFF, 0), (0xFF00, 0xFF60, 2), (0xFFE0, 0xFFE6, 2), (0x1F300, 0x1F64F, 2), (0x1F900, 0x1F9FF, 2), (0x20000, 0x3FFFD, 2)]
/-- The edges at which the width changes: from, width. -/
def edges : List (Int × Int) := [(0, 0), (0x20, 1), (0x7f, 0), (0xa0, 1), (0x300, 0), (0x370, 1), (0x1100, 2), (0x1160, 1), (0x200b, 0), (0x2010, 1), (0x2028, 0), (0x202f, 1), (0x20d0, 0), (0x2100, 1), (0x2e80, 2), (0x303f, 1), (0x3041, 2), (0x4dc0, 1), (0x4e00, 2), (0xa4d0, 1), (0xac00, 2), (0xd7a4, 1), (0xd800, 0), (0xe000, 1), (0xf900, 2), (0xfb00, 1), (0xfe00, 0), (0xfe10, 1), (0xfe30, 2), (0xfe70, 1), (0xfeff, 0), (0xff00, 2), (0xff61, 1), (0xffe0, 2), (0xffe7, 1), (0x1f300, 2), (0x1f650, 1), (0x1f900, 2), (0x1fa00, 1), (0x20000, 2), (0x3fffe, 1)]

def look : List (Int × Int × Int) → Int → Int
  | [], _ => 1
  | x :: t, r => if r < x.1 then 1 else if r ≤ x.2.1 then x.2.2 else look t r
def edge (r : Int) : List (Int × Int) → Int → Int
  | [], acc => acc
  | x :: t, acc => edge r t (if x.1 ≤ r then x.2 else acc)
/-- The width of a rune. -/
def wd (r : Int) : Int := if r < 0 ∨ 1114111 < r then 0 else look spans r

/-- Edges that rise: one may stop at the first that is beyond r. -/
def edgeE (r : Int) : List (Int × Int) → Int → Int
  | [], acc => acc
  | x :: t, acc => if r < x.1 then acc else edgeE r t x.2
def rising : List (Int × Int) → Bool
  | [] => true
  | [_] => true
  | x :: y :: t => decide (x.1 < y.1) && rising (y :: t)
theorem edge_beyond (r : Int) : ∀ (l : List (Int × Int)) (acc : Int), rising l = true → (∀ x ∈ l.head?, r < x.1) → edge r l acc = acc
  | [], _, _, _ => rfl
  | [x], acc, _, h => by
    have hx : r < x.1 := h x rfl
    simp only [edge, if_neg (show ¬ x.1 ≤ r by omega)]
  | x :: y :: t, acc, hr, h => by
    have hx : r < x.1 := h x rfl
    simp only [rising, Bool.and_eq_true, decide_eq_true_eq] at hr
    unfold edge
    rw [if_neg (show ¬ x.1 ≤ r by omega)]
    exact edge_beyond r (y :: t) acc hr.2 (fun z hz => by obtain rfl := Option.some.inj hz; omega)
theorem edge_eq (r : Int) : ∀ (l : List (Int × Int)) (acc : Int), rising l = true → edge r l acc = edgeE r l acc
  | [], _, _ => rfl
  | x :: t, acc, hr => by
    have ht : rising t = true := by
      cases t with
      | nil => rfl
      | cons y t => simp only [rising, Bool.and_eq_true] at hr; exact hr.2
    by_cases h : r < x.1
    · rw [edge_beyond r (x :: t) acc hr (fun z hz => by obtain rfl := Option.some.inj hz; exact h)]
      simp [edgeE, h]
    · unfold edge edgeE
      rw [if_neg h, if_pos (show x.1 ≤ r by omega)]
      exact edge_eq r t x.2 ht
theorem look_step (r a b b' c : Int) (hb : b' = b + 1) (t : List (Int × Int × Int)) (u : List (Int × Int)) (ht : b < r → look t r = edgeE r u 1) :
    look ((a, b, c) :: t) r = edgeE r ((a, c) :: (b', 1) :: u) 1 := by
  subst hb
  simp only [look, edgeE]
  by_cases h1 : r < a
  · simp [h1]
  · by_cases h2 : r ≤ b
    · simp [h1, h2, show r < b + 1 by omega]
    · simp only [if_neg h1, if_neg h2, if_neg (show ¬ r < b + 1 by omega)]
      exact ht (by omega)
theorem merge_edge (r a b c a' : Int) (u : List (Int × Int)) : edgeE r ((a, c) :: (b, 1) :: (b, a') :: u) 1 = edgeE r ((a, c) :: (b, a') :: u) 1 := by
  simp only [edgeE]
  by_cases h1 : r < a <;> by_cases h2 : r < b <;> simp [h1, h2]
theorem look_edges (r : Int) (h0 : 0 ≤ r) : look spans r = edge r edges 0 := by
  rw [edge_eq r edges 0 (by decide)]
  have e0 : edgeE r edges 0 = edgeE r edges 1 := by
    unfold edges
    conv => lhs; unfold edgeE
    conv => rhs; unfold edgeE
    rw [if_neg (by show ¬ r < 0; omega), if_neg (by show ¬ r < 0; omega)]
  rw [e0]
  unfold spans edges
  iterate 15 (refine look_step _ _ _ _ _ (by decide) _ _ (fun _ => ?_))
  rw [← merge_edge]
  iterate 6 (refine look_step _ _ _ _ _ (by decide) _ _ (fun _ => ?_))
  rfl
theorem wd_edge (r : Int) (h0 : 0 ≤ r) (h1 : r ≤ 1114111) : wd r = edge r edges 0 := by
  unfold wd
  rw [if_neg (by omega)]
  exact look_edges r h0
theorem look_range (r : Int) : ∀ l : List (Int × Int × Int), (∀ x ∈ l, 0 ≤ x.2.2 ∧ x.2.2 ≤ 2) → 0 ≤ look l r ∧ look l r ≤ 2
  | [], _ => by simp [look]
  | x :: t, h => by
    have hx := h x (by simp)
    have ht := look_range r t (fun y hy => h y (by simp [hy]))
    unfold look
    split
    · omega
    · split <;> omega
theorem wd_range (r : Int) : 0 ≤ wd r ∧ wd r ≤ 2 := by
  unfold wd
  split
  · omega
  · exact look_range r spans (by decide)
end Txt
end Go.Proofs.YtlodmffiengnaaaDoor

/- The walks of text.Width and of the reference's WidthOf: both tell Txt.wd, for every int32. -/
namespace Go.Proofs.YtlodmffiengnaaaDoor
open Go.ChangeShapes Go.WideShapes Go.ChangeAt Go.RowKit
namespace Txt

/-- The cells of the table of spans. -/
def cell3 (x : Int × Int × Int) : List Value := [.int .i32 x.1, .int .i32 x.2.1, .int .i64 x.2.2]
def spanCells : Array Value := (spans.flatMap cell3).toArray
/-- The table lies where the program's start lays it. -/
def Tab (w : World) : Prop := ∃ (t : TypeId) (fr : Nat × Nat), w.heap[0]? = some (.cells spanCells t fr)
theorem Tab.below {B : Nat} {w w' : World} (h : Tab w) (hb : Below B w w') (hB : 0 < B) : Tab w' := by
  unfold Tab at h ⊢
  rw [hb.block _ hB]; exact h
theorem Tab.pos {w : World} (h : Tab w) : 0 < w.heap.size := by
  obtain ⟨t, fr, h⟩ := h
  have := (Array.getElem?_eq_some_iff.1 h).1
  omega

theorem ret_int {k : IntKind} {a b : Int} (h : a = b) : Ending.returned (.int k a) = .returned (.int k b) := by rw [h]
theorem spans_at (k : Nat) (hk : k < 21) : ∃ a b c : Int, spans.drop k = (a, b, c) :: spans.drop (k + 1) ∧
    ∀ wr : World, (Instr.index 101 (.agg spanCells) (.int .i64 (k : Int))).run Tryd.prog wr = .ok (.agg #[.int .i32 a, .int .i32 b, .int .i64 c]) wr := by
  have : k = 0 ∨ k = 1 ∨ k = 2 ∨ k = 3 ∨ k = 4 ∨ k = 5 ∨ k = 6 ∨ k = 7 ∨ k = 8 ∨ k = 9 ∨ k = 10 ∨ k = 11 ∨ k = 12 ∨ k = 13 ∨ k = 14 ∨ k = 15 ∨ k = 16 ∨ k = 17 ∨ k = 18 ∨ k = 19 ∨ k = 20 := by omega
  rcases this with rfl | rfl | rfl | rfl | rfl | rfl | rfl | rfl | rfl | rfl | rfl | rfl | rfl | rfl | rfl | rfl | rfl | rfl | rfl | rfl | rfl <;>
    exact ⟨_, _, _, rfl, fun wr => by kernel_rfl⟩

set_option maxRecDepth 100000 in
set_option maxHeartbeats 400000 in
theorem width_any (r : Int) (w : World) (hT : Tab w) :
    Calls Tryd.prog 52 #[.int .i32 r] w fun e w' => e = .returned (.int .i64 (wd r)) ∧ Below w.heap.size w w' := by
  by_cases h0 : r < 0
  · have hw : wd r = 0 := by unfold wd; rw [if_pos (Or.inl h0)]
    rw [hw]
    clear hw hT
    go_enter Tryd.func52, Tryd.ntmps52
    go_wp2
    go_ret
    exact ⟨rfl, Below.refl _ _⟩
  · by_cases h1 : 1114111 < r
    · have hw : wd r = 0 := by unfold wd; rw [if_pos (Or.inr h1)]
      rw [hw]
      clear hw hT
      go_enter Tryd.func52, Tryd.ntmps52
      go_wp2
      go_ret
      exact ⟨rfl, Below.refl _ _⟩
    · have hw : wd r = look spans r := by unfold wd; rw [if_neg (by omega)]
      rw [hw]
      clear hw
      obtain ⟨tt, fr, hT⟩ := hT
      have HT : Hid (w.heap[0]? = some (.cells spanCells tt fr)) := hT
      clear hT
      go_enter Tryd.func52, Tryd.ntmps52
      go_wp2_with (refine wpList_load_row rfl 101 (.global 0) rfl 0 rfl _ spanCells _ _ HT.out Tryd.underlying101 rfl (by kernel_rfl) ?_)
      go_loopg [12] 21 (fun g s wr => ∃ k : Nat, k ≤ 21 ∧ 21 - k ≤ g ∧ s = .int .i64 k ∧ Below w.heap.size w wr ∧ look (spans.drop k) r = look spans r)
      case atStart => exact ⟨0, Nat.zero_le _, by omega, rfl, Below.refl _ _, rfl⟩
      case round =>
        obtain ⟨k, hk, hg, rfl, hb, hl⟩ := hrel
        have HL : Hid (look (spans.drop k) r = look spans r) := hl
        clear hl
        by_cases hlt : k < 21
        · obtain ⟨a, b, c, hd, hi⟩ := spans_at k hlt
          have HD : Hid (spans.drop k = (a, b, c) :: spans.drop (k + 1)) := hd
          clear hd
          have hi := hi wr
          have hsz := hb.size
          go_wp2_with fail
          · rename_i hra
            go_ret
            exact ⟨ret_int (by rw [← HL.out, HD.out]; simp [look, hra]), hb.alloc hsz _⟩
          · rename_i hra hrb
            go_ret
            exact ⟨ret_int (by rw [← HL.out, HD.out]; simp only [look]; rw [if_neg (by omega), if_pos hrb]), hb.alloc hsz _⟩
          · rename_i hra hrb
            go_roundg (21 - (k + 1))
            case measure => omega
            case rel => exact ⟨k + 1, by omega, by omega, by go_num, hb.alloc hsz _, by rw [← HL.out, HD.out]; simp only [look]; rw [if_neg (by omega), if_neg (by omega)]⟩
        · have : k = 21 := by omega
          subst this
          go_wp2_with fail
          go_ret
          exact ⟨ret_int (by rw [← HL.out]; rfl), hb⟩

end Txt
end Go.Proofs.YtlodmffiengnaaaDoor

/- Plain mathematics on the runes of a text, over the model's own decoding of UTF-8: no program is named. -/
namespace Go.Proofs.YtlodmffiengnaaaDoor
namespace Txt

/-- The runes of s from place pos on, each with how many bytes it takes; at most so many. -/
def rs (s : ByteArray) : Nat → Nat → List (Int × Nat)
  | 0, _ => []
  | f + 1, pos => if pos < s.size then (((Utf8.decode s pos).1 : Int), (Utf8.decode s pos).2) :: rs s f (pos + (Utf8.decode s pos).2) else []
def runes (s : ByteArray) : List (Int × Nat) := rs s s.size 0
def wideL : List (Int × Nat) → Int
  | [] => 0
  | x :: t => wd x.1 + wideL t
def wideS (s : ByteArray) : Int := wideL (runes s)
/-- How many bytes of a text's runes are left when it is cut: 'w' cells have been taken. -/
def cutL (n : Int) : List (Int × Nat) → Int → Nat
  | [], _ => 0
  | x :: t, w => if n < w + wd x.1 then 0 else x.2 + cutL n t (w + wd x.1)
def cutS (s : ByteArray) (n : Int) : List UInt8 := s.data.toList.take (cutL n (runes s) 0)

theorem width_pos (s : ByteArray) (pos : Nat) (h : pos < s.size) : 1 ≤ (Utf8.decode s pos).2 := by
  by_cases ha : (s[pos]'h).toNat < 128
  · rw [decode_ascii s pos h ha]
    exact Nat.le_refl _
  · exact (decode_high s pos h (by omega)).2
theorem rs_end (s : ByteArray) (f pos : Nat) (h : ¬ pos < s.size) : rs s f pos = [] := by
  cases f with
  | zero => rfl
  | succ f => simp [rs, h]
theorem rs_step (s : ByteArray) (f pos : Nat) (h : pos < s.size) : rs s (f + 1) pos = (((Utf8.decode s pos).1 : Int), (Utf8.decode s pos).2) :: rs s f (pos + (Utf8.decode s pos).2) := by
  simp [rs, h]
theorem decode_fits (s : ByteArray) (pos : Nat) (h : pos < s.size) : pos + (Utf8.decode s pos).2 ≤ s.size := by
  simp only [Utf8.decode]
  repeat' split
  all_goals simp_all
  all_goals omega
theorem wideL_range : ∀ l : List (Int × Nat), 0 ≤ wideL l ∧ wideL l ≤ 2 * l.length
  | [] => by simp [wideL]
  | x :: t => by
    have := wideL_range t
    have := wd_range x.1
    simp only [wideL, List.length_cons]
    omega
theorem rs_length (s : ByteArray) : ∀ f pos : Nat, pos ≤ s.size → (rs s f pos).length + pos ≤ s.size
  | 0, _, h => by simpa [rs] using h
  | f + 1, pos, h => by
    by_cases hp : pos < s.size
    · have h1 := rs_length s f (pos + (Utf8.decode s pos).2) (decode_fits s pos hp)
      have h2 := width_pos s pos hp
      rw [rs_step s f pos hp, List.length_cons]
      omega
    · rw [rs_end s _ pos hp]; simpa using h
theorem wideS_range (s : ByteArray) : 0 ≤ wideS s ∧ wideS s ≤ 2 * s.size := by
  have h1 := wideL_range (runes s)
  have h2 := rs_length s s.size 0 (Nat.zero_le _)
  unfold wideS
  unfold runes at h1 ⊢
  omega
end Txt
end Go.Proofs.YtlodmffiengnaaaDoor

/- The walk of text.Wide. -/
namespace Go.Proofs.YtlodmffiengnaaaDoor
open Go.ChangeShapes Go.WideShapes Go.ChangeAt Go.RowKit
namespace Txt

set_option maxHeartbeats 1000000 in
theorem wide_any (s : ByteArray) (w : World) (hT : Tab w) (hs : s.size ≤ 281474976710656) :
    Calls Tryd.prog 49 #[.string s] w fun e w' => e = .returned (.int .i64 (wideS s)) ∧ Below w.heap.size w w' := by
  have HP : Hid (0 < w.heap.size) := hT.pos
  have HT : Hid (Tab w) := hT
  clear hT
  go_enter Tryd.func49, Tryd.ntmps49
  go_wp2
  go_loopw [3] (fun a wr => ∃ (pos f : Nat) (c : Int), wr.heap[w.heap.size]? = some (.stringIter s pos) ∧ Below w.heap.size w wr ∧ a = .int .i64 c ∧ c + wideL (rs s f pos) = wideS s ∧ s.size ≤ pos + f ∧ 0 ≤ c ∧ c ≤ 2 * pos ∧ pos ≤ s.size) (fun _ wr => s.size - wr.iterPos w.heap.size)
  case atStart =>
    exact ⟨0, s.size, 0, World.iter_heap w s 0, (Below.refl _ w).alloc (Nat.le_refl _) _, rfl, by simp [wideS, runes], by omega, by omega, by omega, by omega⟩
  case round =>
    obtain ⟨pos, f, c, hit, hbw, rfl, hc, hf, hc0, hc1, hps⟩ := hrel
    have HC : Hid (c + wideL (rs s f pos) = wideS s) := hc
    clear hc
    have hsz : w.heap.size < wr.heap.size := (Array.getElem?_eq_some_iff.1 hit).1
    by_cases hp : pos < s.size
    · have hnx : ∀ ty, (Instr.next (.pointer (some ⟨w.heap.size, 0, none⟩)) true ty).run Tryd.prog wr = _ := fun ty => Lib.run_next_any_at wr w.heap.size s pos ty hit hp
      have hwd := width_pos s pos hp
      have hfit := decode_fits s pos hp
      obtain ⟨f, rfl⟩ : ∃ g, f = g + 1 := ⟨f - 1, by omega⟩
      have HR : Hid (rs s (f + 1) pos = (((Utf8.decode s pos).1 : Int), (Utf8.decode s pos).2) :: rs s f (pos + (Utf8.decode s pos).2)) := rs_step s f pos hp
      have hw := wd_range (Utf8.decode s pos).1
      have hit2 := Lib.iterAt_heap wr w.heap.size s pos (pos + (Utf8.decode s pos).2) hit
      have hbw2 := Lib.below_iterAt hbw (k := w.heap.size) (Nat.le_refl _) s (pos + (Utf8.decode s pos).2)
      have hsz2 : w.heap.size < (wr.iterAt w.heap.size s (pos + (Utf8.decode s pos).2)).heap.size := by rw [Lib.iterAt_size]; exact hsz
      have HI : Hid (wr.iterPos w.heap.size = pos) := by simp only [Hid, World.iterPos, hit]
      clear hit
      generalize Utf8.decode s pos = d at *
      go_wp2_with (go_at_call 52; refine (width_any _ _ (HT.out.below hbw2 (by have := HP.out; omega))).mono ?_)
      rintro e W1 ⟨rfl, b1⟩
      go_wp2
      go_roundw
      case rel =>
        refine ⟨pos + d.2, f, c + wd d.1, (b1.block _ hsz2).trans hit2, hbw2.trans (b1.mono (by omega)), rfl, ?_, by omega, by omega, by omega, by omega⟩
        have := HC.out; rw [HR.out] at this; simp only [wideL] at this; omega
      case measure =>
        rw [HI.out]
        simp only [World.iterPos, (b1.block _ hsz2).trans hit2]
        omega
    · have hnx : ∀ ty, (Instr.next (.pointer (some ⟨w.heap.size, 0, none⟩)) true ty).run Tryd.prog wr = _ := fun ty => Lib.run_next_end_at wr w.heap.size s pos ty hit hp
      go_wp2
      go_ret
      have := HC.out
      rw [rs_end s f pos hp] at this
      exact ⟨ret_int (by simpa [wideL] using this), hbw⟩

end Txt
end Go.Proofs.YtlodmffiengnaaaDoor

/- The library's contracts that this claim uses, laid at this program: each is one application of a theorem of the library. -/
namespace Go.Proofs
open Go.Shelf
def Tryd.lays169_ren : Go.Shelf.Ren := ⟨fun | 169 => 38 | n => n, fun | 70 => 69 | 9 => 9 | 0 => 0 | 72 => 72 | 37 => 70 | 127 => 89 | 3 => 3 | 5 => 5 | n => n, fun | n => n⟩
theorem Tryd.lays169 : Go.Proofs.Lays.n169 Tryd.prog Tryd.lays169_ren := {
  mixed := by kernel_rfl
  f169 := Tryd.func38.trans (congrArg some (by kernel_rfl))
  t0 := Tryd.underlying0
  a0 := Tryd.isAgg0
  z0 := Tryd.sizeOf0
  v0 := Tryd.zeroValue0
  t3 := Tryd.underlying3
  a3 := Tryd.isAgg3
  z3 := Tryd.sizeOf3
  v3 := Tryd.zeroValue3
  t9 := Tryd.underlying9
  a9 := Tryd.isAgg9
  z9 := Tryd.sizeOf9
  v9 := Tryd.zeroValue9
  t37 := Tryd.underlying70
  a37 := Tryd.isAgg70
  z37 := Tryd.sizeOf70
  v37 := Tryd.zeroValue70
  t70 := Tryd.underlying69
  a70 := Tryd.isAgg69
  z70 := Tryd.sizeOf69
  v70 := Tryd.zeroValue69
  t72 := Tryd.underlying72
  a72 := Tryd.isAgg72
  z72 := Tryd.sizeOf72
  v72 := Tryd.zeroValue72
  t127 := Tryd.underlying89
  a127 := Tryd.isAgg89
  z127 := Tryd.sizeOf89
  v127 := Tryd.zeroValue89 }
theorem Tryd.Builder_Extra_169 : Builder.Extra Tryd.prog Tryd.lays169_ren := {
  sizeBuilder := by kernel_rfl
  liesBuilder := by kernel_rfl
  t5 := Tryd.underlying5
  a5 := Tryd.isAgg5
  z5 := Tryd.sizeOf5
  v5 := Tryd.zeroValue5
  infoByte := by kernel_rfl
  cellsByte := by kernel_rfl
  sizeByte := by kernel_rfl
  neB5 := by decide }
open Go.RowKit in
theorem Tryd.Builder_String (B b : Nat) (l : List UInt8) (w : World) (h : Lib.IsBuilder 72 5 B b (Lib.byteCells l) w) (h0 : l ≠ []) :
    Calls Tryd.prog 38 #[.pointer (some ⟨b, 0, none⟩)] w fun e w' => e = .returned (.string ⟨l.toArray⟩) ∧ Below B w w' := Any.Builder_String Tryd.lays169 Tryd.Builder_Extra_169 B b l w h h0
open Go.RowKit in
theorem Tryd.Builder_String_empty (B b : Nat) (w : World) (h : Lib.IsBuilder 72 5 B b [] w) (hBw : B ≤ w.heap.size) :
    Calls Tryd.prog 38 #[.pointer (some ⟨b, 0, none⟩)] w fun e w' => e = .returned (.string ⟨#[]⟩) ∧ Below B w w' := Any.Builder_String_empty Tryd.lays169 Tryd.Builder_Extra_169 B b w h hBw
open Go.RowKit in
theorem Tryd.Builder_String_any (B b : Nat) (l : List UInt8) (w : World) (h : Lib.IsBuilder 72 5 B b (Lib.byteCells l) w) (hBw : B ≤ w.heap.size) :
    Calls Tryd.prog 38 #[.pointer (some ⟨b, 0, none⟩)] w fun e w' => e = .returned (.string ⟨l.toArray⟩) ∧ Below B w w' := Any.Builder_String_any Tryd.lays169 Tryd.Builder_Extra_169 B b l w h hBw
def Tryd.lays241_ren : Go.Shelf.Ren := ⟨fun | 241 => 51 | 277 => 58 | n => n, fun | 70 => 69 | 3 => 3 | 0 => 0 | 72 => 72 | 37 => 70 | 5 => 5 | n => n, fun | n => n⟩
theorem Tryd.lays241 : Go.Proofs.Lays.n241 Tryd.prog Tryd.lays241_ren := {
  mixed := by kernel_rfl
  f241 := Tryd.func51.trans (congrArg some (by kernel_rfl))
  f277 := Tryd.func58.trans (congrArg some (by kernel_rfl))
  t0 := Tryd.underlying0
  a0 := Tryd.isAgg0
  z0 := Tryd.sizeOf0
  v0 := Tryd.zeroValue0
  t3 := Tryd.underlying3
  a3 := Tryd.isAgg3
  z3 := Tryd.sizeOf3
  v3 := Tryd.zeroValue3
  t37 := Tryd.underlying70
  a37 := Tryd.isAgg70
  z37 := Tryd.sizeOf70
  v37 := Tryd.zeroValue70
  t70 := Tryd.underlying69
  a70 := Tryd.isAgg69
  z70 := Tryd.sizeOf69
  v70 := Tryd.zeroValue69
  t72 := Tryd.underlying72
  a72 := Tryd.isAgg72
  z72 := Tryd.sizeOf72
  v72 := Tryd.zeroValue72 }
theorem Tryd.Builder_Extra_241 : Builder.Extra Tryd.prog Tryd.lays241_ren := {
  sizeBuilder := by kernel_rfl
  liesBuilder := by kernel_rfl
  t5 := Tryd.underlying5
  a5 := Tryd.isAgg5
  z5 := Tryd.sizeOf5
  v5 := Tryd.zeroValue5
  infoByte := by kernel_rfl
  cellsByte := by kernel_rfl
  sizeByte := by kernel_rfl
  neB5 := by decide }
open Go.RowKit in
theorem Tryd.Builder_grow_fresh (B b n : Nat) (w : World) (hB : B ≤ b) (hbk : w.heap[b]? = some (.cells #[.pointer (some ⟨b, 0, none⟩), .slice none 0 0] 72 (0, 0))) (hBw : B ≤ w.heap.size) (hn : n ≤ 281474976710656) :
    Calls Tryd.prog 51 #[.pointer (some ⟨b, 0, none⟩), .int .i64 n] w fun e w' => e = .returned (.tuple #[]) ∧ (Lib.BuilderAt 72 5 B b (.pointer (some ⟨b, 0, none⟩)) [] w' ∧ Below B w w') := Any.Builder_grow_fresh Tryd.lays241 Tryd.Builder_Extra_241 B b n w hB hbk hBw hn
def Tryd.lays165_ren : Go.Shelf.Ren := ⟨fun | 165 => 36 | 240 => 50 | 241 => 51 | 276 => 57 | 277 => 58 | n => n, fun | 70 => 69 | 3 => 3 | 0 => 0 | 4 => 4 | 9 => 9 | 20 => 20 | 72 => 72 | 37 => 70 | 164 => 96 | 5 => 5 | n => n, fun | n => n⟩
theorem Tryd.lays165 : Go.Proofs.Lays.n165 Tryd.prog Tryd.lays165_ren := {
  mixed := by kernel_rfl
  f165 := Tryd.func36.trans (congrArg some (by kernel_rfl))
  f240 := Tryd.func50.trans (congrArg some (by kernel_rfl))
  f241 := Tryd.func51.trans (congrArg some (by kernel_rfl))
  f276 := Tryd.func57.trans (congrArg some (by kernel_rfl))
  f277 := Tryd.func58.trans (congrArg some (by kernel_rfl))
  t0 := Tryd.underlying0
  a0 := Tryd.isAgg0
  z0 := Tryd.sizeOf0
  v0 := Tryd.zeroValue0
  t3 := Tryd.underlying3
  a3 := Tryd.isAgg3
  z3 := Tryd.sizeOf3
  v3 := Tryd.zeroValue3
  t4 := Tryd.underlying4
  a4 := Tryd.isAgg4
  z4 := Tryd.sizeOf4
  v4 := Tryd.zeroValue4
  t9 := Tryd.underlying9
  a9 := Tryd.isAgg9
  z9 := Tryd.sizeOf9
  v9 := Tryd.zeroValue9
  t20 := Tryd.underlying20
  a20 := Tryd.isAgg20
  z20 := Tryd.sizeOf20
  v20 := Tryd.zeroValue20
  t37 := Tryd.underlying70
  a37 := Tryd.isAgg70
  z37 := Tryd.sizeOf70
  v37 := Tryd.zeroValue70
  t70 := Tryd.underlying69
  a70 := Tryd.isAgg69
  z70 := Tryd.sizeOf69
  v70 := Tryd.zeroValue69
  t72 := Tryd.underlying72
  a72 := Tryd.isAgg72
  z72 := Tryd.sizeOf72
  v72 := Tryd.zeroValue72
  t164 := Tryd.underlying96
  a164 := Tryd.isAgg96
  z164 := Tryd.sizeOf96
  v164 := Tryd.zeroValue96 }
theorem Tryd.Builder_Extra_165 : Builder.Extra Tryd.prog Tryd.lays165_ren := {
  sizeBuilder := by kernel_rfl
  liesBuilder := by kernel_rfl
  t5 := Tryd.underlying5
  a5 := Tryd.isAgg5
  z5 := Tryd.sizeOf5
  v5 := Tryd.zeroValue5
  infoByte := by kernel_rfl
  cellsByte := by kernel_rfl
  sizeByte := by kernel_rfl
  neB5 := by decide }
open Go.RowKit in
theorem Tryd.Builder_Grow_fresh (B b n : Nat) (w : World) (hB : B ≤ b) (hbk : w.heap[b]? = some (.cells #[.pointer none, .slice none 0 0] 72 (0, 0))) (hBw : B ≤ w.heap.size) (hn : n ≤ 281474976710656) :
    Calls Tryd.prog 36 #[.pointer (some ⟨b, 0, none⟩), .int .i64 n] w fun e w' => e = .returned (.tuple #[]) ∧ (Lib.BuilderAt 72 5 B b (.pointer (some ⟨b, 0, none⟩)) [] w' ∧ Below B w w') := Any.Builder_Grow_fresh Tryd.lays165 Tryd.Builder_Extra_165 B b n w hB hbk hBw hn
def Tryd.lays156_ren : Go.Shelf.Ren := ⟨fun | 156 => 16 | 165 => 36 | 166 => 37 | 169 => 38 | 240 => 50 | 241 => 51 | 276 => 57 | 277 => 58 | n => n, fun | 31 => 22 | 9 => 9 | 3 => 3 | 4 => 4 | 0 => 0 | 20 => 20 | 72 => 72 | 76 => 76 | 70 => 69 | 37 => 70 | 75 => 75 | 127 => 89 | 164 => 96 | 5 => 5 | 80 => 78 | n => n, fun | n => n⟩
theorem Tryd.lays156 : Go.Proofs.Lays.n156 Tryd.prog Tryd.lays156_ren := {
  mixed := by kernel_rfl
  f156 := Tryd.func16.trans (congrArg some (by kernel_rfl))
  f165 := Tryd.func36.trans (congrArg some (by kernel_rfl))
  f166 := Tryd.func37.trans (congrArg some (by kernel_rfl))
  f169 := Tryd.func38.trans (congrArg some (by kernel_rfl))
  f240 := Tryd.func50.trans (congrArg some (by kernel_rfl))
  f241 := Tryd.func51.trans (congrArg some (by kernel_rfl))
  f276 := Tryd.func57.trans (congrArg some (by kernel_rfl))
  f277 := Tryd.func58.trans (congrArg some (by kernel_rfl))
  t0 := Tryd.underlying0
  a0 := Tryd.isAgg0
  z0 := Tryd.sizeOf0
  v0 := Tryd.zeroValue0
  t3 := Tryd.underlying3
  a3 := Tryd.isAgg3
  z3 := Tryd.sizeOf3
  v3 := Tryd.zeroValue3
  t4 := Tryd.underlying4
  a4 := Tryd.isAgg4
  z4 := Tryd.sizeOf4
  v4 := Tryd.zeroValue4
  t9 := Tryd.underlying9
  a9 := Tryd.isAgg9
  z9 := Tryd.sizeOf9
  v9 := Tryd.zeroValue9
  t20 := Tryd.underlying20
  a20 := Tryd.isAgg20
  z20 := Tryd.sizeOf20
  v20 := Tryd.zeroValue20
  t31 := Tryd.underlying22
  a31 := Tryd.isAgg22
  z31 := Tryd.sizeOf22
  v31 := Tryd.zeroValue22
  t37 := Tryd.underlying70
  a37 := Tryd.isAgg70
  z37 := Tryd.sizeOf70
  v37 := Tryd.zeroValue70
  t70 := Tryd.underlying69
  a70 := Tryd.isAgg69
  z70 := Tryd.sizeOf69
  v70 := Tryd.zeroValue69
  t72 := Tryd.underlying72
  a72 := Tryd.isAgg72
  z72 := Tryd.sizeOf72
  v72 := Tryd.zeroValue72
  t75 := Tryd.underlying75
  a75 := Tryd.isAgg75
  z75 := Tryd.sizeOf75
  v75 := Tryd.zeroValue75
  t76 := Tryd.underlying76
  a76 := Tryd.isAgg76
  z76 := Tryd.sizeOf76
  v76 := Tryd.zeroValue76
  t127 := Tryd.underlying89
  a127 := Tryd.isAgg89
  z127 := Tryd.sizeOf89
  v127 := Tryd.zeroValue89
  t164 := Tryd.underlying96
  a164 := Tryd.isAgg96
  z164 := Tryd.sizeOf96
  v164 := Tryd.zeroValue96 }
theorem Tryd.Builder_Extra_156 : Builder.Extra Tryd.prog Tryd.lays156_ren := {
  sizeBuilder := by kernel_rfl
  liesBuilder := by kernel_rfl
  t5 := Tryd.underlying5
  a5 := Tryd.isAgg5
  z5 := Tryd.sizeOf5
  v5 := Tryd.zeroValue5
  infoByte := by kernel_rfl
  cellsByte := by kernel_rfl
  sizeByte := by kernel_rfl
  neB5 := by decide }
open Go.RowKit in
theorem Tryd.strings_Join_none (a : Option Addr) (c : Nat) (sep : ByteArray) (w : World) :
    Calls Tryd.prog 16 #[.slice a 0 c, .string sep] w fun e w' => e = .returned (.string ⟨#[]⟩) ∧ w' = w := Any.strings_Join_none Tryd.lays156 Tryd.Builder_Extra_156 a c sep w
open Go.RowKit in
theorem Tryd.strings_Join (bk o c : Nat) (xs : List ByteArray) (sep : ByteArray) (w : World) (hcells : ∀ (j : Nat) x, xs[j]? = some x → w.cell? ⟨bk, o + j, none⟩ = some (.string x)) (hbk : bk < w.heap.size) (hN : xs.length ≤ 140737488355328) (hcap : xs.length ≤ c) (hlen : (Lib.join (xs.map (·.data.toList)) sep.data.toList).length ≤ 140737488355328) :
    Calls Tryd.prog 16 #[.slice (some ⟨bk, o, none⟩) xs.length c, .string sep] w fun e w' => e = .returned (.string ⟨(Lib.join (xs.map (·.data.toList)) sep.data.toList).toArray⟩) ∧ Below w.heap.size w w' := Any.strings_Join Tryd.lays156 Tryd.Builder_Extra_156 bk o c xs sep w hcells hbk hN hcap hlen
def Tryd.lays215_ren : Go.Shelf.Ren := ⟨fun | 215 => 66 | n => n, fun | 3 => 3 | 4 => 4 | n => n, fun | n => n⟩
theorem Tryd.lays215 : Go.Proofs.Lays.n215 Tryd.prog Tryd.lays215_ren := {
  mixed := by kernel_rfl
  f215 := Tryd.func66.trans (congrArg some (by kernel_rfl))
  t3 := Tryd.underlying3
  a3 := Tryd.isAgg3
  z3 := Tryd.sizeOf3
  v3 := Tryd.zeroValue3
  t4 := Tryd.underlying4
  a4 := Tryd.isAgg4
  z4 := Tryd.sizeOf4
  v4 := Tryd.zeroValue4 }
open Go.RowKit in
theorem Tryd.cmp_isNaN_int (x : Int) (w : World) :
    Calls Tryd.prog 66 #[.int .i64 x] w fun e w' => e = .returned (.bool false) ∧ w' = w := Any.cmp_isNaN_int Tryd.lays215 x w
open Go.RowKit in
theorem Tryd.Builder_String_f (B b : Nat) (l : List UInt8) (w : World) (h : Lib.IsBuilderF 72 5 B b (Lib.byteCells l) w) (h0 : l ≠ []) :
    Calls Tryd.prog 38 #[.pointer (some ⟨b, 0, none⟩)] w fun e w' => e = .returned (.string ⟨l.toArray⟩) ∧ (Lib.IsBuilderF 72 5 B b (Lib.byteCells l) w' ∧ Below B w w') := Any.Builder_String_f Tryd.lays169 Tryd.Builder_Extra_169 B b l w h h0
open Go.RowKit in
theorem Tryd.Builder_String_empty_f (B b : Nat) (w : World) (h : Lib.IsBuilderF 72 5 B b [] w) (hBw : B ≤ w.heap.size) :
    Calls Tryd.prog 38 #[.pointer (some ⟨b, 0, none⟩)] w fun e w' => e = .returned (.string ⟨#[]⟩) ∧ (Lib.IsBuilderF 72 5 B b [] w' ∧ Below B w w') := Any.Builder_String_empty_f Tryd.lays169 Tryd.Builder_Extra_169 B b w h hBw
open Go.RowKit in
theorem Tryd.Builder_String_any_f (B b : Nat) (l : List UInt8) (w : World) (h : Lib.IsBuilderF 72 5 B b (Lib.byteCells l) w) (hBw : B ≤ w.heap.size) :
    Calls Tryd.prog 38 #[.pointer (some ⟨b, 0, none⟩)] w fun e w' => e = .returned (.string ⟨l.toArray⟩) ∧ (Lib.IsBuilderF 72 5 B b (Lib.byteCells l) w' ∧ Below B w w') := Any.Builder_String_any_f Tryd.lays169 Tryd.Builder_Extra_169 B b l w h hBw
open Go.RowKit in
theorem Tryd.Builder_String_k (B b : Nat) (l : List UInt8) (w : World) (h : Lib.IsBuilderF 72 5 B b (Lib.byteCells l) w) (h0 : l ≠ []) :
    Calls Tryd.prog 38 #[.pointer (some ⟨b, 0, none⟩)] w fun e w' => e = .returned (.string ⟨l.toArray⟩) ∧ (Lib.IsBuilderF 72 5 B b (Lib.byteCells l) w' ∧ Below B w w' ∧ Lib.OthersKept 5 (some b) w w') := Any.Builder_String_k Tryd.lays169 Tryd.Builder_Extra_169 B b l w h h0
open Go.RowKit in
theorem Tryd.Builder_String_empty_k (B b : Nat) (w : World) (h : Lib.IsBuilderF 72 5 B b [] w) (hBw : B ≤ w.heap.size) :
    Calls Tryd.prog 38 #[.pointer (some ⟨b, 0, none⟩)] w fun e w' => e = .returned (.string ⟨#[]⟩) ∧ (Lib.IsBuilderF 72 5 B b [] w' ∧ Below B w w' ∧ Lib.OthersKept 5 (some b) w w') := Any.Builder_String_empty_k Tryd.lays169 Tryd.Builder_Extra_169 B b w h hBw
open Go.RowKit in
theorem Tryd.Builder_String_any_k (B b : Nat) (l : List UInt8) (w : World) (h : Lib.IsBuilderF 72 5 B b (Lib.byteCells l) w) (hBw : B ≤ w.heap.size) :
    Calls Tryd.prog 38 #[.pointer (some ⟨b, 0, none⟩)] w fun e w' => e = .returned (.string ⟨l.toArray⟩) ∧ (Lib.IsBuilderF 72 5 B b (Lib.byteCells l) w' ∧ Below B w w' ∧ Lib.OthersKept 5 (some b) w w') := Any.Builder_String_any_k Tryd.lays169 Tryd.Builder_Extra_169 B b l w h hBw
def Tryd.lays278_ren : Go.Shelf.Ren := ⟨fun | 278 => 64 | n => n, fun | 37 => 70 | 21 => 21 | 51 => 105 | 4 => 4 | 46 => 95 | 5 => 5 | n => n, fun | n => n⟩
theorem Tryd.lays278 : Go.Proofs.Lays.n278 Tryd.prog Tryd.lays278_ren := {
  mixed := by kernel_rfl
  f278 := Tryd.func64.trans (congrArg some (by kernel_rfl))
  t4 := Tryd.underlying4
  a4 := Tryd.isAgg4
  z4 := Tryd.sizeOf4
  v4 := Tryd.zeroValue4
  t5 := Tryd.underlying5
  a5 := Tryd.isAgg5
  z5 := Tryd.sizeOf5
  v5 := Tryd.zeroValue5
  t21 := Tryd.underlying21
  a21 := Tryd.isAgg21
  z21 := Tryd.sizeOf21
  v21 := Tryd.zeroValue21
  t37 := Tryd.underlying70
  a37 := Tryd.isAgg70
  z37 := Tryd.sizeOf70
  v37 := Tryd.zeroValue70
  t46 := Tryd.underlying95
  a46 := Tryd.isAgg95
  z46 := Tryd.sizeOf95
  v46 := Tryd.zeroValue95
  t51 := Tryd.underlying105
  a51 := Tryd.isAgg105
  z51 := Tryd.sizeOf105
  v51 := Tryd.zeroValue105 }
open Go.RowKit in
theorem Tryd.utf8_appendRuneNonASCII_row (B : Nat) (v : Value) (n : Nat) (xs : List Value) (r : Int) (hr0 : -2147483648 ≤ r) (hr1 : r ≤ 2147483647) (hna : r < 0 ∨ 128 ≤ r) (w : World) (hown : w.ownsRowF B 5 1 v n xs) (hlen : n + 4 ≤ 140737488355328) (hBw : B ≤ w.heap.size) :
    Calls Tryd.prog 64 #[v, .int .i32 r] w fun e w' => ∃ v', e = .returned v' ∧ w'.ownsRowF B 5 1 v' (n + (Lib.runeCells r).length) (xs ++ Lib.runeCells r) ∧ ∃ o, (w.alloc o).grownBy w' v.ownBlock := Any.utf8_appendRuneNonASCII_row Tryd.lays278 (by kernel_rfl) B v n xs r hr0 hr1 hna w hown hlen hBw
def Tryd.lays242_ren : Go.Shelf.Ren := ⟨fun | 242 => 59 | 278 => 64 | n => n, fun | 37 => 70 | 21 => 21 | 51 => 105 | 4 => 4 | 5 => 5 | 46 => 95 | n => n, fun | n => n⟩
theorem Tryd.lays242 : Go.Proofs.Lays.n242 Tryd.prog Tryd.lays242_ren := {
  mixed := by kernel_rfl
  f242 := Tryd.func59.trans (congrArg some (by kernel_rfl))
  f278 := Tryd.func64.trans (congrArg some (by kernel_rfl))
  t4 := Tryd.underlying4
  a4 := Tryd.isAgg4
  z4 := Tryd.sizeOf4
  v4 := Tryd.zeroValue4
  t5 := Tryd.underlying5
  a5 := Tryd.isAgg5
  z5 := Tryd.sizeOf5
  v5 := Tryd.zeroValue5
  t21 := Tryd.underlying21
  a21 := Tryd.isAgg21
  z21 := Tryd.sizeOf21
  v21 := Tryd.zeroValue21
  t37 := Tryd.underlying70
  a37 := Tryd.isAgg70
  z37 := Tryd.sizeOf70
  v37 := Tryd.zeroValue70
  t46 := Tryd.underlying95
  a46 := Tryd.isAgg95
  z46 := Tryd.sizeOf95
  v46 := Tryd.zeroValue95
  t51 := Tryd.underlying105
  a51 := Tryd.isAgg105
  z51 := Tryd.sizeOf105
  v51 := Tryd.zeroValue105 }
open Go.RowKit in
theorem Tryd.utf8_AppendRune_row (B : Nat) (v : Value) (n : Nat) (xs : List Value) (r : Int) (hr0 : -2147483648 ≤ r) (hr1 : r ≤ 2147483647) (w : World) (hown : w.ownsRowF B 5 1 v n xs) (hlen : n + 4 ≤ 140737488355328) (hBw : B ≤ w.heap.size) :
    Calls Tryd.prog 59 #[v, .int .i32 r] w fun e w' => ∃ v', e = .returned v' ∧ w'.ownsRowF B 5 1 v' (n + (Lib.runeCells r).length) (xs ++ Lib.runeCells r) ∧ ∃ o, (w.alloc o).grownBy w' v.ownBlock := Any.utf8_AppendRune_row Tryd.lays242 (by kernel_rfl) B v n xs r hr0 hr1 w hown hlen hBw
open Go.RowKit in
theorem Tryd.utf8_appendRuneNonASCII_plain (B : Nat) (v : Value) (n : Nat) (xs : List Value) (r : Int) (hr0 : -2147483648 ≤ r) (hr1 : r ≤ 2147483647) (hna : r < 0 ∨ 128 ≤ r) (w : World) (hown : w.ownsRow B 5 1 v n xs) (hlen : n + 4 ≤ 140737488355328) (hBw : B ≤ w.heap.size) :
    Calls Tryd.prog 64 #[v, .int .i32 r] w fun e w' => ∃ v', e = .returned v' ∧ w'.ownsRow B 5 1 v' (n + (Lib.runeCells r).length) (xs ++ Lib.runeCells r) ∧ ∃ o, (w.alloc o).grownBy w' v.ownBlock := Any.utf8_appendRuneNonASCII_plain Tryd.lays278 (by kernel_rfl) B v n xs r hr0 hr1 hna w hown hlen hBw
open Go.RowKit in
theorem Tryd.utf8_AppendRune_plain (B : Nat) (v : Value) (n : Nat) (xs : List Value) (r : Int) (hr0 : -2147483648 ≤ r) (hr1 : r ≤ 2147483647) (w : World) (hown : w.ownsRow B 5 1 v n xs) (hlen : n + 4 ≤ 140737488355328) (hBw : B ≤ w.heap.size) :
    Calls Tryd.prog 59 #[v, .int .i32 r] w fun e w' => ∃ v', e = .returned v' ∧ w'.ownsRow B 5 1 v' (n + (Lib.runeCells r).length) (xs ++ Lib.runeCells r) ∧ ∃ o, (w.alloc o).grownBy w' v.ownBlock := Any.utf8_AppendRune_plain Tryd.lays242 (by kernel_rfl) B v n xs r hr0 hr1 w hown hlen hBw
def Tryd.lays195_ren : Go.Shelf.Ren := ⟨fun | 195 => 61 | n => n, fun | 9 => 9 | 3 => 3 | 0 => 0 | 4 => 4 | n => n, fun | n => n⟩
theorem Tryd.lays195 : Go.Proofs.Lays.n195 Tryd.prog Tryd.lays195_ren := {
  mixed := by kernel_rfl
  f195 := Tryd.func61.trans (congrArg some (by kernel_rfl))
  t0 := Tryd.underlying0
  a0 := Tryd.isAgg0
  z0 := Tryd.sizeOf0
  v0 := Tryd.zeroValue0
  t3 := Tryd.underlying3
  a3 := Tryd.isAgg3
  z3 := Tryd.sizeOf3
  v3 := Tryd.zeroValue3
  t4 := Tryd.underlying4
  a4 := Tryd.isAgg4
  z4 := Tryd.sizeOf4
  v4 := Tryd.zeroValue4
  t9 := Tryd.underlying9
  a9 := Tryd.isAgg9
  z9 := Tryd.sizeOf9
  v9 := Tryd.zeroValue9 }
open Go.RowKit in
theorem Tryd.utf8_RuneCountInString (s : ByteArray) (w : World) (hs : s.size < 9223372036854775807) :
    Calls Tryd.prog 61 #[.string s] w fun e w' => e = .returned (.int .i64 (Lib.runeCount s)) ∧ ∃ pos, w' = w.iter s pos := Any.utf8_RuneCountInString Tryd.lays195 s w hs
open Go.RowKit in
theorem Tryd.Builder_grow_fresh_cap (B b n : Nat) (w : World) (hB : B ≤ b) (hbk : w.heap[b]? = some (.cells #[.pointer (some ⟨b, 0, none⟩), .slice none 0 0] 72 (0, 0))) (hBw : B ≤ w.heap.size) (hn : n ≤ 281474976710656) :
    Calls Tryd.prog 51 #[.pointer (some ⟨b, 0, none⟩), .int .i64 n] w fun e w' => e = .returned (.tuple #[]) ∧ (Lib.BuilderAt 72 5 B b (.pointer (some ⟨b, 0, none⟩)) [] w' ∧ Below B w w') ∧ ∃ p cap, w'.cell? ⟨b, 1, none⟩ = some (.slice p 0 cap) ∧ n ≤ cap := Any.Builder_grow_fresh_cap Tryd.lays241 Tryd.Builder_Extra_241 B b n w hB hbk hBw hn
open Go.RowKit in
theorem Tryd.Builder_Grow_fresh_cap (B b n : Nat) (w : World) (hB : B ≤ b) (hbk : w.heap[b]? = some (.cells #[.pointer none, .slice none 0 0] 72 (0, 0))) (hBw : B ≤ w.heap.size) (hn : n ≤ 281474976710656) :
    Calls Tryd.prog 36 #[.pointer (some ⟨b, 0, none⟩), .int .i64 n] w fun e w' => e = .returned (.tuple #[]) ∧ (Lib.BuilderAt 72 5 B b (.pointer (some ⟨b, 0, none⟩)) [] w' ∧ Below B w w') ∧ ∃ p cap, w'.cell? ⟨b, 1, none⟩ = some (.slice p 0 cap) ∧ n ≤ cap := Any.Builder_Grow_fresh_cap Tryd.lays165 Tryd.Builder_Extra_165 B b n w hB hbk hBw hn
def Tryd.lays217_ren : Go.Shelf.Ren := ⟨fun | 217 => 67 | 266 => 71 | n => n, fun | 9 => 9 | 5 => 5 | 3 => 3 | n => n, fun | n => n⟩
theorem Tryd.lays217 : Go.Proofs.Lays.n217 Tryd.prog Tryd.lays217_ren := {
  mixed := by kernel_rfl
  f217 := Tryd.func67.trans (congrArg some (by kernel_rfl))
  f266 := Tryd.func71.trans (congrArg some (by kernel_rfl))
  t3 := Tryd.underlying3
  a3 := Tryd.isAgg3
  z3 := Tryd.sizeOf3
  v3 := Tryd.zeroValue3
  t5 := Tryd.underlying5
  a5 := Tryd.isAgg5
  z5 := Tryd.sizeOf5
  v5 := Tryd.zeroValue5
  t9 := Tryd.underlying9
  a9 := Tryd.isAgg9
  z9 := Tryd.sizeOf9
  v9 := Tryd.zeroValue9 }
open Go.RowKit Go.Lib in
theorem Tryd.stringslite_IndexByte (s : ByteArray) (c : Int) (w : World) :
    Calls Tryd.prog 67 #[.string s, .int .u8 c] w fun e w' => e = .returned (.int .i64 (Lib.indexByte s.data.toList c.toNat.toUInt8)) ∧ w' = w := Any.stringslite_IndexByte Tryd.lays217 s c w
def Tryd.lays224_ren : Go.Shelf.Ren := ⟨fun | 224 => 69 | n => n, fun | 3 => 3 | n => n, fun | n => n⟩
theorem Tryd.lays224 : Go.Proofs.Lays.n224 Tryd.prog Tryd.lays224_ren := {
  mixed := by kernel_rfl
  f224 := Tryd.func69.trans (congrArg some (by kernel_rfl))
  t3 := Tryd.underlying3
  a3 := Tryd.isAgg3
  z3 := Tryd.sizeOf3
  v3 := Tryd.zeroValue3 }
open Go.RowKit Go.Lib in
theorem Tryd.bytealg_Cutover (n : Int) (h0 : 0 ≤ n) (h1 : n < 4611686018427387904) (w : World) :
    Calls Tryd.prog 69 #[.int .i64 n] w fun e w' => e = .returned (.int .i64 ((n + 16) / 8)) ∧ w' = w := Any.bytealg_Cutover Tryd.lays224 n h0 h1 w
def Tryd.lays314_ren : Go.Shelf.Ren := ⟨fun | 314 => 72 | n => n, fun | 9 => 9 | 51 => 105 | 3 => 3 | 4 => 4 | 5 => 5 | 46 => 95 | n => n, fun | n => n⟩
theorem Tryd.lays314 : Go.Proofs.Lays.n314 Tryd.prog Tryd.lays314_ren := {
  mixed := by kernel_rfl
  f314 := Tryd.func72.trans (congrArg some (by kernel_rfl))
  t3 := Tryd.underlying3
  a3 := Tryd.isAgg3
  z3 := Tryd.sizeOf3
  v3 := Tryd.zeroValue3
  t4 := Tryd.underlying4
  a4 := Tryd.isAgg4
  z4 := Tryd.sizeOf4
  v4 := Tryd.zeroValue4
  t5 := Tryd.underlying5
  a5 := Tryd.isAgg5
  z5 := Tryd.sizeOf5
  v5 := Tryd.zeroValue5
  t9 := Tryd.underlying9
  a9 := Tryd.isAgg9
  z9 := Tryd.sizeOf9
  v9 := Tryd.zeroValue9
  t46 := Tryd.underlying95
  a46 := Tryd.isAgg95
  z46 := Tryd.sizeOf95
  v46 := Tryd.zeroValue95
  t51 := Tryd.underlying105
  a51 := Tryd.isAgg105
  z51 := Tryd.sizeOf105
  v51 := Tryd.zeroValue105 }
open Go.RowKit Go.Lib in
theorem Tryd.bytealg_hashStr (sep : ByteArray) (hs : sep.size < 4294967281) (w : World) :
    Calls Tryd.prog 72 #[.string sep] w fun e w' => e = .returned (.tuple #[.int .u32 (RK.H sep.data.toList % 4294967296), .int .u32 (16777619 ^ sep.size % 4294967296)]) ∧ w' = w := Any.bytealg_hashStr Tryd.lays314 sep hs w
def Tryd.lays267_ren : Go.Shelf.Ren := ⟨fun | 267 => 70 | 314 => 72 | n => n, fun | 9 => 9 | 3 => 3 | 146 => 107 | 51 => 105 | 4 => 4 | 5 => 5 | 46 => 95 | n => n, fun | n => n⟩
theorem Tryd.lays267 : Go.Proofs.Lays.n267 Tryd.prog Tryd.lays267_ren := {
  mixed := by kernel_rfl
  f267 := Tryd.func70.trans (congrArg some (by kernel_rfl))
  f314 := Tryd.func72.trans (congrArg some (by kernel_rfl))
  t3 := Tryd.underlying3
  a3 := Tryd.isAgg3
  z3 := Tryd.sizeOf3
  v3 := Tryd.zeroValue3
  t4 := Tryd.underlying4
  a4 := Tryd.isAgg4
  z4 := Tryd.sizeOf4
  v4 := Tryd.zeroValue4
  t5 := Tryd.underlying5
  a5 := Tryd.isAgg5
  z5 := Tryd.sizeOf5
  v5 := Tryd.zeroValue5
  t9 := Tryd.underlying9
  a9 := Tryd.isAgg9
  z9 := Tryd.sizeOf9
  v9 := Tryd.zeroValue9
  t46 := Tryd.underlying95
  a46 := Tryd.isAgg95
  z46 := Tryd.sizeOf95
  v46 := Tryd.zeroValue95
  t51 := Tryd.underlying105
  a51 := Tryd.isAgg105
  z51 := Tryd.sizeOf105
  v51 := Tryd.zeroValue105
  t146 := Tryd.underlying107
  a146 := Tryd.isAgg107
  z146 := Tryd.sizeOf107
  v146 := Tryd.zeroValue107 }
open Go.RowKit Go.Lib in
theorem Tryd.bytealg_IndexRabinKarp (s sep : ByteArray) (h1 : 1 ≤ sep.size) (h2 : sep.size ≤ s.size) (hs : s.size < 4294967281) (w : World) :
    Calls Tryd.prog 70 #[.string s, .string sep] w fun e w' => e = .returned (.int .i64 (Lib.index s.data.toList sep.data.toList)) ∧ w' = w := Any.bytealg_IndexRabinKarp Tryd.lays267 s sep h1 h2 hs w
def Tryd.lays219_ren : Go.Shelf.Ren := ⟨fun | 219 => 65 | 217 => 67 | 225 => 68 | 224 => 69 | 267 => 70 | 266 => 71 | 314 => 72 | n => n, fun | 9 => 9 | 3 => 3 | 4 => 4 | 5 => 5 | 46 => 95 | 146 => 107 | 51 => 105 | n => n, fun | 1 => 1 | n => n⟩
theorem Tryd.lays219 : Go.Proofs.Lays.n219 Tryd.prog Tryd.lays219_ren := {
  mixed := by kernel_rfl
  f217 := Tryd.func67.trans (congrArg some (by kernel_rfl))
  f219 := Tryd.func65.trans (congrArg some (by kernel_rfl))
  f224 := Tryd.func69.trans (congrArg some (by kernel_rfl))
  f225 := Tryd.func68.trans (congrArg some (by kernel_rfl))
  f266 := Tryd.func71.trans (congrArg some (by kernel_rfl))
  f267 := Tryd.func70.trans (congrArg some (by kernel_rfl))
  f314 := Tryd.func72.trans (congrArg some (by kernel_rfl))
  t3 := Tryd.underlying3
  a3 := Tryd.isAgg3
  z3 := Tryd.sizeOf3
  v3 := Tryd.zeroValue3
  t4 := Tryd.underlying4
  a4 := Tryd.isAgg4
  z4 := Tryd.sizeOf4
  v4 := Tryd.zeroValue4
  t5 := Tryd.underlying5
  a5 := Tryd.isAgg5
  z5 := Tryd.sizeOf5
  v5 := Tryd.zeroValue5
  t9 := Tryd.underlying9
  a9 := Tryd.isAgg9
  z9 := Tryd.sizeOf9
  v9 := Tryd.zeroValue9
  t46 := Tryd.underlying95
  a46 := Tryd.isAgg95
  z46 := Tryd.sizeOf95
  v46 := Tryd.zeroValue95
  t51 := Tryd.underlying105
  a51 := Tryd.isAgg105
  z51 := Tryd.sizeOf105
  v51 := Tryd.zeroValue105
  t146 := Tryd.underlying107
  a146 := Tryd.isAgg107
  z146 := Tryd.sizeOf107
  v146 := Tryd.zeroValue107
  g1 := by kernel_rfl }
open Go.RowKit Go.Lib in
theorem Tryd.stringslite_Index_one (s : ByteArray) (c : UInt8) (w : World) :
    Calls Tryd.prog 65 #[.string s, .string ⟨#[c]⟩] w fun e w' => e = .returned (.int .i64 (Lib.indexByte s.data.toList c)) ∧ w' = w := Any.stringslite_Index_one Tryd.lays219 s c w
open Go.RowKit Go.Lib in
theorem Tryd.stringslite_Index (s sub : ByteArray) (m : Int) (w : World) (hs : s.size < 4294967281) (hm : w.cell? ⟨1, 0, none⟩ = some (.int .i64 m)) :
    Calls Tryd.prog 65 #[.string s, .string sub] w fun e w' => e = .returned (.int .i64 (Lib.index s.data.toList sub.data.toList)) ∧ w' = w := Any.stringslite_Index Tryd.lays219 s sub m w hs hm
def Tryd.lays143_ren : Go.Shelf.Ren := ⟨fun | 143 => 60 | 219 => 65 | 217 => 67 | 225 => 68 | 224 => 69 | 267 => 70 | 266 => 71 | 314 => 72 | n => n, fun | 9 => 9 | 3 => 3 | 4 => 4 | 5 => 5 | 46 => 95 | 146 => 107 | 51 => 105 | n => n, fun | 1 => 1 | n => n⟩
theorem Tryd.lays143 : Go.Proofs.Lays.n143 Tryd.prog Tryd.lays143_ren := {
  mixed := by kernel_rfl
  f143 := Tryd.func60.trans (congrArg some (by kernel_rfl))
  f217 := Tryd.func67.trans (congrArg some (by kernel_rfl))
  f219 := Tryd.func65.trans (congrArg some (by kernel_rfl))
  f224 := Tryd.func69.trans (congrArg some (by kernel_rfl))
  f225 := Tryd.func68.trans (congrArg some (by kernel_rfl))
  f266 := Tryd.func71.trans (congrArg some (by kernel_rfl))
  f267 := Tryd.func70.trans (congrArg some (by kernel_rfl))
  f314 := Tryd.func72.trans (congrArg some (by kernel_rfl))
  t3 := Tryd.underlying3
  a3 := Tryd.isAgg3
  z3 := Tryd.sizeOf3
  v3 := Tryd.zeroValue3
  t4 := Tryd.underlying4
  a4 := Tryd.isAgg4
  z4 := Tryd.sizeOf4
  v4 := Tryd.zeroValue4
  t5 := Tryd.underlying5
  a5 := Tryd.isAgg5
  z5 := Tryd.sizeOf5
  v5 := Tryd.zeroValue5
  t9 := Tryd.underlying9
  a9 := Tryd.isAgg9
  z9 := Tryd.sizeOf9
  v9 := Tryd.zeroValue9
  t46 := Tryd.underlying95
  a46 := Tryd.isAgg95
  z46 := Tryd.sizeOf95
  v46 := Tryd.zeroValue95
  t51 := Tryd.underlying105
  a51 := Tryd.isAgg105
  z51 := Tryd.sizeOf105
  v51 := Tryd.zeroValue105
  t146 := Tryd.underlying107
  a146 := Tryd.isAgg107
  z146 := Tryd.sizeOf107
  v146 := Tryd.zeroValue107
  g1 := by kernel_rfl }
open Go.RowKit Go.Lib in
theorem Tryd.strings_Index_one (s : ByteArray) (c : UInt8) (w : World) :
    Calls Tryd.prog 60 #[.string s, .string ⟨#[c]⟩] w fun e w' => e = .returned (.int .i64 (Lib.indexByte s.data.toList c)) ∧ w' = w := Any.strings_Index_one Tryd.lays143 s c w
open Go.RowKit Go.Lib in
theorem Tryd.strings_Index (s sub : ByteArray) (m : Int) (w : World) (hs : s.size < 4294967281) (hm : w.cell? ⟨1, 0, none⟩ = some (.int .i64 m)) :
    Calls Tryd.prog 60 #[.string s, .string sub] w fun e w' => e = .returned (.int .i64 (Lib.index s.data.toList sub.data.toList)) ∧ w' = w := Any.strings_Index Tryd.lays143 s sub m w hs hm
def Tryd.laysM219_ren : Go.Shelf.Ren := ⟨fun | 219 => 65 | 217 => 67 | 225 => 68 | 224 => 69 | 267 => 70 | 266 => 71 | 314 => 72 | n => n, fun | 9 => 9 | 3 => 3 | 4 => 4 | 5 => 5 | 46 => 95 | 146 => 107 | 51 => 105 | n => n, fun | 1 => 1 | n => n⟩
theorem Tryd.laysM219 : Go.Proofs.LaysM.n219 Tryd.prog Tryd.laysM219_ren := {
  mixed := by kernel_rfl
  f217 := Tryd.func67.trans (congrArg some (by kernel_rfl))
  f219 := Tryd.func65.trans (congrArg some (by kernel_rfl))
  f224 := Tryd.func69.trans (congrArg some (by kernel_rfl))
  f225 := Tryd.func68.trans (congrArg some (by kernel_rfl))
  f266 := Tryd.func71.trans (congrArg some (by kernel_rfl))
  f267 := Tryd.func70.trans (congrArg some (by kernel_rfl))
  f314 := Tryd.func72.trans (congrArg some (by kernel_rfl))
  t3 := Tryd.underlying3
  a3 := Tryd.isAgg3
  z3 := Tryd.sizeOf3
  v3 := Tryd.zeroValue3
  t4 := Tryd.underlying4
  a4 := Tryd.isAgg4
  z4 := Tryd.sizeOf4
  v4 := Tryd.zeroValue4
  t5 := Tryd.underlying5
  a5 := Tryd.isAgg5
  z5 := Tryd.sizeOf5
  v5 := Tryd.zeroValue5
  t9 := Tryd.underlying9
  a9 := Tryd.isAgg9
  z9 := Tryd.sizeOf9
  v9 := Tryd.zeroValue9
  t46 := Tryd.underlying95
  a46 := Tryd.isAgg95
  z46 := Tryd.sizeOf95
  v46 := Tryd.zeroValue95
  t51 := Tryd.underlying105
  a51 := Tryd.isAgg105
  z51 := Tryd.sizeOf105
  v51 := Tryd.zeroValue105
  t146 := Tryd.underlying107
  a146 := Tryd.isAgg107
  z146 := Tryd.sizeOf107
  v146 := Tryd.zeroValue107
  g1 := by kernel_rfl
  i3 := by kernel_rfl
  i4 := by kernel_rfl
  i5 := by kernel_rfl
  i9 := by kernel_rfl
  i46 := by kernel_rfl
  i51 := by kernel_rfl
  i146 := by kernel_rfl
  m1 := by kernel_rfl
  s1_3 := fun w h => Go.Proofs.cell_of_shapedOpen_int (zero := #[.int .i64 0]) (t := 3) h (of_decide_eq_true (by kernel_rfl)) (by kernel_rfl) rfl (by kernel_rfl) (by kernel_rfl) Tryd.underlying3 }
open Go.RowKit Go.Lib in
theorem Tryd.stringslite_Index_shaped (s sub : ByteArray) (w : World) (h : w.ShapedOpen Tryd.prog) (hs : s.size < 4294967281) :
    Calls Tryd.prog 65 #[.string s, .string sub] w fun e w' => e = .returned (.int .i64 (Lib.index s.data.toList sub.data.toList)) ∧ w' = w := Any.stringslite_Index_shaped Tryd.laysM219 s sub w h hs
def Tryd.laysM143_ren : Go.Shelf.Ren := ⟨fun | 143 => 60 | 219 => 65 | 217 => 67 | 225 => 68 | 224 => 69 | 267 => 70 | 266 => 71 | 314 => 72 | n => n, fun | 9 => 9 | 3 => 3 | 4 => 4 | 5 => 5 | 46 => 95 | 146 => 107 | 51 => 105 | n => n, fun | 1 => 1 | n => n⟩
theorem Tryd.laysM143 : Go.Proofs.LaysM.n143 Tryd.prog Tryd.laysM143_ren := {
  mixed := by kernel_rfl
  f143 := Tryd.func60.trans (congrArg some (by kernel_rfl))
  f217 := Tryd.func67.trans (congrArg some (by kernel_rfl))
  f219 := Tryd.func65.trans (congrArg some (by kernel_rfl))
  f224 := Tryd.func69.trans (congrArg some (by kernel_rfl))
  f225 := Tryd.func68.trans (congrArg some (by kernel_rfl))
  f266 := Tryd.func71.trans (congrArg some (by kernel_rfl))
  f267 := Tryd.func70.trans (congrArg some (by kernel_rfl))
  f314 := Tryd.func72.trans (congrArg some (by kernel_rfl))
  t3 := Tryd.underlying3
  a3 := Tryd.isAgg3
  z3 := Tryd.sizeOf3
  v3 := Tryd.zeroValue3
  t4 := Tryd.underlying4
  a4 := Tryd.isAgg4
  z4 := Tryd.sizeOf4
  v4 := Tryd.zeroValue4
  t5 := Tryd.underlying5
  a5 := Tryd.isAgg5
  z5 := Tryd.sizeOf5
  v5 := Tryd.zeroValue5
  t9 := Tryd.underlying9
  a9 := Tryd.isAgg9
  z9 := Tryd.sizeOf9
  v9 := Tryd.zeroValue9
  t46 := Tryd.underlying95
  a46 := Tryd.isAgg95
  z46 := Tryd.sizeOf95
  v46 := Tryd.zeroValue95
  t51 := Tryd.underlying105
  a51 := Tryd.isAgg105
  z51 := Tryd.sizeOf105
  v51 := Tryd.zeroValue105
  t146 := Tryd.underlying107
  a146 := Tryd.isAgg107
  z146 := Tryd.sizeOf107
  v146 := Tryd.zeroValue107
  g1 := by kernel_rfl
  i3 := by kernel_rfl
  i4 := by kernel_rfl
  i5 := by kernel_rfl
  i9 := by kernel_rfl
  i46 := by kernel_rfl
  i51 := by kernel_rfl
  i146 := by kernel_rfl
  m1 := by kernel_rfl
  s1_3 := fun w h => Go.Proofs.cell_of_shapedOpen_int (zero := #[.int .i64 0]) (t := 3) h (of_decide_eq_true (by kernel_rfl)) (by kernel_rfl) rfl (by kernel_rfl) (by kernel_rfl) Tryd.underlying3 }
open Go.RowKit Go.Lib in
theorem Tryd.strings_Index_shaped (s sub : ByteArray) (w : World) (h : w.ShapedOpen Tryd.prog) (hs : s.size < 4294967281) :
    Calls Tryd.prog 60 #[.string s, .string sub] w fun e w' => e = .returned (.int .i64 (Lib.index s.data.toList sub.data.toList)) ∧ w' = w := Any.strings_Index_shaped Tryd.laysM143 s sub w h hs
def Tryd.lays206_ren : Go.Shelf.Ren := ⟨fun | 206 => 42 | n => n, fun | 9 => 9 | 4 => 4 | 3 => 3 | n => n, fun | n => n⟩
theorem Tryd.lays206 : Go.Proofs.Lays.n206 Tryd.prog Tryd.lays206_ren := {
  mixed := by kernel_rfl
  f206 := Tryd.func42.trans (congrArg some (by kernel_rfl))
  t3 := Tryd.underlying3
  a3 := Tryd.isAgg3
  z3 := Tryd.sizeOf3
  v3 := Tryd.zeroValue3
  t4 := Tryd.underlying4
  a4 := Tryd.isAgg4
  z4 := Tryd.sizeOf4
  v4 := Tryd.zeroValue4
  t9 := Tryd.underlying9
  a9 := Tryd.isAgg9
  z9 := Tryd.sizeOf9
  v9 := Tryd.zeroValue9 }
open Go.RowKit Go.Lib in
theorem Tryd.stringslite_HasPrefix (s p : ByteArray) (w : World) :
    Calls Tryd.prog 42 #[.string s, .string p] w fun e w' => e = .returned (.bool (Lib.hasPrefix s.data.toList p.data.toList)) ∧ w' = w := Any.stringslite_HasPrefix Tryd.lays206 s p w
def Tryd.lays99_ren : Go.Shelf.Ren := ⟨fun | 99 => 19 | 206 => 42 | n => n, fun | 9 => 9 | 4 => 4 | 3 => 3 | n => n, fun | n => n⟩
theorem Tryd.lays99 : Go.Proofs.Lays.n99 Tryd.prog Tryd.lays99_ren := {
  mixed := by kernel_rfl
  f99 := Tryd.func19.trans (congrArg some (by kernel_rfl))
  f206 := Tryd.func42.trans (congrArg some (by kernel_rfl))
  t3 := Tryd.underlying3
  a3 := Tryd.isAgg3
  z3 := Tryd.sizeOf3
  v3 := Tryd.zeroValue3
  t4 := Tryd.underlying4
  a4 := Tryd.isAgg4
  z4 := Tryd.sizeOf4
  v4 := Tryd.zeroValue4
  t9 := Tryd.underlying9
  a9 := Tryd.isAgg9
  z9 := Tryd.sizeOf9
  v9 := Tryd.zeroValue9 }
open Go.RowKit Go.Lib in
theorem Tryd.strings_HasPrefix (s p : ByteArray) (w : World) :
    Calls Tryd.prog 19 #[.string s, .string p] w fun e w' => e = .returned (.bool (Lib.hasPrefix s.data.toList p.data.toList)) ∧ w' = w := Any.strings_HasPrefix Tryd.lays99 s p w
open Go.RowKit Go.Lib in
theorem Tryd.utf8_RuneCountInString_ascii (s : ByteArray) (w : World) (hs : s.size < 4294967281) (hascii : ∀ (j : Nat) b, s.data.toList[j]? = some b → b.toNat < 128) :
    Calls Tryd.prog 61 #[.string s] w fun e w' => e = .returned (.int .i64 s.size) ∧ w' = w.iter s s.size := Any.utf8_RuneCountInString_ascii Tryd.lays195 s w hs hascii
def Tryd.laysNm237_ren : Go.Shelf.Ren := ⟨fun | 37 => 66 | n => n, fun | 3 => 3 | 4 => 4 | n => n, fun | n => n⟩
theorem Tryd.laysNm237 : Go.Proofs.Lays2.n37 Tryd.prog Tryd.laysNm237_ren := {
  mixed := by kernel_rfl
  f37 := Tryd.func66.trans (congrArg some (by kernel_rfl))
  t3 := Tryd.underlying3
  a3 := Tryd.isAgg3
  z3 := Tryd.sizeOf3
  v3 := Tryd.zeroValue3
  t4 := Tryd.underlying4
  a4 := Tryd.isAgg4
  z4 := Tryd.sizeOf4
  v4 := Tryd.zeroValue4 }
open Go.RowKit Go.Lib in
theorem Tryd.cmp_isNaN_int2 (x : Int) (w : World) :
    Calls Tryd.prog 66 #[.int .i64 x] w fun e w' => e = .returned (.bool false) ∧ w' = w := Any.cmp_isNaN_int2 Tryd.laysNm237 x w
def Tryd.laysNm232_ren : Go.Shelf.Ren := ⟨fun | 32 => 63 | n => n, fun | 3 => 3 | 4 => 4 | n => n, fun | n => n⟩
theorem Tryd.laysNm232 : Go.Proofs.Lays2.n32 Tryd.prog Tryd.laysNm232_ren := {
  mixed := by kernel_rfl
  f32 := Tryd.func63.trans (congrArg some (by kernel_rfl))
  t3 := Tryd.underlying3
  a3 := Tryd.isAgg3
  z3 := Tryd.sizeOf3
  v3 := Tryd.zeroValue3
  t4 := Tryd.underlying4
  a4 := Tryd.isAgg4
  z4 := Tryd.sizeOf4
  v4 := Tryd.zeroValue4 }
open Go.RowKit Go.Lib in
theorem Tryd.slices_isNaN_int2 (x : Int) (w : World) :
    Calls Tryd.prog 63 #[.int .i64 x] w fun e w' => e = .returned (.bool false) ∧ w' = w := Any.slices_isNaN_int2 Tryd.laysNm232 x w
def Tryd.laysNm231_ren : Go.Shelf.Ren := ⟨fun | 31 => 62 | 37 => 66 | n => n, fun | 3 => 3 | 4 => 4 | n => n, fun | n => n⟩
theorem Tryd.laysNm231 : Go.Proofs.Lays2.n31 Tryd.prog Tryd.laysNm231_ren := {
  mixed := by kernel_rfl
  f31 := Tryd.func62.trans (congrArg some (by kernel_rfl))
  f37 := Tryd.func66.trans (congrArg some (by kernel_rfl))
  t3 := Tryd.underlying3
  a3 := Tryd.isAgg3
  z3 := Tryd.sizeOf3
  v3 := Tryd.zeroValue3
  t4 := Tryd.underlying4
  a4 := Tryd.isAgg4
  z4 := Tryd.sizeOf4
  v4 := Tryd.zeroValue4 }
open Go.RowKit Go.Lib in
theorem Tryd.cmp_Less_int2 (x y : Int) (w : World) :
    Calls Tryd.prog 62 #[.int .i64 x, .int .i64 y] w fun e w' => e = .returned (.bool (decide (x < y))) ∧ w' = w := Any.cmp_Less_int2 Tryd.laysNm231 x y w
def Tryd.laysNm225_ren : Go.Shelf.Ren := ⟨fun | 25 => 56 | 31 => 62 | 32 => 63 | 37 => 66 | n => n, fun | 22 => 80 | 3 => 3 | 4 => 4 | 40 => 95 | 0 => 0 | n => n, fun | n => n⟩
theorem Tryd.laysNm225 : Go.Proofs.Lays2.n25 Tryd.prog Tryd.laysNm225_ren := {
  mixed := by kernel_rfl
  f25 := Tryd.func56.trans (congrArg some (by kernel_rfl))
  f31 := Tryd.func62.trans (congrArg some (by kernel_rfl))
  f32 := Tryd.func63.trans (congrArg some (by kernel_rfl))
  f37 := Tryd.func66.trans (congrArg some (by kernel_rfl))
  t0 := Tryd.underlying0
  a0 := Tryd.isAgg0
  z0 := Tryd.sizeOf0
  v0 := Tryd.zeroValue0
  t3 := Tryd.underlying3
  a3 := Tryd.isAgg3
  z3 := Tryd.sizeOf3
  v3 := Tryd.zeroValue3
  t4 := Tryd.underlying4
  a4 := Tryd.isAgg4
  z4 := Tryd.sizeOf4
  v4 := Tryd.zeroValue4
  t22 := Tryd.underlying80
  a22 := Tryd.isAgg80
  z22 := Tryd.sizeOf80
  v22 := Tryd.zeroValue80
  t40 := Tryd.underlying95
  a40 := Tryd.isAgg95
  z40 := Tryd.sizeOf95
  v40 := Tryd.zeroValue95 }
open Go.RowKit Go.Lib in
theorem Tryd.slices_BinarySearch_int (b off n c : Nat) (zs : List Int) (x : Int) (w : World) (hz : n ≤ zs.length) (hbig : n < 4611686018427387904) (hc : ∀ j, j < zs.length → w.cell? ⟨b, off + j, none⟩ = some (.int .i64 (zs.getD j 0))) (hs : (zs.take n).Pairwise (· ≤ ·)) :
    Calls Tryd.prog 56 #[.slice (some ⟨b, off, none⟩) n c, .int .i64 x] w fun e w' => e = .returned (.tuple #[.int .i64 ((zs.take n).countP (· < x) : Nat), .bool ((zs.take n).contains x)]) ∧ ∃ q, w' = w.drewN q := Any.slices_BinarySearch_int Tryd.laysNm225 b off n c zs x w hz hbig hc hs
open Go.RowKit Go.Lib in
theorem Tryd.slices_BinarySearch_int_empty (a : Option Addr) (c : Nat) (x : Int) (w : World) :
    Calls Tryd.prog 56 #[.slice a 0 c, .int .i64 x] w fun e w' => e = .returned (.tuple #[.int .i64 0, .bool false]) ∧ w' = w := Any.slices_BinarySearch_int_empty Tryd.laysNm225 a c x w
def Tryd.laysSlH6_f46_ren : Go.Shelf.Ren := ⟨fun | 6 => 46 | n => n, fun | 22 => 22 | 23 => 9 | 25 => 58 | 3 => 3 | 0 => 0 | 4 => 4 | n => n, fun | n => n⟩
theorem Tryd.laysSlH6_f46 : Go.Proofs.SlLaysH.n6 Tryd.prog Tryd.laysSlH6_f46_ren := {
  mixed := by kernel_rfl
  f6 := ⟨Tryd.f46.name, by decide, Tryd.func46.trans (congrArg some (by kernel_rfl))⟩
  t0 := Tryd.underlying0
  a0 := Tryd.isAgg0
  z0 := Tryd.sizeOf0
  v0 := Tryd.zeroValue0
  t3 := Tryd.underlying3
  a3 := Tryd.isAgg3
  z3 := Tryd.sizeOf3
  v3 := Tryd.zeroValue3
  t4 := Tryd.underlying4
  a4 := Tryd.isAgg4
  z4 := Tryd.sizeOf4
  v4 := Tryd.zeroValue4
  t22 := Tryd.underlying22
  a22 := Tryd.isAgg22
  z22 := Tryd.sizeOf22
  v22 := Tryd.zeroValue22
  a23 := Tryd.isAgg9
  z23 := Tryd.sizeOf9
  t25 := Tryd.underlying58
  a25 := Tryd.isAgg58
  z25 := Tryd.sizeOf58
  v25 := Tryd.zeroValue58 }
open Go.RowKit Go.Lib in
theorem Tryd.slices_IndexFunc {α : Type} [Inhabited α] (enc : α → Value) (p : α → Bool) (g : Nat) (lb : Array Value) (eg : ∀ args w, (callFunc g args).run Tryd.prog w = .ok (.enter g args) w) (b off n c : Nat) (zs : List α) (w : World) (hp : PredAt Tryd.prog g lb enc p w) (hz : n ≤ zs.length) (hbig : n ≤ 9223372036854775807) (hc : ∀ j, j < zs.length → w.cell? ⟨b, off + j, none⟩ = some (enc zs[j]!)) :
    Calls Tryd.prog 46 #[.slice (some ⟨b, off, none⟩) n c, .func (.func g) #[] lb] w fun e w' => e = .returned (.int .i64 (Lib.idxBy (fun _ y => p y) (zs.take n) default)) ∧ ∃ q, w' = w.drewN q := AnyE.slices_IndexFunc Tryd.laysSlH6_f46 enc p g lb eg b off n c zs w hp hz hbig hc
open Go.RowKit Go.Lib in
theorem Tryd.slices_IndexFunc_empty {α : Type} [Inhabited α] (a : Option Addr) (c : Nat) (fv : Value) (w : World) :
    Calls Tryd.prog 46 #[.slice a 0 c, fv] w fun e w' => e = .returned (.int .i64 (-1)) ∧ w' = w := AnyE.slices_IndexFunc_empty Tryd.laysSlH6_f46 a c fv w
def Tryd.laysSlH8_f28_ren : Go.Shelf.Ren := ⟨fun | 8 => 28 | 6 => 46 | n => n, fun | 22 => 22 | 23 => 9 | 25 => 58 | 4 => 4 | 3 => 3 | 0 => 0 | n => n, fun | n => n⟩
theorem Tryd.laysSlH8_f28 : Go.Proofs.SlLaysH.n8 Tryd.prog Tryd.laysSlH8_f28_ren := {
  mixed := by kernel_rfl
  f6 := ⟨Tryd.f46.name, by decide, Tryd.func46.trans (congrArg some (by kernel_rfl))⟩
  f8 := ⟨Tryd.f28.name, by decide, Tryd.func28.trans (congrArg some (by kernel_rfl))⟩
  t0 := Tryd.underlying0
  a0 := Tryd.isAgg0
  z0 := Tryd.sizeOf0
  v0 := Tryd.zeroValue0
  t3 := Tryd.underlying3
  a3 := Tryd.isAgg3
  z3 := Tryd.sizeOf3
  v3 := Tryd.zeroValue3
  t4 := Tryd.underlying4
  a4 := Tryd.isAgg4
  z4 := Tryd.sizeOf4
  v4 := Tryd.zeroValue4
  t22 := Tryd.underlying22
  a22 := Tryd.isAgg22
  z22 := Tryd.sizeOf22
  v22 := Tryd.zeroValue22
  a23 := Tryd.isAgg9
  z23 := Tryd.sizeOf9
  t25 := Tryd.underlying58
  a25 := Tryd.isAgg58
  z25 := Tryd.sizeOf58
  v25 := Tryd.zeroValue58 }
open Go.RowKit Go.Lib in
theorem Tryd.slices_ContainsFunc {α : Type} [Inhabited α] (enc : α → Value) (p : α → Bool) (g : Nat) (lb : Array Value) (eg : ∀ args w, (callFunc g args).run Tryd.prog w = .ok (.enter g args) w) (b off n c : Nat) (zs : List α) (w : World) (hp : PredAt Tryd.prog g lb enc p w) (hz : n ≤ zs.length) (hbig : n ≤ 9223372036854775807) (hc : ∀ j, j < zs.length → w.cell? ⟨b, off + j, none⟩ = some (enc zs[j]!)) :
    Calls Tryd.prog 28 #[.slice (some ⟨b, off, none⟩) n c, .func (.func g) #[] lb] w fun e w' => e = .returned (.bool ((zs.take n).any p)) ∧ ∃ q, w' = w.drewN q := AnyE.slices_ContainsFunc Tryd.laysSlH8_f28 enc p g lb eg b off n c zs w hp hz hbig hc
open Go.RowKit Go.Lib in
theorem Tryd.slices_ContainsFunc_empty {α : Type} [Inhabited α] (a : Option Addr) (c : Nat) (fv : Value) (w : World) :
    Calls Tryd.prog 28 #[.slice a 0 c, fv] w fun e w' => e = .returned (.bool false) ∧ w' = w := AnyE.slices_ContainsFunc_empty Tryd.laysSlH8_f28 a c fv w
end Go.Proofs

/- The walk of text.Cut. -/
namespace Go.Proofs.YtlodmffiengnaaaDoor
open Go.ChangeShapes Go.WideShapes Go.ChangeAt Go.RowKit
namespace Txt
theorem ret_str {a b : ByteArray} (h : a = b) : Ending.returned (.string a) = .returned (.string b) := by rw [h]

theorem extract_take (s : ByteArray) (k : Nat) : s.extract 0 k = ⟨(s.data.toList.take k).toArray⟩ := by
  rw [Lib.extract_eq]; simp
theorem extract_size_le (s : ByteArray) (k : Nat) : (s.extract 0 k).size ≤ s.size := by
  simp; omega

end Txt
end Go.Proofs.YtlodmffiengnaaaDoor

/- Plain mathematics on lists of bytes and their runes: cutting a text at the end of a rune. No program is named. -/
namespace Go.Proofs.YtlodmffiengnaaaDoor
namespace Txt

/-- The first rune of a list of bytes, and how many of them it takes. -/
def dec (l : List UInt8) : Nat × Nat := Lib.decodeN l.length (l.getD 0 0).toNat (l.getD 1 0).toNat (l.getD 2 0).toNat (l.getD 3 0).toNat

theorem get_drop (s : ByteArray) (i k : Nat) : s.get! (i + k) = (s.data.toList.drop i).getD k 0 := by
  show s.data[i + k]! = _
  rw [List.getD_eq_getElem?_getD, List.getElem?_drop, Array.getElem?_toList, getElem!_def]
  cases s.data[i + k]? <;> rfl
theorem decode_dec (s : ByteArray) (pos : Nat) : Utf8.decode s pos = dec (s.data.toList.drop pos) := by
  rw [Lib.decode_at]
  unfold dec
  rw [show s.get! pos = s.get! (pos + 0) from rfl, get_drop, get_drop, get_drop, get_drop]
  simp

/-- The runes of a list of bytes. -/
def rl : Nat → List UInt8 → List (Int × Nat)
  | 0, _ => []
  | f + 1, l => if l = [] then [] else (((dec l).1 : Int), (dec l).2) :: rl f (l.drop (dec l).2)
def rn (l : List UInt8) : List (Int × Nat) := rl l.length l

theorem rs_rl (s : ByteArray) : ∀ f pos : Nat, rs s f pos = rl f (s.data.toList.drop pos)
  | 0, _ => rfl
  | f + 1, pos => by
    by_cases h : pos < s.size
    · rw [rs_step s f pos h, rs_rl s f]
      have hne : s.data.toList.drop pos ≠ [] := by
        intro e
        have := congrArg List.length e
        simp at this
        omega
      simp only [rl, if_neg hne, ← decode_dec, List.drop_drop]
    · rw [rs_end s _ pos h]
      have he : s.data.toList.drop pos = [] := List.drop_eq_nil_iff.2 (by simp; omega)
      simp [rl, he]
theorem runes_rn (s : ByteArray) : runes s = rn s.data.toList := by
  unfold runes rn
  rw [rs_rl]
  simp

theorem decN_ascii (n b0 b1 b2 b3 : Nat) (h : b0 < 128) : Lib.decodeN n b0 b1 b2 b3 = (b0, 1) := by
  simp [Lib.decodeN, h]
theorem decN_one (b0 b1 b2 b3 n : Nat) (hn : n ≤ 1) (h : ¬ b0 < 128) : Lib.decodeN n b0 b1 b2 b3 = (65533, 1) := by
  have h1 : ¬ 1 < n := by omega
  simp [Lib.decodeN, h, h1]
theorem decN_pos (n b0 b1 b2 b3 : Nat) : 1 ≤ (Lib.decodeN n b0 b1 b2 b3).2 := by
  unfold Lib.decodeN
  repeat' split
  all_goals simp
theorem decN_le (n b0 b1 b2 b3 : Nat) (hn : 1 ≤ n) : (Lib.decodeN n b0 b1 b2 b3).2 ≤ n := by
  unfold Lib.decodeN
  repeat' split
  all_goals simp
  all_goals omega
theorem decN_mono (n n' b0 b1 b2 b3 c1 c2 c3 : Nat) (hn : n' ≤ n) (hp : 1 ≤ n') (h1 : 1 < n' → c1 = b1) (h2 : 2 < n' → c2 = b2) (h3 : 3 < n' → c3 = b3)
    (hk : (Lib.decodeN n b0 b1 b2 b3).2 ≤ n') : Lib.decodeN n' b0 c1 c2 c3 = Lib.decodeN n b0 b1 b2 b3 := by
  by_cases a : b0 < 128
  · rw [decN_ascii _ _ _ _ _ a, decN_ascii _ _ _ _ _ a]
  · unfold Lib.decodeN at hk ⊢
    rw [if_neg a] at hk
    rw [if_neg a, if_neg a]
    by_cases p2 : b0 / 32 = 6
    · have q3 : ¬ b0 / 16 = 14 := by omega
      have q4 : ¬ b0 / 8 = 30 := by omega
      simp only [p2, q3, q4, true_and, false_and, if_false] at hk ⊢
      by_cases k1 : 1 < n'
      · rw [h1 k1]
        simp [k1, show 1 < n by omega]
      · simp only [k1, false_and, if_false]
        split at hk
        · split at hk
          · exfalso; simp at hk; omega
          · rename_i e1 e2
            rw [if_pos e1, if_neg e2]
        · rename_i e1
          rw [if_neg e1]
    · by_cases p3 : b0 / 16 = 14
      · have q4 : ¬ b0 / 8 = 30 := by omega
        simp only [p2, p3, q4, true_and, false_and, if_false] at hk ⊢
        by_cases k2 : 2 < n'
        · rw [h1 (by omega), h2 k2]
          simp [k2, show 1 < n' by omega, show 1 < n by omega, show 2 < n by omega]
        · simp only [k2, false_and, and_false, if_false]
          split at hk
          · split at hk
            · exfalso; simp at hk; omega
            · rename_i e1 e2
              rw [if_pos e1, if_neg e2]
          · rename_i e1
            rw [if_neg e1]
      · by_cases p4 : b0 / 8 = 30
        · simp only [p2, p3, p4, true_and, false_and, if_false] at hk ⊢
          by_cases k3 : 3 < n'
          · rw [h1 (by omega), h2 (by omega), h3 k3]
            simp [k3, show 1 < n' by omega, show 2 < n' by omega, show 1 < n by omega, show 2 < n by omega, show 3 < n by omega]
          · simp only [k3, false_and, and_false, if_false]
            split at hk
            · split at hk
              · exfalso; simp at hk; omega
              · rename_i e1 e2
                rw [if_pos e1, if_neg e2]
            · rename_i e1
              rw [if_neg e1]
        · simp [p2, p3, p4]

theorem dec_pos (l : List UInt8) : 1 ≤ (dec l).2 := decN_pos _ _ _ _ _
theorem dec_le (l : List UInt8) (h : l ≠ []) : (dec l).2 ≤ l.length := decN_le _ _ _ _ _ (by cases l <;> simp_all)
/-- A list that goes on behind its first rune begins with that rune. -/
theorem dec_prefix (a b : List UInt8) (ha : a ≠ []) (h : (dec (a ++ b)).2 ≤ a.length) : dec a = dec (a ++ b) := by
  have hl : 1 ≤ a.length := by cases a <;> simp_all
  have hg : ∀ k, k < a.length → (a ++ b).getD k 0 = a.getD k 0 := by
    intro k hk
    rw [List.getD_eq_getElem?_getD, List.getD_eq_getElem?_getD, List.getElem?_append_left hk]
  unfold dec at h ⊢
  rw [hg 0 (by omega)] at h ⊢
  exact decN_mono _ _ _ _ _ _ _ _ _ (by simp) hl (fun k => by rw [hg 1 k]) (fun k => by rw [hg 2 k]) (fun k => by rw [hg 3 k]) h
end Txt
end Go.Proofs.YtlodmffiengnaaaDoor

/- Plain mathematics on cut texts: what is kept, what is left, blanks behind. No program is named. -/
namespace Go.Proofs.YtlodmffiengnaaaDoor
namespace Txt

theorem rl_nil (f : Nat) : rl f [] = [] := by cases f <;> rfl
theorem rl_cons (f : Nat) (l : List UInt8) (h : l ≠ []) : rl (f + 1) l = (((dec l).1 : Int), (dec l).2) :: rl f (l.drop (dec l).2) := by
  simp [rl, h]
theorem length_pos_of_ne {l : List UInt8} (h : l ≠ []) : 1 ≤ l.length := by cases l <;> simp_all
/-- How many rounds one allows makes no difference, if they are enough. -/
theorem rl_fuel : ∀ (f g : Nat) (l : List UInt8), l.length ≤ f → l.length ≤ g → rl f l = rl g l
  | f, g, [], _, _ => by rw [rl_nil, rl_nil]
  | 0, _, x :: t, hf, _ => by simp at hf
  | _ + 1, 0, x :: t, _, hg => by simp at hg
  | f + 1, g + 1, x :: t, hf, hg => by
    rw [rl_cons f _ (by simp), rl_cons g _ (by simp)]
    have hp := dec_pos (x :: t)
    rw [rl_fuel f g _ (by simp only [List.length_drop]; simp at hf ⊢; omega) (by simp only [List.length_drop]; simp at hg ⊢; omega)]
theorem rn_nil : rn [] = [] := rfl
theorem rn_cons (l : List UInt8) (h : l ≠ []) : rn l = (((dec l).1 : Int), (dec l).2) :: rn (l.drop (dec l).2) := by
  unfold rn
  have h1 := length_pos_of_ne h
  have hp := dec_pos l
  rw [show l.length = (l.length - 1) + 1 from by omega, rl_cons _ _ h]
  rw [rl_fuel (l.length - 1) (l.drop (dec l).2).length _ (by simp only [List.length_drop]; omega) (Nat.le_refl _)]

theorem wideL_append : ∀ a b : List (Int × Nat), wideL (a ++ b) = wideL a + wideL b
  | [], b => by simp [wideL]
  | x :: t, b => by simp only [List.cons_append, wideL, wideL_append t b]; omega

/-- The runes that are kept by a cut, and those that are left. -/
def keepL (n : Int) : List (Int × Nat) → Int → List (Int × Nat)
  | [], _ => []
  | x :: t, w => if n < w + wd x.1 then [] else x :: keepL n t (w + wd x.1)
def leftL (n : Int) : List (Int × Nat) → Int → List (Int × Nat)
  | [], _ => []
  | x :: t, w => if n < w + wd x.1 then x :: t else leftL n t (w + wd x.1)
theorem keep_left (n : Int) : ∀ (l : List (Int × Nat)) (w : Int), keepL n l w ++ leftL n l w = l
  | [], _ => rfl
  | x :: t, w => by
    unfold keepL leftL
    split
    · rfl
    · simp [keep_left n t]
theorem keep_wide (n : Int) : ∀ (l : List (Int × Nat)) (w : Int), w ≤ n → w + wideL (keepL n l w) ≤ n
  | [], w, h => by simpa [keepL, wideL] using h
  | x :: t, w, h => by
    unfold keepL
    split
    · simpa [wideL] using h
    · have := keep_wide n t (w + wd x.1) (by omega)
      simp only [wideL]
      omega
theorem keep_neg (n : Int) (h : n < 0) (l : List (Int × Nat)) : keepL n l 0 = [] ∧ cutL n l 0 = 0 := by
  cases l with
  | nil => exact ⟨rfl, rfl⟩
  | cons x t =>
    have := wd_range x.1
    unfold keepL cutL
    rw [if_pos (by omega), if_pos (by omega)]
    exact ⟨rfl, rfl⟩
theorem keep_again (n : Int) : ∀ (l : List (Int × Nat)) (w : Int), cutL n (keepL n l w) w = cutL n l w
  | [], _ => rfl
  | x :: t, w => by
    unfold keepL
    by_cases h : n < w + wd x.1
    · simp [cutL, h]
    · simp [cutL, h, keep_again n t]
theorem cut_le (n : Int) : ∀ (l : List UInt8) (w : Int), cutL n (rn l) w ≤ l.length := by
  intro l
  generalize hk : l.length = k
  induction k using Nat.strongRecOn generalizing l with
  | ind k ih =>
    intro w
    by_cases hl : l = []
    · subst hl; simp [rn_nil, cutL]
    · have h1 := dec_le l hl
      have h2 := dec_pos l
      rw [rn_cons l hl]
      unfold cutL
      split
      · omega
      · have := ih (l.drop (dec l).2).length (by simp only [List.length_drop]; omega) (l.drop (dec l).2) rfl (w + wd (dec l).1)
        simp only [List.length_drop] at this
        simp only
        omega
/-- A text that is cut has the runes that are kept; the rest has those that are left. -/
theorem cut_runes (n : Int) : ∀ (l : List UInt8) (w : Int), rn (l.take (cutL n (rn l) w)) = keepL n (rn l) w ∧ rn (l.drop (cutL n (rn l) w)) = leftL n (rn l) w := by
  intro l
  generalize hk : l.length = k
  induction k using Nat.strongRecOn generalizing l with
  | ind k ih =>
    intro w
    by_cases hl : l = []
    · subst hl; exact ⟨rfl, rfl⟩
    · have h1 := dec_le l hl
      have h2 := dec_pos l
      rw [rn_cons l hl]
      unfold cutL keepL leftL
      by_cases hn : n < w + wd (dec l).1
      · simp only [hn, if_true]
        refine ⟨by simp [rn_nil], ?_⟩
        rw [List.drop_zero, rn_cons l hl]
      · simp only [hn, if_false]
        have hi := ih (l.drop (dec l).2).length (by simp only [List.length_drop]; omega) (l.drop (dec l).2) rfl (w + wd (dec l).1)
        have hc := cut_le n (l.drop (dec l).2) (w + wd (dec l).1)
        generalize hq : cutL n (rn (l.drop (dec l).2)) (w + wd (dec l).1) = q at *
        have hd : dec (l.take ((dec l).2 + q)) = dec l := by
          have := dec_prefix (l.take ((dec l).2 + q)) (l.drop ((dec l).2 + q)) (by
            intro e
            have := congrArg List.length e
            simp only [List.length_take, List.length_nil] at this
            have := length_pos_of_ne hl
            omega) (by rw [List.take_append_drop]; simp only [List.length_take]; omega)
          rwa [List.take_append_drop] at this
        have hne : l.take ((dec l).2 + q) ≠ [] := by
          intro e
          have := congrArg List.length e
          simp only [List.length_take, List.length_nil] at this
          have := length_pos_of_ne hl
          omega
        constructor
        · rw [rn_cons _ hne, hd, ← hi.1, List.drop_take]
          rw [show (dec l).2 + q - (dec l).2 = q from by omega]
        · rw [← hi.2, List.drop_drop]

/-- Cutting twice is cutting once. -/
theorem cut_again (n : Int) (l : List UInt8) : (l.take (cutL n (rn l) 0)).take (cutL n (rn (l.take (cutL n (rn l) 0))) 0) = l.take (cutL n (rn l) 0) := by
  rw [(cut_runes n l 0).1, keep_again, List.take_take, Nat.min_self]

/-- Bytes below 128 behind a text: its last rune stays as it is. -/
theorem decN_behind (n m b0 b1 b2 b3 c1 c2 c3 : Nat) (hn : n ≤ m) (hp : 1 ≤ n) (h1 : 1 < n → c1 = b1) (h2 : 2 < n → c2 = b2) (h3 : 3 < n → c3 = b3)
    (g1 : ¬ 1 < n → c1 < 128) (g2 : ¬ 2 < n → c2 < 128) (g3 : ¬ 3 < n → c3 < 128) : Lib.decodeN m b0 c1 c2 c3 = Lib.decodeN n b0 b1 b2 b3 := by
  unfold Lib.decodeN
  by_cases a : b0 < 128
  · simp [a]
  · simp only [if_neg a]
    by_cases k1 : 1 < n
    · rw [h1 k1]
      by_cases k2 : 2 < n
      · rw [h2 k2]
        by_cases k3 : 3 < n
        · rw [h3 k3]
          simp only [k1, k2, k3, show 1 < m by omega, show 2 < m by omega, show 3 < m by omega]
        · have e3 : ¬ c3 / 64 = 2 := by have := g3 k3; omega
          simp only [k1, k2, k3, show 1 < m by omega, show 2 < m by omega, e3, false_and, and_false, if_false]
      · have e2 : ¬ c2 / 64 = 2 := by have := g2 k2; omega
        have k3 : ¬ 3 < n := by omega
        simp only [k1, k2, k3, show 1 < m by omega, e2, false_and, and_false, if_false]
    · have e1 : ¬ c1 / 64 = 2 := by have := g1 k1; omega
      have k2 : ¬ 2 < n := by omega
      have k3 : ¬ 3 < n := by omega
      simp only [k1, k2, k3, e1, false_and, and_false, if_false]
theorem dec_behind (a b : List UInt8) (ha : a ≠ []) (hb : ∀ x ∈ b, x.toNat < 128) : dec (a ++ b) = dec a := by
  have hl := length_pos_of_ne ha
  have hg : ∀ k, k < a.length → (a ++ b).getD k 0 = a.getD k 0 := by
    intro k hk
    rw [List.getD_eq_getElem?_getD, List.getD_eq_getElem?_getD, List.getElem?_append_left hk]
  have hs : ∀ k, ¬ k < a.length → ((a ++ b).getD k 0).toNat < 128 := by
    intro k hk
    rw [List.getD_eq_getElem?_getD, List.getElem?_append_right (by omega)]
    cases hq : b[k - a.length]? with
    | none => simp
    | some x => exact hb x (List.mem_of_getElem? hq)
  unfold dec
  rw [hg 0 (by omega)]
  exact decN_behind _ _ _ _ _ _ _ _ _ (by simp) hl (fun k => by rw [hg 1 k]) (fun k => by rw [hg 2 k]) (fun k => by rw [hg 3 k]) (hs 1) (hs 2) (hs 3)
theorem rn_behind : ∀ (a b : List UInt8), (∀ x ∈ b, x.toNat < 128) → rn (a ++ b) = rn a ++ rn b := by
  intro a
  generalize hk : a.length = k
  induction k using Nat.strongRecOn generalizing a with
  | ind k ih =>
    intro b hb
    by_cases ha : a = []
    · subst ha; simp [rn_nil]
    · have h1 := dec_le a ha
      have h2 := dec_pos a
      rw [rn_cons (a ++ b) (by simp [ha]), dec_behind a b ha hb, List.drop_append_of_le_length h1, rn_cons a ha]
      rw [ih (a.drop (dec a).2).length (by simp only [List.length_drop]; omega) (a.drop (dec a).2) rfl b hb]
      rfl
theorem rn_blank (k : Nat) : rn (List.replicate k 32) = List.replicate k (32, 1) := by
  induction k with
  | zero => rfl
  | succ k ih =>
    rw [List.replicate_succ, rn_cons _ (by simp)]
    have hd : dec (32 :: List.replicate k 32) = (32, 1) := by
      unfold dec
      rw [decN_ascii _ _ _ _ _ (by simp)]
      rfl
    rw [hd, List.replicate_succ]
    simp only [List.drop_succ_cons, List.drop_zero, ih]
    rfl
theorem wide_blank : ∀ k : Nat, wideL (List.replicate k ((32 : Int), 1)) = k
  | 0 => rfl
  | k + 1 => by
    rw [List.replicate_succ]
    simp only [wideL, wide_blank k]
    rw [show wd 32 = 1 from by decide]
    omega

/-- A text that is cut, then filled with blanks. -/
def fitL (l : List UInt8) (n : Int) : List UInt8 := l.take (cutL n (rn l) 0) ++ List.replicate (n - wideL (rn (l.take (cutL n (rn l) 0)))).toNat 32
theorem cut_wide (n : Int) (h : 0 ≤ n) (l : List UInt8) : 0 ≤ wideL (rn (l.take (cutL n (rn l) 0))) ∧ wideL (rn (l.take (cutL n (rn l) 0))) ≤ n := by
  rw [(cut_runes n l 0).1]
  have := keep_wide n (rn l) 0 h
  have := wideL_range (keepL n (rn l) 0)
  omega
theorem fit_wide (n : Int) (h : 0 ≤ n) (l : List UInt8) : wideL (rn (fitL l n)) = n := by
  unfold fitL
  rw [rn_behind _ _ (by intro x hx; rw [List.eq_of_mem_replicate hx]; decide), wideL_append, rn_blank, wide_blank]
  have := cut_wide n h l
  omega
/-- What fits wholly is not cut. -/
theorem cut_all (n : Int) : ∀ (l : List UInt8) (w : Int), w + wideL (rn l) ≤ n → cutL n (rn l) w = l.length := by
  intro l
  generalize hk : l.length = k
  induction k using Nat.strongRecOn generalizing l with
  | ind k ih =>
    intro w hw
    by_cases hl : l = []
    · subst hl; simp at hk; simp [rn_nil, cutL, hk]
    · have h1 := dec_le l hl
      have h2 := dec_pos l
      rw [rn_cons l hl] at hw ⊢
      simp only [wideL] at hw
      have hr := wideL_range (rn (l.drop (dec l).2))
      unfold cutL
      rw [if_neg (by simp only; omega)]
      have := ih (l.drop (dec l).2).length (by simp only [List.length_drop]; omega) (l.drop (dec l).2) rfl (w + wd (dec l).1) (by omega)
      simp only [List.length_drop] at this
      simp only
      omega
theorem fit_again (n : Int) (h : 0 ≤ n) (l : List UInt8) : (fitL l n).take (cutL n (rn (fitL l n)) 0) = fitL l n := by
  rw [cut_all n (fitL l n) 0 (by rw [fit_wide n h l]; omega), List.take_length]
theorem cut_parts (n : Int) (l : List UInt8) : wideL (rn (l.take (cutL n (rn l) 0))) + wideL (rn (l.drop (cutL n (rn l) 0))) = wideL (rn l) := by
  rw [(cut_runes n l 0).1, (cut_runes n l 0).2, ← wideL_append, keep_left]
theorem cut_small (n : Int) (l : List UInt8) : n < 0 ∨ wideL (rn (l.take (cutL n (rn l) 0))) ≤ n := by
  by_cases h : n < 0
  · exact Or.inl h
  · exact Or.inr (cut_wide n (by omega) l).2
end Txt
end Go.Proofs.YtlodmffiengnaaaDoor

/- The walks of text.Cut, text.Wide and text.Fit, said of lists of bytes; and of trellislaw.written. -/
namespace Go.Proofs.YtlodmffiengnaaaDoor
open Go.ChangeShapes Go.WideShapes Go.ChangeAt Go.RowKit
namespace Txt
def cutB (l : List UInt8) (n : Int) : List UInt8 := l.take (cutL n (rn l) 0)
def wideB (l : List UInt8) : Int := wideL (rn l)
def fitB (l : List UInt8) (n : Int) : List UInt8 := if n < 0 ∨ 120 < n then [] else fitL l n
def bs (l : List UInt8) : ByteArray := ⟨l.toArray⟩
theorem bs_size (l : List UInt8) : (bs l).size = l.length := by simp [bs, ByteArray.size]
theorem bs_data (l : List UInt8) : (bs l).data.toList = l := by simp [bs]
theorem bs_self (s : ByteArray) : bs s.data.toList = s := by cases s; simp [bs]
theorem bs_append (a b : List UInt8) : bs a ++ bs b = bs (a ++ b) := by
  apply ByteArray.ext
  simp [bs]
theorem cutB_length (l : List UInt8) (n : Int) : (cutB l n).length ≤ l.length := by simp [cutB]; omega

theorem wide_b (l : List UInt8) (w : World) (hT : Tab w) (hs : l.length ≤ 281474976710656) :
    Calls Tryd.prog 49 #[.string (bs l)] w fun e w' => e = .returned (.int .i64 (wideB l)) ∧ Below w.heap.size w w' := by
  refine (wide_any (bs l) w hT (by rw [bs_size]; exact hs)).mono fun e w' ⟨he, hb⟩ => ⟨?_, hb⟩
  rw [he]; unfold wideS; rw [runes_rn, bs_data]; rfl
end Txt
end Go.Proofs.YtlodmffiengnaaaDoor

/- The table of spans as the row lists it: its cells. -/
namespace Go.Proofs.YtlodmffiengnaaaDoor
open Go.ChangeShapes Go.WideShapes Go.ChangeAt Go.RowKit
namespace Txt
theorem slices3 : ∀ (l : List (Int × Int × Int)) (cs : List Value), cs.length = 3 * l.length → (∀ i x, l[i]? = some x → (cs.drop (i * 3)).take 3 = cell3 x) → cs = l.flatMap cell3
  | [], cs, hl, _ => by simpa using hl
  | x :: t, cs, hl, h => by
    have h0 := h 0 x rfl
    have ht := slices3 t (cs.drop 3) (by simp only [List.length_drop, List.length_cons] at hl ⊢; omega) (fun i y hy => by
      have := h (i + 1) y (by simpa using hy)
      rw [List.drop_drop]
      rwa [show 3 + i * 3 = (i + 1) * 3 from by omega])
    simp only [Nat.zero_mul, List.drop_zero] at h0
    rw [List.flatMap_cons, ← ht, ← h0, List.take_append_drop]
theorem laid_eq {H : Type} : (Rows.laid_trellis_text_spans : DataW H) = .agg (spans.map fun x => .agg [.lit (.int .i32 x.1), .lit (.int .i32 x.2.1), .lit (.int .i64 x.2.2)]) := rfl
theorem tab_of_reads {w : World} (h : Lib.VarReads Tryd.prog w "trellis/text.spans" Rows.laid_trellis_text_spans) : Tab w := by
  obtain ⟨g, t, cs, fuel, p, hg, hty, hvar, hd⟩ := h
  obtain rfl := Option.some.inj ((show Tryd.prog.globalNamed "trellis/text.spans" = some 0 by kernel_rfl).symm.trans hg)
  obtain rfl := Option.some.inj ((show (Tryd.prog.globals[0]?).map (fun x => x.type) = some 101 by kernel_rfl).symm.trans hty)
  have hlen : cs.toList.length = 63 := by
    obtain ⟨xs, m, _, _, hl, _, _⟩ := DataW.trod_array Tryd.underlying101 hd
    rw [hl]; kernel_rfl
  rw [laid_eq] at hd
  have hcs : cs.toList = spans.flatMap cell3 := by
    refine slices3 spans cs.toList (by rw [hlen]; rfl) (fun i x hx => ?_)
    have hi : i < 21 := (List.getElem?_eq_some_iff.1 hx).1
    obtain ⟨fuel', d, q, hdi, he⟩ := Lib.array_elem Tryd.underlying101 hd i hi
    rw [List.getElem?_map, hx] at hdi
    obtain rfl := Option.some.inj hdi
    rw [show Tryd.prog.cellsOf 100 = 3 by kernel_rfl] at he
    obtain ⟨y0, y1, y2, n, hy, hl, e0, e1, e2⟩ := Deep.trod_struct3 Tryd.underlying100 he
    rw [show Tryd.prog.cellsOf 100 = 3 by kernel_rfl] at hl
    generalize (cs.toList.drop (i * 3)).take 3 = c3 at *
    simp only [Prod.mk.injEq, DataW.agg.injEq, List.cons.injEq, and_true] at hy
    obtain ⟨⟨g0, g1, g2⟩, _⟩ := hy
    simp only [show Tryd.prog.cellsOf 21 = 1 by kernel_rfl, show Tryd.prog.cellsOf 3 = 1 by kernel_rfl] at e0 e1 e2
    obtain ⟨z0, k0, rfl, _⟩ := DataW.trod_int Tryd.underlying21 e0
    obtain ⟨z1, k1, rfl, _⟩ := DataW.trod_int Tryd.underlying21 e1
    obtain ⟨z2, k2, rfl, _⟩ := DataW.trod_int Tryd.underlying3 e2
    match c3, hl with
    | [a, b, c], _ =>
      simp at k0 k1 k2 g0 g1 g2
      subst k0 k1 k2 g0 g1 g2
      rfl
  unfold World.var? at hvar
  rw [hg] at hvar
  simp only [Option.bind_some] at hvar
  split at hvar
  · rename_i c tt fr hh
    obtain rfl := Option.some.inj hvar
    have hc : c = spanCells := by unfold spanCells; rw [← hcs]
    exact ⟨tt, fr, by rw [hh, hc]⟩
  · cases hvar
end Txt
end Go.Proofs.YtlodmffiengnaaaDoor
