/- Plain mathematics on the widths of runes: the same width by spans and by edges. It imports nothing of the program. -/
import Derived.WalkKit
namespace Go.Proofs.YtbhoklhcdefabaaDoor
namespace Txt

/-- The spans of package text: first, last, width. -/
def spans : List (Int × Int × Int) := [(0x0, 0x1F, 0), (0x7F, 0x9F, 0), (0x300, 0x36F, 0), (0x1100, 0x115F, 2), (0x200B, 0x200F, 0), (0x2028, 0x202E, 0), (0x20D0, 0x20FF, 0), (0x2E80, 0x303E, 2), (0x3041, 0x4DBF, 2), (0x4E00, 0xA4CF, 2), (0xAC00, 0xD7A3, 2), (0xD800, 0xDFFF, 0), (0xF900, 0xFAFF, 2), (0xFE00, 0xFE0F, 0), (0xFE30, 0xFE6F, 2), (0xFEFF, 0xFEFF, 0), (0xFF00, 0xFF60, 2), (0xFFE0, 0xFFE6, 2), (0x1F300, 0x1F64F, 2), (0x1F900, 0x1F9FF, 2), (0x20000, 0x3FFFD, 2)]
/-- The edges at which the width changes: from, width. -/
def edges : List (Int × Int) := [(0, 0), (0x20, 1), (0x7f, 0), (0xa0, 1), (0x300, 0), (0x370, 1), (0x1100, 2), (0x1160, 1), (0x200b, 0), (0x2010, 1), (0x2028, 0), (0x202f, 1), (0x20d0, 0), (0x2100, 1), (0x2e80, 2), (0x303f, 1), (0x3041, 2), (0x4dc0, 1), (0x4e00, 2), (0xa4d0, 1), (0xac00, 2), (0xd7a4, 1), (0xd800, 0), (0xe000, 1), (0xf900, 2), (0xfb00, 1), (0xfe00, 0), (0xfe10, 1), (0xfe30, 2), (0xfe70, 1), (0xfeff, 0), (0xff00, 2), (0xff61, 1), (0xffe0, 2), (0xffe7, 1), (0x1f300, 2), (0x1f650, 1), (0x1f900, 2), (0x1fa00, 1), (0x20000, 2), (0x3fffe, 1)]

def look : List (Int × Int × Int) → Int → Int
  | [], _ => 1
  | x :: t, r => if r < x.1 then 1 else if r ≤ x.2.1 then x.2.2 else look t r
def edge (r : Int) : List (Int × Int) → Int → Int
  | [], acc => acc
  | x :: t, acc => edge r t (if x.1 ≤ r then x.2 else acc)
/-- The width of a rune. -/
def wd (r : Int) : Int := if r < 0 ∨ 1114111 < r then 0 else look spans r

/-- Edges that rise: one may stop at the first that is beyond r. -/
def edgeE (r : Int) : List (Int × Int) → Int → Int
  | [], acc => acc
  | x :: t, acc => if r < x.1 then acc else edgeE r t x.2
def rising : List (Int × Int) → Bool
  | [] => true
  | [_] => true
  | x :: y :: t => decide (x.1 < y.1) && rising (y :: t)
theorem edge_beyond (r : Int) : ∀ (l : List (Int × Int)) (acc : Int), rising l = true → (∀ x ∈ l.head?, r < x.1) → edge r l acc = acc
  | [], _, _, _ => rfl
  | [x], acc, _, h => by
    have hx : r < x.1 := h x rfl
    simp only [edge, if_neg (show ¬ x.1 ≤ r by omega)]
  | x :: y :: t, acc, hr, h => by
    have hx : r < x.1 := h x rfl
    simp only [rising, Bool.and_eq_true, decide_eq_true_eq] at hr
    unfold edge
    rw [if_neg (show ¬ x.1 ≤ r by omega)]
    exact edge_beyond r (y :: t) acc hr.2 (fun z hz => by obtain rfl := Option.some.inj hz; omega)
theorem edge_eq (r : Int) : ∀ (l : List (Int × Int)) (acc : Int), rising l = true → edge r l acc = edgeE r l acc
  | [], _, _ => rfl
  | x :: t, acc, hr => by
    have ht : rising t = true := by
      cases t with
      | nil => rfl
      | cons y t => simp only [rising, Bool.and_eq_true] at hr; exact hr.2
    by_cases h : r < x.1
    · rw [edge_beyond r (x :: t) acc hr (fun z hz => by obtain rfl := Option.some.inj hz; exact h)]
      simp [edgeE, h]
    · unfold edge edgeE
      rw [if_neg h, if_pos (show x.1 ≤ r by omega)]
      exact edge_eq r t x.2 ht
theorem look_step (r a b b' c : Int) (hb : b' = b + 1) (t : List (Int × Int × Int)) (u : List (Int × Int)) (ht : b < r → look t r = edgeE r u 1) :
    look ((a, b, c) :: t) r = edgeE r ((a, c) :: (b', 1) :: u) 1 := by
  subst hb
  simp only [look, edgeE]
  by_cases h1 : r < a
  · simp [h1]
  · by_cases h2 : r ≤ b
    · simp [h1, h2, show r < b + 1 by omega]
    · simp only [if_neg h1, if_neg h2, if_neg (show ¬ r < b + 1 by omega)]
      exact ht (by omega)
theorem merge_edge (r a b c a' : Int) (u : List (Int × Int)) : edgeE r ((a, c) :: (b, 1) :: (b, a') :: u) 1 = edgeE r ((a, c) :: (b, a') :: u) 1 := by
  simp only [edgeE]
  by_cases h1 : r < a <;> by_cases h2 : r < b <;> simp [h1, h2]
theorem look_edges (r : Int) (h0 : 0 ≤ r) : look spans r = edge r edges 0 := by
  rw [edge_eq r edges 0 (by decide)]
  have e0 : edgeE r edges 0 = edgeE r edges 1 := by
    unfold edges
    conv => lhs; unfold edgeE
    conv => rhs; unfold edgeE
    rw [if_neg (by show ¬ r < 0; omega), if_neg (by show ¬ r < 0; omega)]
  rw [e0]
  unfold spans edges
  iterate 15 (refine look_step _ _ _ _ _ (by decide) _ _ (fun _ => ?_))
  rw [← merge_edge]
  iterate 6 (refine look_step _ _ _ _ _ (by decide) _ _ (fun _ => ?_))
  rfl
theorem wd_edge (r : Int) (h0 : 0 ≤ r) (h1 : r ≤ 1114111) : wd r = edge r edges 0 := by
  unfold wd
  rw [if_neg (by omega)]
  exact look_edges r h0
theorem look_range (r : Int) : ∀ l : List (Int × Int × Int), (∀ x ∈ l, 0 ≤ x.2.2 ∧ x.2.2 ≤ 2) → 0 ≤ look l r ∧ look l r ≤ 2
  | [], _ => by simp [look]
  | x :: t, h => by
    have hx := h x (by simp)
    have ht := look_range r t (fun y hy => h y (by simp [hy]))
    unfold look
    split
    · omega
    · split <;> omega
theorem wd_range (r : Int) : 0 ≤ wd r ∧ wd r ≤ 2 := by
  unfold wd
  split
  · omega
  · exact look_range r spans (by decide)
end Txt
end Go.Proofs.YtbhoklhcdefabaaDoor
