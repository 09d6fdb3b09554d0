/- Plain mathematics of rows that move. -/
import Derived.Test.YthokeflechajlaaDoorPartM
import Derived.Test.YthokeflechajlaaDoorPartH
import Derived.Test.YthokeflechajlaaDoorPartL
import Derived.Test.YthokeflechajlaaDoorPartJ
import Derived.Test.YthokeflechajlaaDoorPartG
import Derived.Deep.MidRow
namespace Go.Proofs.YthokeflechajlaaDoor
namespace Put
open Grd (C)
theorem replR_up (rows : List (List C)) (n : Nat) (bk : Int) (top bot : Nat) (htb : top ≤ bot) (hb : bot < rows.length) (y : Nat) :
    (replR rows n bk top bot).getD y [] = if y < top then rows.getD y [] else if y < bot then rows.getD (y + 1) [] else if y = bot then List.replicate n (32, 0, bk, 0) else rows.getD y [] := by
  have hl : (rows.eraseIdx top).length = rows.length - 1 := List.length_eraseIdx_of_lt (by omega)
  unfold replR
  rw [getD_insert _ _ _ _ _ (by omega)]
  by_cases h1 : y < top
  · rw [if_pos h1, if_pos (by omega), getD_erase, if_pos h1]
  · rw [if_neg h1]
    by_cases h2 : y < bot
    · rw [if_pos h2, if_pos h2, getD_erase, if_neg h1]
    · rw [if_neg h2, if_neg h2]
      by_cases h3 : y = bot
      · rw [if_pos h3, if_pos h3]
      · rw [if_neg h3, if_neg h3, getD_erase, if_neg (by omega), show y - 1 + 1 = y by omega]
theorem replR_down (rows : List (List C)) (n : Nat) (bk : Int) (top bot : Nat) (htb : top ≤ bot) (hb : bot < rows.length) (y : Nat) :
    (replR rows n bk bot top).getD y [] = if y < top then rows.getD y [] else if y = top then List.replicate n (32, 0, bk, 0) else if y ≤ bot then rows.getD (y - 1) [] else rows.getD y [] := by
  have hl : (rows.eraseIdx bot).length = rows.length - 1 := List.length_eraseIdx_of_lt (by omega)
  unfold replR
  rw [getD_insert _ _ _ _ _ (by omega)]
  by_cases h1 : y < top
  · rw [if_pos h1, if_pos h1, getD_erase, if_pos (by omega)]
  · rw [if_neg h1, if_neg h1]
    by_cases h2 : y = top
    · rw [if_pos h2, if_pos h2]
    · rw [if_neg h2, if_neg h2, getD_erase]
      by_cases h3 : y ≤ bot
      · rw [if_pos h3, if_pos (by omega)]
      · rw [if_neg h3, if_neg (by omega), show y - 1 + 1 = y by omega]
theorem rUp_rows (n top bot : Nat) (keep : Bool) (x : Scr × List (List C)) : (rUp n top bot keep x).2 = replR x.2 n x.1.sb top bot := rfl
theorem rDn_rows (n top bot : Nat) (x : Scr × List (List C)) : (rDn n top bot x).2 = replR x.2 n x.1.sb bot top := rfl
theorem iterUp_len (n top bot : Nat) (keep : Bool) (htb : top ≤ bot) (x : Scr × List (List C)) (hb : bot < x.2.length) : ∀ k, (iterN (rUp n top bot keep) k x).2.length = x.2.length
  | 0 => rfl
  | k + 1 => by
    have ih := iterUp_len n top bot keep htb x hb k
    show (rUp n top bot keep (iterN (rUp n top bot keep) k x)).2.length = _
    rw [rUp_rows, replR_len _ _ _ _ _ (by omega) (by omega), ih]
theorem iterDn_len (n top bot : Nat) (htb : top ≤ bot) (x : Scr × List (List C)) (hb : bot < x.2.length) : ∀ k, (iterN (rDn n top bot) k x).2.length = x.2.length
  | 0 => rfl
  | k + 1 => by
    have ih := iterDn_len n top bot htb x hb k
    show (rDn n top bot (iterN (rDn n top bot) k x)).2.length = _
    rw [rDn_rows, replR_len _ _ _ _ _ (by omega) (by omega), ih]
/-- Rows outside those that scroll stay. -/
theorem iterUp_out (n top bot : Nat) (keep : Bool) (htb : top ≤ bot) (x : Scr × List (List C)) (hb : bot < x.2.length) (y : Nat) (hy : y < top ∨ bot < y) : ∀ k, (iterN (rUp n top bot keep) k x).2.getD y [] = x.2.getD y []
  | 0 => rfl
  | k + 1 => by
    have ih := iterUp_out n top bot keep htb x hb y hy k
    have hl := iterUp_len n top bot keep htb x hb k
    show (rUp n top bot keep (iterN (rUp n top bot keep) k x)).2.getD y [] = _
    rw [rUp_rows, replR_up _ _ _ _ _ htb (by omega), ih]
    by_cases h1 : y < top
    · rw [if_pos h1]
    · rw [if_neg h1, if_neg (by omega), if_neg (by omega)]
theorem iterDn_out (n top bot : Nat) (htb : top ≤ bot) (x : Scr × List (List C)) (hb : bot < x.2.length) (y : Nat) (hy : y < top ∨ bot < y) : ∀ k, (iterN (rDn n top bot) k x).2.getD y [] = x.2.getD y []
  | 0 => rfl
  | k + 1 => by
    have ih := iterDn_out n top bot htb x hb y hy k
    have hl := iterDn_len n top bot htb x hb k
    show (rDn n top bot (iterN (rDn n top bot) k x)).2.getD y [] = _
    rw [rDn_rows, replR_down _ _ _ _ _ htb (by omega), ih]
    by_cases h1 : y < top
    · rw [if_pos h1]
    · rw [if_neg h1, if_neg (by omega), if_neg (by omega)]
/-- What moved up k times. -/
theorem iterUp_in (n top bot : Nat) (keep : Bool) (htb : top ≤ bot) (x : Scr × List (List C)) (hb : bot < x.2.length) : ∀ k y, top ≤ y → y + k ≤ bot → (iterN (rUp n top bot keep) k x).2.getD y [] = x.2.getD (y + k) []
  | 0, y, _, _ => rfl
  | k + 1, y, h1, h2 => by
    have ih := iterUp_in n top bot keep htb x hb k (y + 1) (by omega) (by omega)
    have hl := iterUp_len n top bot keep htb x hb k
    show (rUp n top bot keep (iterN (rUp n top bot keep) k x)).2.getD y [] = _
    rw [rUp_rows, replR_up _ _ _ _ _ htb (by omega), if_neg (by omega), if_pos (by omega), ih]
    congr 1
    omega
/-- What moved down k times. -/
theorem iterDn_in (n top bot : Nat) (htb : top ≤ bot) (x : Scr × List (List C)) (hb : bot < x.2.length) : ∀ k y, top + k ≤ y → y ≤ bot → (iterN (rDn n top bot) k x).2.getD y [] = x.2.getD (y - k) []
  | 0, y, _, _ => rfl
  | k + 1, y, h1, h2 => by
    have ih := iterDn_in n top bot htb x hb k (y - 1) (by omega) (by omega)
    have hl := iterDn_len n top bot htb x hb k
    show (rDn n top bot (iterN (rDn n top bot) k x)).2.getD y [] = _
    rw [rDn_rows, replR_down _ _ _ _ _ htb (by omega), if_neg (by omega), if_neg (by omega), if_pos (by omega), ih]
    congr 1
    omega
/-- The last fifty. -/
def last50 (l : List (List C)) : List (List C) := l.drop (l.length - 50)
theorem last50_len (l : List (List C)) : (last50 l).length ≤ 50 := by
  unfold last50
  rw [List.length_drop]
  omega
theorem last50_short (l : List (List C)) (h : l.length ≤ 50) : last50 l = l := by
  unfold last50
  rw [show l.length - 50 = 0 by omega]
  rfl
theorem keepG_last (g : List (List C)) (row : List C) (h : g.length ≤ 50) : keepG g row = last50 (g ++ [row]) := by
  unfold keepG
  by_cases hl : g.length < 50
  · rw [if_pos hl, last50_short _ (by simp; omega)]
  · rw [if_neg hl]
    unfold last50
    rw [List.length_append, List.length_singleton, show g.length + 1 - 50 = 1 by omega, List.eraseIdx_zero, List.drop_one]
theorem last50_push (l : List (List C)) (row : List C) : last50 (last50 l ++ [row]) = last50 (l ++ [row]) := by
  by_cases h : l.length ≤ 50
  · rw [last50_short l h]
  · have e : (last50 l).length = 50 := by unfold last50; rw [List.length_drop]; omega
    have e1 : last50 (last50 l ++ [row]) = (last50 l ++ [row]).drop 1 := by
      show (last50 l ++ [row]).drop ((last50 l ++ [row]).length - 50) = _
      rw [List.length_append, List.length_singleton, e]
    rw [e1]
    unfold last50
    rw [List.drop_append_of_le_length (by rw [List.length_drop]; omega), List.drop_drop, List.length_append, List.length_singleton, List.drop_append_of_le_length (by omega)]
    congr 2
    omega
/-- What is gone behind k rows that moved up from the first one on. -/
theorem iterUp_gone (n bot : Nat) (x : Scr × List (List C)) (hb : bot < x.2.length) (hg : x.1.gone.length ≤ 50) : ∀ k, k ≤ bot + 1 → (iterN (rUp n 0 bot true) k x).1.gone = last50 (x.1.gone ++ x.2.take k)
  | 0, _ => by
    show x.1.gone = _
    rw [List.take_zero, List.append_nil, last50_short _ hg]
  | k + 1, hk => by
    have ih := iterUp_gone n bot x hb hg k (by omega)
    have hl := iterUp_len n 0 bot true (by omega) x hb k
    have hr : (iterN (rUp n 0 bot true) k x).2.getD 0 [] = x.2.getD k [] := by
      have := iterUp_in n 0 bot true (by omega) x hb k 0 (Nat.le_refl _) (by omega)
      rwa [Nat.zero_add] at this
    show (rUp n 0 bot true (iterN (rUp n 0 bot true) k x)).1.gone = _
    have e : (rUp n 0 bot true (iterN (rUp n 0 bot true) k x)).1.gone = keepG (iterN (rUp n 0 bot true) k x).1.gone ((iterN (rUp n 0 bot true) k x).2.getD 0 []) := by
      unfold rUp
      rw [if_pos ⟨rfl, rfl⟩]
    have e2 : x.2.take (k + 1) = x.2.take k ++ [x.2.getD k []] := by
      have hk' : k < x.2.length := by omega
      rw [List.take_succ_eq_append_getElem hk']
      simp [List.getD, hk']
    rw [e, hr, keepG_last _ _ (by rw [ih]; exact last50_len _), ih, last50_push, e2, List.append_assoc]
end Put
end Go.Proofs.YthokeflechajlaaDoor

/- What is kept of rows that went. -/
namespace Go.Proofs.YthokeflechajlaaDoor
open Go.ChangeShapes Go.WideShapes Go.ChangeAt Go.RowKit
namespace Put
open Grd (C)
theorem keepG_mem {g : List (List C)} {row r : List C} (h : r ∈ keepG g row) : r ∈ g ∨ r = row := by
  unfold keepG at h
  split at h
  · simpa using h
  · simpa using List.mem_of_mem_eraseIdx h
theorem keepG_rows {s : Scr} {n hh : Nat} (hR : RightS s n hh) (row : List C) (hr : row.length = n) : ∀ r, r ∈ keepG s.gone row → r.length ≤ 120 := by
  intro r hm
  rcases keepG_mem hm with h | h
  · have := (grid_size (hR.gr r h)).2.1
    omega
  · have := hR.n2
    rw [h, hr]
    omega
theorem rows_le {l : List (List C)} (h : ∀ r, r ∈ l → r.length ≤ 120) (i : Nat) (hi : i < l.length) : (l.getD i []).length ≤ 1048576 := by
  have e : l.getD i [] = l[i] := by simp [List.getD, hi]
  rw [e]
  have := h _ (List.getElem_mem hi)
  omega
theorem gone_le120 {s : Scr} {n hh : Nat} (hR : RightS s n hh) : ∀ r, r ∈ s.gone → r.length ≤ 120 := fun r hr => by
  have := (grid_size (hR.gr r hr)).2.1
  omega
end Put
end Go.Proofs.YthokeflechajlaaDoor

/- Rows that move leave a right screen right. -/
namespace Go.Proofs.YthokeflechajlaaDoor
open Go.ChangeShapes Go.WideShapes Go.ChangeAt Go.RowKit
namespace Put
open Grd (C SliceAt CellsAt gridErr z0 nilV flat rowsL RightRow wd32)
open Sty (isSt)
/-- Rows that are right ones, so wide. -/
def RowsRt (n : Nat) (rows : List (List C)) : Prop := ∀ i, i < rows.length → (rows.getD i []).length = n ∧ RightRow (rows.getD i [])
theorem rowsRt_of {s : Scr} {n hh : Nat} (h : RightS s n hh) : RowsRt n (rowsL n s.cs hh) := fun i hi => by
  rw [Grd.rowsL_len] at hi
  have e2 : (rowsL n s.cs hh).getD i [] = Grd.rowAt n s.cs i := by simp [rowsL, List.getD, hi]
  rw [e2]
  exact ⟨Grd.row_len n hh s.cs i h.cl hi, ((Grd.gridErr_zero n hh s.cs).1 h.gz).2.2 i hi⟩
theorem roll_style {s : Scr} {n hh : Nat} (h : RightS s n hh) : isSt (0, s.sb, 0) = true := by
  have h1 := h.looks
  simp only [looksOk, Bool.and_eq_true] at h1
  have h2 := h1.1
  simp only [isSt, decide_eq_true_eq] at h2 ⊢
  omega
theorem roll_ext {a b : List (List C)} (hl : a.length = b.length) (h : ∀ i, i < a.length → a.getD i [] = b.getD i []) : a = b := by
  apply List.ext_getElem hl
  intro i h1 h2
  have := h i h1
  simpa [List.getD, h1, h2] using this
theorem roll_one (n : Nat) (row : List C) (hn1 : 1 ≤ n) (hn2 : n ≤ 120) (hl : row.length = n) (hr : RightRow row) : gridErr n 1 row = 0 := by
  refine (Grd.gridErr_zero n 1 row).2 ⟨?_, by omega, fun y hy => ?_⟩
  · simp [Grd.isSize]
    omega
  · have e : y = 0 := by omega
    subst e
    have e2 : Grd.rowAt n row 0 = row := by
      unfold Grd.rowAt
      rw [Nat.zero_mul, List.drop_zero, List.take_of_length_le (by omega)]
    rw [e2]
    exact hr
theorem roll_rowAt (n : Nat) (rows : List (List C)) (hr : ∀ i, i < rows.length → (rows.getD i []).length = n) (i : Nat) (hi : i < rows.length) : Grd.rowAt n rows.flatten i = rows.getD i [] := by
  have h1 := Grd.flatten_len n rows hr i (by omega)
  have h2 : rows.flatten = (rows.take i).flatten ++ (rows.drop i).flatten := by rw [← List.flatten_append, List.take_append_drop]
  have h3 : rows.getD i [] = rows[i] := by simp [List.getD, hi]
  have h4 := hr i hi
  rw [h3] at h4
  unfold Grd.rowAt
  rw [h2, List.drop_left' h1, List.drop_eq_getElem_cons hi, List.flatten_cons, List.take_left' h4, h3]
theorem roll_blank (n : Nat) (bk : Int) (hs : isSt (0, bk, 0) = true) : RightRow (List.replicate n ((32, 0, bk, 0) : C)) := by
  have hg : ∀ x, x < n → (List.replicate n ((32, 0, bk, 0) : C)).getD x z0 = (32, 0, bk, 0) := fun x hx => by simp [List.getD, hx]
  refine ⟨fun x hx => ?_, fun x hx => ?_⟩
  · rw [List.length_replicate] at hx
    rw [hg x hx]
    exact ⟨fun _ => by dsimp only; rw [wd32]; decide, hs, fun h => absurd h (by simp)⟩
  · rw [List.length_replicate] at hx
    unfold Grd.loose
    rw [hg x hx, if_neg (by simp)]
    dsimp only
    rw [wd32]
    rfl
theorem RowsRt.up {n : Nat} {rows : List (List C)} (h : RowsRt n rows) (bk : Int) (hs : isSt (0, bk, 0) = true) (top bot : Nat) (htb : top ≤ bot) (hb : bot < rows.length) : RowsRt n (replR rows n bk top bot) := fun i hi => by
  rw [replR_len _ _ _ _ _ (by omega) hb] at hi
  rw [replR_up _ _ _ _ _ htb hb]
  split
  · exact h i hi
  · split
    · exact h (i + 1) (by omega)
    · split
      · exact ⟨List.length_replicate, roll_blank n bk hs⟩
      · exact h i hi
theorem RowsRt.down {n : Nat} {rows : List (List C)} (h : RowsRt n rows) (bk : Int) (hs : isSt (0, bk, 0) = true) (top bot : Nat) (htb : top ≤ bot) (hb : bot < rows.length) : RowsRt n (replR rows n bk bot top) := fun i hi => by
  rw [replR_len _ _ _ _ _ hb (by omega)] at hi
  rw [replR_down _ _ _ _ _ htb hb]
  split
  · exact h i hi
  · split
    · exact ⟨List.length_replicate, roll_blank n bk hs⟩
    · split
      · exact h (i - 1) (by omega)
      · exact h i hi
/-- A screen of other rows, and of what else is gone. -/
theorem right_new {s : Scr} {n hh : Nat} (h : RightS s n hh) (g : List (List C)) (rows' : List (List C)) (hl : rows'.length = hh) (hRR : RowsRt n rows') (hg1 : g.length ≤ 50) (hg2 : ∀ row, row ∈ g → gridErr row.length 1 row = 0) : RightS { s with gone := g, cs := rows'.flatten } n hh ∧ rowsL n rows'.flatten hh = rows' := by
  have hlen := Grd.flatten_len n rows' (fun i hi => (hRR i hi).1) hh (by omega)
  rw [← hl, List.take_length, hl, Nat.mul_comm] at hlen
  have hgz : gridErr n hh rows'.flatten = 0 := (Grd.gridErr_zero n hh _).2 ⟨((Grd.gridErr_zero n hh _).1 h.gz).1, hlen, fun y hy => by
    rw [roll_rowAt n rows' (fun i hi => (hRR i hi).1) y (by omega)]
    exact (hRR y (by omega)).2⟩
  refine ⟨⟨h.w, h.h, h.n1, h.n2, h.h1, h.h2, hlen, hgz, h.x0, h.x1, h.y0, h.y1, h.kx0, h.kx1, h.ky0, h.ky1, h.t0, h.t1, h.t2, h.t3, h.late, h.looks, h.tl, h.la, h.ti, hg1, hg2⟩, ?_⟩
  refine roll_ext (by rw [Grd.rowsL_len, hl]) fun i hi => ?_
  rw [Grd.rowsL_len] at hi
  have e2 : (rowsL n rows'.flatten hh).getD i [] = Grd.rowAt n rows'.flatten i := by simp [rowsL, List.getD, hi]
  rw [e2, roll_rowAt n rows' (fun i hi => (hRR i hi).1) i (by omega)]
/-- What stays right while rows move. -/
structure RollsR (s : Scr) (n hh : Nat) (x : Scr × List (List C)) : Prop where
  e : x.1 = { s with gone := x.1.gone }
  l : x.2.length = hh
  r : RowsRt n x.2
  g1 : x.1.gone.length ≤ 50
  g2 : ∀ row, row ∈ x.1.gone → gridErr row.length 1 row = 0
theorem RollsR.start {s : Scr} {n hh : Nat} (h : RightS s n hh) : RollsR s n hh (s, rowsL n s.cs hh) := ⟨rfl, Grd.rowsL_len _ _ _, rowsRt_of h, h.gl, h.gr⟩
theorem RollsR.sb {s : Scr} {n hh : Nat} {x : Scr × List (List C)} (h : RollsR s n hh x) : x.1.sb = s.sb := by rw [h.e]
theorem RollsR.up {s : Scr} {n hh : Nat} {x : Scr × List (List C)} (hR : RightS s n hh) (h : RollsR s n hh x) (top bot : Nat) (keep : Bool) (htb : top ≤ bot) (hb : bot < hh) : RollsR s n hh (rUp n top bot keep x) := by
  have hl := h.l
  have hs : isSt (0, x.1.sb, 0) = true := by rw [h.sb]; exact roll_style hR
  have e1 : (replR x.2 n x.1.sb top bot).length = hh := by rw [replR_len _ _ _ _ _ (by omega) (by omega), hl]
  have e2 := h.r.up x.1.sb hs top bot htb (by omega)
  unfold rUp
  split
  · refine ⟨?_, e1, e2, keepG_len _ _ h.g1, fun r hm => ?_⟩
    · show ({ x.1 with gone := keepG x.1.gone (x.2.getD 0 []) } : Scr) = { s with gone := keepG x.1.gone (x.2.getD 0 []) }
      generalize keepG x.1.gone (x.2.getD 0 []) = gg
      rw [h.e]
    rcases keepG_mem hm with q | q
    · exact h.g2 r q
    · have h0 := h.r 0 (by omega)
      rw [q, h0.1]
      exact roll_one n _ hR.n1 hR.n2 h0.1 h0.2
  · exact ⟨h.e, e1, e2, h.g1, h.g2⟩
theorem RollsR.dn {s : Scr} {n hh : Nat} {x : Scr × List (List C)} (hR : RightS s n hh) (h : RollsR s n hh x) (top bot : Nat) (htb : top ≤ bot) (hb : bot < hh) : RollsR s n hh (rDn n top bot x) := by
  have hl := h.l
  have hs : isSt (0, x.1.sb, 0) = true := by rw [h.sb]; exact roll_style hR
  exact ⟨h.e, by show (replR x.2 n x.1.sb bot top).length = hh; rw [replR_len _ _ _ _ _ (by omega) (by omega), hl], h.r.down x.1.sb hs top bot htb (by omega), h.g1, h.g2⟩
theorem RollsR.iter {s : Scr} {n hh : Nat} {f : Scr × List (List C) → Scr × List (List C)} (hf : ∀ x, RollsR s n hh x → RollsR s n hh (f x)) (x : Scr × List (List C)) (h : RollsR s n hh x) : ∀ j, RollsR s n hh (iterN f j x)
  | 0 => h
  | j + 1 => hf _ (RollsR.iter hf x h j)
theorem RollsR.right {s : Scr} {n hh : Nat} {x : Scr × List (List C)} (hR : RightS s n hh) (h : RollsR s n hh x) : RightS { x.1 with cs := x.2.flatten } n hh ∧ rowsL n x.2.flatten hh = x.2 := by
  have k := right_new hR x.1.gone x.2 h.l h.r h.g1 h.g2
  refine ⟨?_, k.2⟩
  have e : ({ x.1 with cs := x.2.flatten } : Scr) = { s with gone := x.1.gone, cs := x.2.flatten } := by
    have he := h.e
    generalize x.1 = a at he ⊢
    rw [he]
  rw [e]
  exact k.1
end Put
end Go.Proofs.YthokeflechajlaaDoor

/- put.printRune: a rune that has no room is left out. -/
namespace Go.Proofs.YthokeflechajlaaDoor
open Go.ChangeShapes Go.WideShapes Go.ChangeAt Go.RowKit
namespace Put
open Grd (C SliceAt CellsAt gridErr z0 nilV flat rowsL)
open Sty (isSt)
open Txt (wd)
set_option maxHeartbeats 8000000 in
set_option maxRecDepth 100000 in
theorem print_stay (W : World) (M N p : Nat) (s s1 : Scr) (rows rows1 : List (List C)) (r : Int) (hT : Txt.Tab W) (hS : ShAt 63 W M N p s rows) (hk0 : wd r ≠ 0) (hkw : wd r ≤ s.w) (h0 : 0 ≤ s.x) (h1 : s.x ≤ 120) (w1 : 1 ≤ s.w) (w2 : s.w ≤ 120)
    (hF : Fed W M N p (wd r) s s1 rows rows1) (hft : fitsB s1 (wd r) = false) :
    Calls Tryd.prog 39 #[.pointer (some ⟨p, 0, none⟩), .int .i32 r] W (Ran W M N p s1 rows1) := by
  have kb : Below W.heap.size W (W.alloc (.cells #[.pointer (some ⟨p, 0, none⟩)] 60)) := (Below.refl _ _).alloc (Nat.le_refl _) _
  have hx0 := heap_alloc_new W (.cells #[.pointer (some ⟨p, 0, none⟩)] 60)
  have HW := Txt.width_any r (W.alloc (.cells #[.pointer (some ⟨p, 0, none⟩)] 60)) (Grd.Tab.next hT kb)
  have HX0 : Hid _ := hx0
  have HKB : Hid _ := kb
  have HS : Hid (ShAt 63 W M N p s rows) := hS
  have hkr := Txt.wd_range r
  have HF : Hid (Fed W M N p (wd r) s s1 rows rows1) := hF
  have HFT : Hid (fitsB s1 (wd r) = false) := hft
  clear hx0 kb hS hT hF hft
  generalize wd r = k at *
  have q0 : (k == 0) = false := by rw [beq_eq_false_iff_ne]; exact hk0
  have q1 : ¬ s.w < k := by omega
  have hpf := plain_fits
  unfold Plain at hpf
  go_enter Tryd.func39, Tryd.ntmps39
  go_wp2_with fail
  refine HW.mono ?_
  rintro e W1 ⟨rfl, b1⟩
  have hw := way_start HS.out HKB.out HX0.out b1 (k := k)
  clear HW b1 HX0 HKB
  go_upto_region 2 with fail
  generalize hB : W1.heap.size = Bw at *
  clear hB
  generalize (W1.alloc (.cells #[.int .i64 k] 3)) = X at *
  have HWY : Hid (Way W X M N p W.heap.size Bw k s rows) := hw
  obtain ⟨cp, cw⟩ := hw.cells
  obtain ⟨c0, -⟩ := hw.s.words
  clear hw HS
  go_region
  have HW2 : Hid (Way W X.drew M N p W.heap.size Bw k s rows) := HWY.out.drew
  clear cp cw c0 HWY
  generalize X.drew = Y at *
  go_upto_region 4 with fail
  go_cut [34] from 6 to 34 (fun c wx => c = .bool (brkB s k) ∧ Way W wx M N p W.heap.size Bw k s rows)
  case first =>
    have hw := HW2.out
    obtain ⟨cp, cw⟩ := hw.cells
    obtain ⟨c0, -, c3, -, c5, -⟩ := hw.s.words
    have HH := has_any 4 Y hw.s
    have HFI := fits_any Y M N p Bw W.heap.size s rows k hw.s cw cp h0 h1 w1 w2
    clear hw
    cases hl : s.late with
    | true =>
      have HB : Hid (brkB s k = true) := by unfold Hid brkB; rw [hl]; rfl
      rw [hl] at c5
      go_wp2_with fail
      go_meet
      exact ⟨by rw [HB.out], HW2.out⟩
    | false =>
      rw [hl] at c5
      cases hb : hasB s.modes 4 with
      | false =>
        have HB : Hid (brkB s k = false) := by unfold Hid brkB; rw [hl, hb]; rfl
        rw [hb] at HH
        go_wp2_with fail
        refine HH.mono ?_
        rintro e V ⟨rfl, hv⟩
        subst hv
        go_wp2_with fail
        go_meet
        exact ⟨by rw [HB.out], HW2.out⟩
      | true =>
        have HB : Hid (brkB s k = !fitsB s k) := by unfold Hid brkB; rw [hl, hb]; rfl
        rw [hb] at HH
        generalize fitsB s k = fb at *
        go_wp2_with fail
        refine HH.mono ?_
        rintro e V ⟨rfl, hv⟩
        subst hv
        go_wp2_with fail
        refine HFI.mono ?_
        rintro e V ⟨rfl, hv⟩
        subst hv
        go_wp2_with fail
        go_meet
        exact ⟨by rw [HB.out], HW2.out.drew⟩
  case rest =>
    obtain ⟨rfl, hw3⟩ := hcut
    have HW3 : Hid (Way W wc M N p W.heap.size Bw k s rows) := hw3
    clear hw3 HW2
    go_upto_if 34 with fail
    go_cut [] from 6 to 40 (fun wx => Way W wx M N p W.heap.size Bw k s1 rows1)
    case first =>
      cases hb : brkB s k with
      | true =>
        obtain ⟨cp, cw⟩ := HW3.out.cells
        obtain ⟨-, -, c3, -, -, -, -, -, -, f⟩ := HW3.out.s.words
        have f3 := f 3
        obtain ⟨hS4, hB4, hF4⟩ := HW3.out.s.put 3 (.int .i64 0) (s' := { s with x := 0 }) (fun _ _ _ _ => rfl) rfl rfl
        have HW4 : Hid (Way W (wc.setCell ⟨p, 3, none⟩ (.int .i64 0)) M N p W.heap.size Bw k { s with x := 0 } rows) := HW3.out.ran (e := .returned (.tuple #[])) ⟨rfl, hS4, hB4, hF4⟩
        have HFE := HF.out.go hb _ HW4.out.b HW4.out.s
        have d1 := HW4.out.cells.1
        clear hS4 hB4 hF4 f cw
        go_wp2_with fail
        refine HFE.mono ?_
        rintro e V hran
        have hrn := hran
        obtain ⟨rfl, -⟩ := hrn
        have HW5 : Hid (Way W V M N p W.heap.size Bw k s1 rows1) := HW4.out.ran hran
        clear hran cp c3 f3 d1
        go_wp2_with fail
        go_meet
        exact HW5.out
      | false =>
        obtain ⟨e1, e2⟩ := HF.out.no hb
        go_wp2_with fail
        go_meet
        rw [e1, e2]
        exact HW3.out
    case rest =>
      have HW5 : Hid (Way W wc M N p W.heap.size Bw k s1 rows1) := hcut
      clear hcut HW3
      have hw5 := HW5.out
      obtain ⟨cp, cw⟩ := hw5.cells
      have x0 := HF.out.x0
      have x1 := HF.out.x1
      have ew := HF.out.w
      have HEW : Hid (s1.w = s.w) := ew
      have HFI := fits_any wc M N p Bw W.heap.size s1 rows1 k hw5.s cw cp x0 x1 (by omega) (by omega)
      rw [HFT.out] at HFI
      clear hw5 cp cw ew
      go_wp2_with fail
      refine HFI.mono ?_
      rintro e V ⟨rfl, hv⟩
      subst hv
      have HW6 : Hid (Way W wc.drew M N p W.heap.size Bw k s1 rows1) := HW5.out.drew
      clear HFI HW5
      go_wp2_with fail
      (try simp only [Exit.inBlock, Exit.then])
      exact bodyPost_ret (v := .tuple #[]) (results_none rfl _ _ _) rfl ⟨rfl, HW6.out.s, HW6.out.b, HW6.out.f⟩
end Put
end Go.Proofs.YthokeflechajlaaDoor

/- put.printRune: any rune, on a sheet that is right. -/
namespace Go.Proofs.YthokeflechajlaaDoor
open Go.ChangeShapes Go.WideShapes Go.ChangeAt Go.RowKit
namespace Put
open Grd (C SliceAt CellsAt gridErr z0 nilV flat rowsL RightRow mendL)
open Sty (isSt)
open Txt (wd)
/-- A sheet that is right, as far as printing goes. -/
structure PI (n hh : Nat) (s : Scr) (rows : List (List C)) : Prop where
  w : s.w = n
  h : s.h = hh
  n1 : 1 ≤ n
  n2 : n ≤ 120
  h1 : 1 ≤ hh
  h2 : hh ≤ 60
  x0 : 0 ≤ s.x
  x1 : s.x < n
  y0 : 0 ≤ s.y
  y1 : s.y < hh
  t0 : 0 ≤ s.top
  t1 : s.top ≤ s.bot
  t2 : s.bot < hh
  look : isSt (s.sf, s.sb, s.sx) = true
  rl : rows.length = hh
  rr : RowsRt n rows
  gl : s.gone.length ≤ 50
theorem PI.back {n hh : Nat} {s : Scr} {rows : List (List C)} (h : PI n hh s rows) : isSt (0, s.sb, 0) = true := by
  have h2 := h.look
  simp only [isSt, decide_eq_true_eq] at h2 ⊢
  omega
/-- To the next row, at its beginning. -/
def fedP (n : Nat) (s : Scr) (rows : List (List C)) : Scr × List (List C) :=
  if s.y = s.bot then (upS { s with x := 0, late := false } rows s.top.toNat, replR rows n s.sb s.top.toNat s.bot.toNat) else (feedS { s with x := 0 }, rows)
theorem upS_same (s : Scr) (rows : List (List C)) (top : Nat) : (upS s rows top) = { s with gone := (upS s rows top).gone } := by
  unfold upS
  split <;> rfl
theorem upS_gl (s : Scr) (rows : List (List C)) (top : Nat) (h : s.gone.length ≤ 50) : (upS s rows top).gone.length ≤ 50 := by
  unfold upS
  split
  · exact keepG_len _ _ h
  · exact h
theorem PI.fed {n hh : Nat} {s : Scr} {rows : List (List C)} (h : PI n hh s rows) : PI n hh (fedP n s rows).1 (fedP n s rows).2 := by
  have n1 := h.n1
  have y0 := h.y0
  have y1 := h.y1
  have t0 := h.t0
  have t1 := h.t1
  have t2 := h.t2
  have rl := h.rl
  have eh := h.h
  unfold fedP
  by_cases hq : s.y = s.bot
  · rw [if_pos hq]
    have e := upS_same { s with x := 0, late := false } rows s.top.toNat
    have g := upS_gl { s with x := 0, late := false } rows s.top.toNat h.gl
    have hr := RowsRt.up h.rr s.sb h.back s.top.toNat s.bot.toNat (by omega) (by omega)
    have hl : (replR rows n s.sb s.top.toNat s.bot.toNat).length = hh := by rw [replR_len _ _ _ _ _ (by omega) (by omega), rl]
    generalize upS { s with x := 0, late := false } rows s.top.toNat = u at *
    dsimp only
    rw [e]
    exact ⟨h.w, h.h, h.n1, h.n2, h.h1, h.h2, by show (0 : Int) ≤ 0; omega, by show (0 : Int) < n; omega, h.y0, h.y1, h.t0, h.t1, h.t2, h.look, hl, hr, g⟩
  · rw [if_neg hq]
    unfold feedS
    dsimp only
    split
    · rename_i hlt
      exact ⟨h.w, h.h, h.n1, h.n2, h.h1, h.h2, by show (0 : Int) ≤ 0; omega, by show (0 : Int) < n; omega, by show 0 ≤ s.y + 1; omega, by show s.y + 1 < hh; omega, h.t0, h.t1, h.t2, h.look, rl, h.rr, h.gl⟩
    · exact ⟨h.w, h.h, h.n1, h.n2, h.h1, h.h2, by show (0 : Int) ≤ 0; omega, by show (0 : Int) < n; omega, h.y0, h.y1, h.t0, h.t1, h.t2, h.look, rl, h.rr, h.gl⟩
theorem fedP_x (n : Nat) (s : Scr) (rows : List (List C)) : (fedP n s rows).1.x = 0 := by
  unfold fedP
  split
  · dsimp only
    rw [upS_same]
  · unfold feedS
    dsimp only
    split <;> rfl
theorem fed_any {n hh : Nat} {s : Scr} {rows : List (List C)} (h : PI n hh s rows) (X : World) (M N p : Nat) (hS : ShAt 63 X M N p { s with x := 0 } rows) :
    Calls Tryd.prog 62 #[.pointer (some ⟨p, 0, none⟩)] X (Ran X M N p (fedP n s rows).1 (fedP n s rows).2) := by
  have y0 := h.y0
  have y1 := h.y1
  have t0 := h.t0
  have t1 := h.t1
  have t2 := h.t2
  have rl := h.rl
  have eh := h.h
  have h1 := h.h1
  have h2 := h.h2
  unfold fedP
  by_cases hq : s.y = s.bot
  · rw [if_pos hq]
    exact feed_roll X M N p n { s with x := 0 } rows hS s.top.toNat s.bot.toNat (by show s.top = _; omega) (by show s.bot = _; omega) hq h.w h.n1 h.n2 (by omega) (by omega) (by omega) h.gl
  · rw [if_neg hq]
    exact feed_plain X M N p { s with x := 0 } rows hS y0 (by show s.y ≤ 60; omega) (by show 1 ≤ s.h; omega) (by show s.h ≤ 60; omega) hq
def turnP (n : Nat) (s : Scr) (rows : List (List C)) (r : Int) : Scr × List (List C) := if brkB s (wd r) = true then fedP n s rows else (s, rows)
theorem PI.turn {n hh : Nat} {s : Scr} {rows : List (List C)} (h : PI n hh s rows) (r : Int) : PI n hh (turnP n s rows r).1 (turnP n s rows r).2 := by
  unfold turnP
  split
  · exact h.fed
  · exact h
theorem turn_fed {n hh : Nat} {s : Scr} {rows : List (List C)} (h : PI n hh s rows) (r : Int) (W : World) (M N p : Nat) : Fed W M N p (wd r) s (turnP n s rows r).1 rows (turnP n s rows r).2 := by
  have ht := h.turn r
  have n2 := h.n2
  refine ⟨fun hb X _ hX => ?_, fun hb => ?_, ht.w.trans h.w.symm, ht.x0, by have := ht.x1; omega⟩
  · unfold turnP
    rw [if_pos hb]
    exact fed_any h X M N p hX
  · unfold turnP
    rw [if_neg (by rw [hb]; simp)]
    exact ⟨rfl, rfl⟩
/-- Blanks are put in, where the mode says so. -/
def roomP (s : Scr) (rows : List (List C)) (r : Int) : List (List C) := if hasB s.modes 1 = true then rows.set s.y.toNat (mendL (insR (rows.getD s.y.toNat []) s.x.toNat (wd r).toNat s.sb)) else rows
/-- A rune is printed. -/
def prnP (n : Nat) (s : Scr) (rows : List (List C)) (r : Int) : Scr × List (List C) :=
  if wd r = 0 ∨ s.w < wd r then (s, rows)
  else if fitsB (turnP n s rows r).1 (wd r) = false then turnP n s rows r
  else ({ advS (turnP n s rows r).1 (wd r) with last := r }, (roomP (turnP n s rows r).1 (turnP n s rows r).2 r).set (turnP n s rows r).1.y.toNat (putRune ((turnP n s rows r).1.sf, (turnP n s rows r).1.sb, (turnP n s rows r).1.sx) ((roomP (turnP n s rows r).1 (turnP n s rows r).2 r).getD (turnP n s rows r).1.y.toNat []) (turnP n s rows r).1.x.toNat r))
theorem rowsRt_set {n : Nat} {rows : List (List C)} (h : RowsRt n rows) (y : Nat) (row : List C) (hl : row.length = n) (hr : RightRow row) : RowsRt n (rows.set y row) := fun i hi => by
  rw [List.length_set] at hi
  by_cases e : y = i
  · subst e
    have e2 : (rows.set y row).getD y [] = row := by simp [List.getD, hi]
    rw [e2]
    exact ⟨hl, hr⟩
  · have e2 : (rows.set y row).getD i [] = rows.getD i [] := by simp [List.getD, List.getElem?_set_ne e]
    rw [e2]
    exact h i hi
theorem room_rt {n hh : Nat} {s : Scr} {rows : List (List C)} (h : PI n hh s rows) (r : Int) (hr : wd r ≠ 0) (hf : fitsB s (wd r) = true) : RowsRt n (roomP s rows r) ∧ (roomP s rows r).length = hh := by
  have hk := Txt.wd_range r
  have x0 := h.x0
  have y0 := h.y0
  have y1 := h.y1
  have rl := h.rl
  have ew := h.w
  have hf' : wd r ≤ s.w - s.x := by simpa [fitsB] using hf
  have hrow := h.rr s.y.toNat (by omega)
  unfold roomP
  split
  · have hm := ins_meant hrow.2.1 s.x.toNat (wd r).toNat s.sb (by omega) (by rw [hrow.1]; omega) h.back
    exact ⟨rowsRt_set h.rr _ _ (by rw [Grd.mendL_len, insR_len _ _ _ _ (by rw [hrow.1]; omega), hrow.1]) (Grd.mend_right _ hm), by rw [List.length_set, rl]⟩
  · exact ⟨h.rr, rl⟩
theorem advS_same (s : Scr) (k : Int) : (advS s k).w = s.w ∧ (advS s k).h = s.h ∧ (advS s k).y = s.y ∧ (advS s k).top = s.top ∧ (advS s k).bot = s.bot ∧ (advS s k).sf = s.sf ∧ (advS s k).sb = s.sb ∧ (advS s k).sx = s.sx ∧ (advS s k).gone = s.gone := by
  unfold advS
  split <;> exact ⟨rfl, rfl, rfl, rfl, rfl, rfl, rfl, rfl, rfl⟩
theorem PI.print {n hh : Nat} {s : Scr} {rows : List (List C)} (h0 : PI n hh s rows) (r : Int) : PI n hh (prnP n s rows r).1 (prnP n s rows r).2 := by
  unfold prnP
  split
  · exact h0
  · rename_i hsk
    have h := h0.turn r
    generalize turnP n s rows r = t at *
    obtain ⟨s1, rows1⟩ := t
    dsimp only at h ⊢
    split
    · exact h
    · rename_i hft
      have hf : fitsB s1 (wd r) = true := by simpa using hft
      have hf' : wd r ≤ s1.w - s1.x := by simpa [fitsB] using hf
      have hw0 : wd r ≠ 0 := fun e => hsk (.inl e)
      have hk := Txt.wd_range r
      have hq := room_rt h r hw0 hf
      have n1 := h.n1
      have x0 := h.x0
      have x1 := h.x1
      have y0 := h.y0
      have y1 := h.y1
      have ew := h.w
      have hrow := hq.1 s1.y.toNat (by rw [hq.2]; omega)
      obtain ⟨a1, a2, a3, a4, a5, a6, a7, a8, a9⟩ := advS_same s1 (wd r)
      have ax : 0 ≤ (advS s1 (wd r)).x ∧ (advS s1 (wd r)).x < n := by
        unfold advS
        split
        · exact ⟨by show 0 ≤ s1.w - 1; omega, by show s1.w - 1 < n; omega⟩
        · exact ⟨by show 0 ≤ s1.x + wd r; omega, by show s1.x + wd r < n; omega⟩
      have hmn := Grd.meant_one (s1.sf, s1.sb, s1.sx) ((roomP s1 rows1 r).getD s1.y.toNat []) s1.x.toNat r hrow.2.1 h.look (by rw [hrow.1]; omega)
      refine ⟨a1.trans h.w, a2.trans h.h, h.n1, h.n2, h.h1, h.h2, ax.1, ax.2, by rw [← a3] at y0; exact y0, by rw [← a3] at y1; exact y1, by have := h.t0; rw [← a4] at this; exact this, by have := h.t1; rw [← a4, ← a5] at this; exact this, by have := h.t2; rw [← a5] at this; exact this, by have := h.look; rw [← a6, ← a7, ← a8] at this; exact this, by rw [List.length_set, hq.2], ?_, by have := h.gl; rw [← a9] at this; exact this⟩
      exact rowsRt_set hq.1 _ _ (by rw [putRune_len, hrow.1]) (Grd.mend_right _ hmn)
theorem print_any {n hh : Nat} {s : Scr} {rows : List (List C)} (h0 : PI n hh s rows) (r : Int) (W : World) (M N p : Nat) (hT : Txt.Tab W) (hTN : 0 < N) (hS : ShAt 63 W M N p s rows) :
    Calls Tryd.prog 39 #[.pointer (some ⟨p, 0, none⟩), .int .i32 r] W (Ran W M N p (prnP n s rows r).1 (prnP n s rows r).2) := by
  have hx0 := h0.x0
  have hx1 := h0.x1
  have hn1 := h0.n1
  have hn2 := h0.n2
  have hew := h0.w
  unfold prnP
  by_cases hsk : wd r = 0 ∨ s.w < wd r
  · rw [if_pos hsk]
    exact print_skip W M N p s rows r hT hS hsk
  · rw [if_neg hsk]
    have h := h0.turn r
    have hF := turn_fed h0 r W M N p
    generalize turnP n s rows r = t at *
    obtain ⟨s1, rows1⟩ := t
    dsimp only at h hF ⊢
    have hw0 : wd r ≠ 0 := fun e => hsk (.inl e)
    have hww : wd r ≤ s.w := by
      have : ¬ s.w < wd r := fun e => hsk (.inr e)
      omega
    by_cases hft : fitsB s1 (wd r) = false
    · rw [if_pos hft]
      exact print_stay W M N p s s1 rows rows1 r hT hS hw0 hww hx0 (by omega) (by omega) (by omega) hF hft
    · rw [if_neg hft]
      have hf : fitsB s1 (wd r) = true := by simpa using hft
      have hf' : wd r ≤ s1.w - s1.x := by simpa [fitsB] using hf
      have hk := Txt.wd_range r
      have hq := room_rt h r hw0 hf
      have x0 := h.x0
      have x1 := h.x1
      have y0 := h.y0
      have y1 := h.y1
      have ew := h.w
      have rl := h.rl
      have hrow := h.rr s1.y.toNat (by omega)
      have hrow2 := hq.1 s1.y.toNat (by rw [hq.2]; omega)
      have htab : ∀ X, Below N W X → Txt.Tab X := fun X hb => hT.below hb hTN
      have ek : wd r = ((wd r).toNat : Int) := by omega
      refine print_main W M N p s s1 rows rows1 (roomP s1 rows1 r) _ r hT hS hw0 hww hx0 (by omega) (by omega) (by omega) hF hf (fun hi X hX hSX => ?_) (fun hi => ?_) (fun X hX hSX => ?_)
      · have := insert_any X M N p s1 rows1 hSX (htab X hX) s1.y.toNat s1.x.toNat (wd r).toNat (by omega) (by omega) (by omega) (by omega) (by rw [hrow.1]; omega) (by rw [hrow.1]; omega) hrow.2.1 h.back
        rw [← ek] at this
        unfold roomP
        rw [if_pos hi]
        exact this
      · unfold roomP
        rw [if_neg (by rw [hi]; simp)]
      · exact write_any X M N p s1 (roomP s1 rows1 r) (htab X hX) hSX r n s1.x.toNat s1.y.toNat (by rw [hq.2]; omega) _ rfl h.w (by omega) (by omega) (by omega) hrow2.1 (roll_one n _ h.n1 h.n2 hrow2.1 hrow2.2) h.look hw0 (by omega)
end Put
end Go.Proofs.YthokeflechajlaaDoor

/- put.Text in general: what is printed, rune by rune; the screen stays right. -/
namespace Go.Proofs.YthokeflechajlaaDoor
open Go.ChangeShapes Go.WideShapes Go.ChangeAt Go.RowKit
namespace Put
open Grd (C SliceAt CellsAt gridErr z0 nilV flat rowsL RightRow mendL)
open Sty (isSt)
open Txt (wd)
/-- A sheet whose screen is right. -/
structure PJ (n hh : Nat) (s : Scr) (rows : List (List C)) : Prop where
  r : RightS { s with cs := rows.flatten } n hh
  rl : rows.length = hh
  rr : RowsRt n rows
theorem PJ.start {s : Scr} {n hh : Nat} (h : RightS s n hh) : PJ n hh s (rowsL n s.cs hh) := by
  refine ⟨?_, Grd.rowsL_len _ _ _, rowsRt_of h⟩
  rw [h.flatten]
  exact h
theorem PJ.pi {n hh : Nat} {s : Scr} {rows : List (List C)} (h : PJ n hh s rows) : PI n hh s rows := by
  have hk := h.r.looks
  simp only [looksOk, Bool.and_eq_true] at hk
  exact ⟨h.r.w, h.r.h, h.r.n1, h.r.n2, h.r.h1, h.r.h2, h.r.x0, h.r.x1, h.r.y0, h.r.y1, h.r.t0, h.r.t1, h.r.t2, hk.1, h.rl, h.rr, h.r.gl⟩
/-- The cursor elsewhere, another last rune. -/
theorem RightS.at {s : Scr} {n hh : Nat} (h : RightS s n hh) (x y : Int) (late : Bool) (last : Int) (x0 : 0 ≤ x) (x1 : x < n) (y0 : 0 ≤ y) (y1 : y < hh) (hl : lateBad { s with x := x, y := y, late := late, last := last } = false) (ha : last = 0 ∨ wd last ≠ 0) : RightS { s with x := x, y := y, late := late, last := last } n hh :=
  ⟨h.w, h.h, h.n1, h.n2, h.h1, h.h2, h.cl, h.gz, x0, x1, y0, y1, h.kx0, h.kx1, h.ky0, h.ky1, h.t0, h.t1, h.t2, h.t3, hl, h.looks, h.tl, ha, h.ti, h.gl, h.gr⟩
theorem PJ.rows {n hh : Nat} {s : Scr} {rows rows' : List (List C)} (h : PJ n hh s rows) (hl : rows'.length = hh) (hr : RowsRt n rows') (g : List (List C)) (hg : g.length ≤ 50) (hg2 : ∀ row, row ∈ g → gridErr row.length 1 row = 0) : PJ n hh { s with gone := g } rows' :=
  ⟨(right_new h.r g rows' hl hr hg hg2).1, hl, hr⟩
theorem PJ.at {n hh : Nat} {s : Scr} {rows : List (List C)} (h : PJ n hh s rows) (x y : Int) (late : Bool) (last : Int) (x0 : 0 ≤ x) (x1 : x < n) (y0 : 0 ≤ y) (y1 : y < hh) (hl : lateBad { s with x := x, y := y, late := late, last := last } = false) (ha : last = 0 ∨ wd last ≠ 0) : PJ n hh { s with x := x, y := y, late := late, last := last } rows :=
  ⟨h.r.at x y late last x0 x1 y0 y1 hl ha, h.rl, h.rr⟩
theorem late_no (s : Scr) (h : s.late = false) : lateBad s = false := by
  unfold lateBad
  rw [h]
  rfl
theorem PJ.fed {n hh : Nat} {s : Scr} {rows : List (List C)} (h : PJ n hh s rows) : PJ n hh (fedP n s rows).1 (fedP n s rows).2 := by
  have hp := h.pi.fed
  have hi := h.pi
  have n1 := hi.n1
  have y0 := hi.y0
  have y1 := hi.y1
  have t0 := hi.t0
  have t1 := hi.t1
  have t2 := hi.t2
  have rl := hi.rl
  have eh := hi.h
  have hla := h.r.la
  unfold fedP at hp ⊢
  by_cases hq : s.y = s.bot
  · rw [if_pos hq] at hp ⊢
    have hgr : ∀ row, row ∈ (upS { s with x := 0, late := false } rows s.top.toNat).gone → gridErr row.length 1 row = 0 := fun row hrow => by
      unfold upS at hrow
      split at hrow
      · rcases keepG_mem hrow with q | q
        · exact h.r.gr row q
        · have h0 := h.rr 0 (by omega)
          rw [q, h0.1]
          exact roll_one n _ hi.n1 hi.n2 h0.1 h0.2
      · exact h.r.gr row hrow
    have hu := upS_same { s with x := 0, late := false } rows s.top.toNat
    have k := h.rows hp.rl hp.rr _ hp.gl hgr
    have k2 := k.at 0 s.y false s.last (by omega) (by omega) y0 y1 (late_no _ rfl) hla
    dsimp only at k2 ⊢
    rw [hu]
    exact k2
  · rw [if_neg hq]
    unfold feedS
    dsimp only
    split
    · exact h.at 0 (s.y + 1) false s.last (by omega) (by omega) (by omega) (by omega) (late_no _ rfl) hla
    · exact h.at 0 s.y false s.last (by omega) (by omega) y0 y1 (late_no _ rfl) hla
theorem PJ.turn {n hh : Nat} {s : Scr} {rows : List (List C)} (h : PJ n hh s rows) (r : Int) : PJ n hh (turnP n s rows r).1 (turnP n s rows r).2 := by
  unfold turnP
  split
  · exact h.fed
  · exact h
theorem fedP_late (n : Nat) (s : Scr) (rows : List (List C)) : (fedP n s rows).1.late = false := by
  unfold fedP
  split
  · dsimp only
    rw [upS_same]
  · unfold feedS
    dsimp only
    split <;> rfl
theorem turn_late (n : Nat) (s : Scr) (rows : List (List C)) (r : Int) : (turnP n s rows r).1.late = false := by
  unfold turnP
  by_cases hb : brkB s (wd r) = true
  · rw [if_pos hb]
    exact fedP_late n s rows
  · rw [if_neg hb]
    have h2 : brkB s (wd r) = false := by simpa using hb
    unfold brkB at h2
    simp only [Bool.or_eq_false_iff] at h2
    exact h2.1
theorem late_adv {s1 : Scr} {x : Int} {r : Int} (e : x = s1.w - 1) : lateBad { s1 with x := x, late := hasB s1.modes 4, last := r } = false := by
  unfold lateBad
  dsimp only
  cases hb : hasB s1.modes 4 with
  | false => rfl
  | true =>
    have h4 : bits .and .i64 s1.modes 4 = 4 := by simpa [hasB] using hb
    rw [h4]
    simp [e]
theorem PJ.print {n hh : Nat} {s : Scr} {rows : List (List C)} (h0 : PJ n hh s rows) (r : Int) : PJ n hh (prnP n s rows r).1 (prnP n s rows r).2 := by
  have hp := h0.pi.print r
  unfold prnP at hp ⊢
  by_cases hsk : wd r = 0 ∨ s.w < wd r
  · rw [if_pos hsk]
    exact h0
  · rw [if_neg hsk] at hp ⊢
    have h := h0.turn r
    have hlt := turn_late n s rows r
    generalize turnP n s rows r = t at *
    obtain ⟨s1, rows1⟩ := t
    dsimp only at h hlt hp ⊢
    by_cases hft : fitsB s1 (wd r) = false
    · rw [if_pos hft]
      exact h
    · rw [if_neg hft] at hp ⊢
      have hf : fitsB s1 (wd r) = true := by simpa using hft
      have hf' : wd r ≤ s1.w - s1.x := by simpa [fitsB] using hf
      have hw0 : wd r ≠ 0 := fun e => hsk (.inl e)
      have hk := Txt.wd_range r
      have n1 := h.pi.n1
      have x0 := h.pi.x0
      have ew := h.pi.w
      have k := h.rows hp.rl hp.rr s1.gone h.r.gl h.r.gr
      dsimp only at k ⊢
      by_cases hq : s1.x + wd r = s1.w
      · have ea : advS s1 (wd r) = { s1 with x := s1.w - 1, late := hasB s1.modes 4 } := by unfold advS; rw [if_pos hq]
        rw [ea]
        exact k.at (s1.w - 1) s1.y (hasB s1.modes 4) r (by omega) (by omega) h.pi.y0 h.pi.y1 (late_adv (s1 := s1) rfl) (.inr hw0)
      · have ea : advS s1 (wd r) = { s1 with x := s1.x + wd r } := by unfold advS; rw [if_neg hq]
        rw [ea]
        exact k.at (s1.x + wd r) s1.y s1.late r (by omega) (by omega) h.pi.y0 h.pi.y1 (late_no _ hlt) (.inr hw0)
/-- What printing leaves as it is. -/
def Held (a b : Scr) : Prop := a.w = b.w ∧ a.h = b.h ∧ a.sf = b.sf ∧ a.sb = b.sb ∧ a.sx = b.sx ∧ a.top = b.top ∧ a.bot = b.bot ∧ a.modes = b.modes ∧ a.tabs = b.tabs ∧ a.kx = b.kx ∧ a.ky = b.ky ∧ a.kf = b.kf ∧ a.kb = b.kb ∧ a.kbits = b.kbits ∧ a.km = b.km ∧ a.title = b.title
theorem Held.refl (a : Scr) : Held a a := ⟨rfl, rfl, rfl, rfl, rfl, rfl, rfl, rfl, rfl, rfl, rfl, rfl, rfl, rfl, rfl, rfl⟩
theorem Held.trans {a b c : Scr} (h : Held a b) (k : Held b c) : Held a c := by
  obtain ⟨h1, h2, h3, h4, h5, h6, h7, h8, h9, h10, h11, h12, h13, h14, h15, h16⟩ := h
  obtain ⟨k1, k2, k3, k4, k5, k6, k7, k8, k9, k10, k11, k12, k13, k14, k15, k16⟩ := k
  exact ⟨h1.trans k1, h2.trans k2, h3.trans k3, h4.trans k4, h5.trans k5, h6.trans k6, h7.trans k7, h8.trans k8, h9.trans k9, h10.trans k10, h11.trans k11, h12.trans k12, h13.trans k13, h14.trans k14, h15.trans k15, h16.trans k16⟩
theorem turn_held (n : Nat) (s : Scr) (rows : List (List C)) (r : Int) : Held (turnP n s rows r).1 s := by
  unfold turnP
  split
  · unfold fedP
    split
    · dsimp only
      rw [upS_same]
      exact Held.refl s
    · unfold feedS
      dsimp only
      split
      · exact Held.refl s
      · exact Held.refl s
  · exact Held.refl s
theorem prnP_held (n : Nat) (s : Scr) (rows : List (List C)) (r : Int) : Held (prnP n s rows r).1 s := by
  have h := turn_held n s rows r
  unfold prnP
  split
  · exact Held.refl s
  · split
    · exact h
    · refine Held.trans ?_ h
      generalize (turnP n s rows r).1 = s1
      unfold advS
      dsimp only
      split
      · exact Held.refl s1
      · exact Held.refl s1
/-- What is printed of a text, so many runes of it. -/
def stP (n : Nat) (t : ByteArray) (s : Scr) (rows : List (List C)) : Nat → Scr × List (List C)
  | 0 => (s, rows)
  | i + 1 => prnP n (stP n t s rows i).1 (stP n t s rows i).2 ((Txt.runes t).getD i (0, 0)).1
theorem PJ.text {n hh : Nat} {s : Scr} {rows : List (List C)} (h : PJ n hh s rows) (t : ByteArray) : ∀ i, PJ n hh (stP n t s rows i).1 (stP n t s rows i).2
  | 0 => h
  | i + 1 => (PJ.text h t i).print _
theorem stP_held (n : Nat) (t : ByteArray) (s : Scr) (rows : List (List C)) : ∀ i, Held (stP n t s rows i).1 s
  | 0 => Held.refl s
  | i + 1 => (prnP_held n _ _ _).trans (stP_held n t s rows i)
theorem text_does {n hh : Nat} {s : Scr} {rows : List (List C)} (h : PJ n hh s rows) (t : ByteArray) (B M : Nat) (w : World) (hT : Txt.Tab w) (hB : w.cell? ⟨B, 0, none⟩ = some (.string t)) :
    Does 38 #[.pointer (some ⟨B, 0, none⟩)] M w s (stP n t s rows (Txt.runes t).length).1 rows (stP n t s rows (Txt.runes t).length).2 :=
  text1_does t B M w (stP n t s rows) hB fun i _ X p hX hS => print_any (PJ.text h t i).pi _ X M w.heap.size p (Grd.Tab.next hT hX) hT.pos hS
theorem plain_textT : Plain 38 := by
  intro args W
  kernel_rfl
/-- Text, on a right screen. -/
theorem ptext_any {w0 w : World} {s : Scr} {cv tv gv : Value} {n hh : Nat} (h : Met w0 w s cv tv gv) (hR : RightS s n hh) (t : ByteArray) (ht : t.size ≤ 4000) :
    Calls Tryd.prog 15 #[.agg (scrA s cv tv gv), .string t] w (Made w0 w { (stP n t s (rowsL n s.cs hh) (Txt.runes t).length).1 with cs := (stP n t s (rowsL n s.cs hh) (Txt.runes t).length).2.flatten } 0) ∧ RightS { (stP n t s (rowsL n s.cs hh) (Txt.runes t).length).1 with cs := (stP n t s (rowsL n s.cs hh) (Txt.runes t).length).2.flatten } n hh := by
  have hj := PJ.start hR
  have he := hj.text t (Txt.runes t).length
  refine ⟨?_, he.r⟩
  have hz := rightErr hR
  have key := putText_any s { (stP n t s (rowsL n s.cs hh) (Txt.runes t).length).1 with cs := (stP n t s (rowsL n s.cs hh) (Txt.runes t).length).2.flatten } cv tv gv t ht w0 w h.t h.v h.b h.f
  rw [hz] at key
  refine key fun W B hW hB => ?_
  exact change_good n hh s _ _ cv tv gv _ plain_textT _ w0 W h.v (h.b.trans (hW.mono h.b.size)) h.f hR.w hR.h hR.gz (fun w1 hw1 => text_does hj t B _ w1 (Grd.Tab.next (Grd.Tab.next h.t hW) hw1) (cell_stay hw1 hB)) (rowsOk hR _ _ he.rl (fun i hi => (he.rr i hi).1) (by have := he.r.gl; show (stP n t s (rowsL n s.cs hh) (Txt.runes t).length).1.gone.length ≤ 51; exact Nat.le_succ_of_le this) (fun i hi => by have := he.r.gone_le i hi; exact Nat.le_trans this (by omega))) _ rfl
end Put
end Go.Proofs.YthokeflechajlaaDoor

/- The closed fact of the laws on screens: three runes on two columns. -/
namespace Go.Proofs.YthokeflechajlaaDoor
open Go.ChangeShapes Go.WideShapes Go.ChangeAt Go.RowKit
namespace Put
open Grd (C SliceAt CellsAt gridErr z0 nilV flat rowsL)
open Txt (wd)
def abc : ByteArray := ⟨#[97, 98, 99]⟩
def stq : Nat → Scr × List (List C)
  | 0 => (newScr 2 2, rowsL 2 (newScr 2 2).cs 2)
  | 1 => printP (newScr 2 2, rowsL 2 (newScr 2 2).cs 2) 97
  | 2 => printP (printP (newScr 2 2, rowsL 2 (newScr 2 2).cs 2) 97) 98
  | _ => printP (printP (printP (newScr 2 2, rowsL 2 (newScr 2 2).cs 2) 97) 98) 99
theorem abc_runes : Txt.runes abc = [(97, 1), (98, 1), (99, 1)] := by decide +kernel
theorem ok0 : stepOk (stq 0) 97 = true := by decide +kernel
theorem ok1 : stepOk (stq 1) 98 = true := by decide +kernel
theorem ok2 : stepOk (stq 2) 99 = true := by decide +kernel
theorem new22_ok : scrErr (newScr 2 2) = 0 := by decide +kernel
theorem new22_grid : gridErr (2 : Nat) (2 : Nat) (newScr 2 2).cs = 0 := by decide +kernel
theorem new22_fits : Fits (newScr 2 2) := ⟨by decide, by decide, by decide, by decide, by decide, by decide, by decide +kernel⟩
theorem end_x : (stq 3).1.x = 1 := by decide +kernel
theorem end_y : (stq 3).1.y = 1 := by decide +kernel
theorem end_late : (stq 3).1.late = false := by decide +kernel
theorem end_last : (stq 3).1.last = 99 := by decide +kernel
def abcCs : List C := [(97, 0, 0, 0), (98, 0, 0, 0), (99, 0, 0, 0), (32, 0, 0, 0)]
theorem end_cs : (stq 3).2.flatten = abcCs := by decide +kernel
theorem end_rows : RowsOk (stq 3).1 (stq 3).2 := by
  have hl : (stq 3).2.length = 2 := by decide +kernel
  have hg : (stq 3).1.gone = [] := by decide +kernel
  have h0 : (stq 3).2.getD 0 [] ≠ [] := by decide +kernel
  have h1 : (stq 3).2.getD 1 [] ≠ [] := by decide +kernel
  refine ⟨by rw [hl]; omega, by rw [hl]; omega, fun i hi => ?_, by rw [end_cs]; decide, by rw [hg]; decide, fun i hi => by rw [hg] at hi; exact absurd hi (by simp)⟩
  rw [hl] at hi
  match i, hi with
  | 0, _ => exact h0
  | 1, _ => exact h1
theorem plain_text : Plain 38 := by
  intro args W
  kernel_rfl
theorem abc_does (B M : Nat) (w : World) (hT : Txt.Tab w) (hB : w.cell? ⟨B, 0, none⟩ = some (.string abc)) : Does 38 #[.pointer (some ⟨B, 0, none⟩)] M w (stq 0).1 (stq 3).1 (stq 0).2 (stq 3).2 := by
  have h := text1_does abc B M w stq hB
  rw [abc_runes] at h
  refine h ?_
  intro i hi X p hb hS
  have hTX := Grd.Tab.next hT hb
  have hN : ∀ Y, Below w.heap.size X Y → Txt.Tab Y := fun Y hY => Grd.Tab.next hT (hb.trans hY)
  match i, hi with
  | 0, _ => exact print_step X M w.heap.size p (stq 0) 97 hTX hN hS ok0
  | 1, _ => exact print_step X M w.heap.size p (stq 1) 98 hTX hN hS ok1
  | 2, _ => exact print_step X M w.heap.size p (stq 2) 99 hTX hN hS ok2
theorem abc_text (cv tv gv : Value) (w0 w : World) (hT : Txt.Tab w) (hV : ScrV w0 (newScr 2 2) cv tv gv) (hb0 : Below w0.heap.size w0 w) : Calls Tryd.prog 15 #[.agg (scrA (newScr 2 2) cv tv gv), .string abc] w (Made w0 w { (stq 3).1 with cs := abcCs } 0) := by
  have h := putText_any (newScr 2 2) { (stq 3).1 with cs := abcCs } cv tv gv abc (by decide) w0 w hT hV hb0 new22_fits
  rw [new22_ok] at h
  refine h fun W B hW hB => ?_
  exact change_good 2 2 (newScr 2 2) (stq 3).1 (stq 3).2 cv tv gv _ plain_text _ w0 W hV (hb0.trans (hW.mono hb0.size)) new22_fits rfl rfl new22_grid (fun w1 hw1 => abc_does B _ w1 (Grd.Tab.next (Grd.Tab.next hT hW) hw1) (cell_stay hw1 hB)) end_rows abcCs end_cs
set_option maxHeartbeats 4000000 in
set_option maxRecDepth 100000 in
theorem printed_any (w : World) (hT : Txt.Tab w) : Calls Tryd.prog 6 #[] w fun e w' => e = .returned (.bool true) ∧ Below w.heap.size w w' := by
  have HN := new_good' 2 2 w (by decide)
  have HT : Hid (∀ W, Below w.heap.size w W → Txt.Tab W) := fun W h => Grd.Tab.next hT h
  clear hT
  go_enter Tryd.func6, Tryd.ntmps6
  go_wp2_with fail
  refine HN.mono ?_
  rintro e W1 ⟨cv, tv, gv, rfl, hO, b1⟩
  obtain ⟨a1, n1, c1, a2, n2, c2, a3, n3, c3, rfl, rfl, rfl⟩ := hO.shapes
  generalize hs : newScr 2 2 = s at *
  have x1 := heap_alloc_new W1 (.cells #[.int .i64 0, .int .i64 0, .slice none 0 0, .int .i64 0, .int .i64 0, .bool false, .int .i64 0, .int .i64 0, .int .i64 0, .int .i64 0, .int .i64 0, .int .i64 0, .slice none 0 0, .int .i64 0, .int .i64 0, .int .i64 0, .int .i64 0, .int .i64 0, .int .i64 0, .int .i32 0, .string ⟨#[]⟩, .slice none 0 0] 32)
  have HX1 : Hid ((W1.alloc (.cells #[.int .i64 0, .int .i64 0, .slice none 0 0, .int .i64 0, .int .i64 0, .bool false, .int .i64 0, .int .i64 0, .int .i64 0, .int .i64 0, .int .i64 0, .int .i64 0, .slice none 0 0, .int .i64 0, .int .i64 0, .int .i64 0, .int .i64 0, .int .i64 0, .int .i64 0, .int .i32 0, .string ⟨#[]⟩, .slice none 0 0] 32)).heap[W1.heap.size]? = _) := x1
  have HV : Hid (ScrV W1 s _ _ _) := hO.scr
  have HB1 : Hid (Below w.heap.size w W1) := b1
  clear HN hO b1 x1
  go_upto_region 2 with (refine wpList_store_row rfl 32 (.tmp 1) _ rfl W1.heap.size (scrA s (.slice a1 n1 c1) (.slice a2 n2 c2) (.slice a3 n3 c3)) rfl rfl _ _ HX1.out (by kernel_rfl) rfl (scr_one _ _ _ _ _ _ _ _ _ _) ?_)
  have HX2 : Hid (((W1.alloc (.cells #[.int .i64 0, .int .i64 0, .slice none 0 0, .int .i64 0, .int .i64 0, .bool false, .int .i64 0, .int .i64 0, .int .i64 0, .int .i64 0, .int .i64 0, .int .i64 0, .slice none 0 0, .int .i64 0, .int .i64 0, .int .i64 0, .int .i64 0, .int .i64 0, .int .i64 0, .int .i32 0, .string ⟨#[]⟩, .slice none 0 0] 32)).setRow W1.heap.size (scrA s (.slice a1 n1 c1) (.slice a2 n2 c2) (.slice a3 n3 c3))).heap[W1.heap.size]? = some (.cells (scrA s (.slice a1 n1 c1) (.slice a2 n2 c2) (.slice a3 n3 c3)) 32 (0, 0))) := setRow_heap _ _ _ _ _ _ HX1.out
  have HBX : Hid (Below W1.heap.size W1 ((W1.alloc (.cells #[.int .i64 0, .int .i64 0, .slice none 0 0, .int .i64 0, .int .i64 0, .bool false, .int .i64 0, .int .i64 0, .int .i64 0, .int .i64 0, .int .i64 0, .int .i64 0, .slice none 0 0, .int .i64 0, .int .i64 0, .int .i64 0, .int .i64 0, .int .i64 0, .int .i64 0, .int .i32 0, .string ⟨#[]⟩, .slice none 0 0] 32)).setRow W1.heap.size (scrA s (.slice a1 n1 c1) (.slice a2 n2 c2) (.slice a3 n3 c3)))) := below_setRow ((Below.refl _ _).alloc (Nat.le_refl _) _) (Nat.le_refl _) _
  have HHS : Hid (newScr 2 2 = s) := hs
  clear HX1 hs
  generalize ((W1.alloc (.cells #[.int .i64 0, .int .i64 0, .slice none 0 0, .int .i64 0, .int .i64 0, .bool false, .int .i64 0, .int .i64 0, .int .i64 0, .int .i64 0, .int .i64 0, .int .i64 0, .slice none 0 0, .int .i64 0, .int .i64 0, .int .i64 0, .int .i64 0, .int .i64 0, .int .i64 0, .int .i32 0, .string ⟨#[]⟩, .slice none 0 0] 32)).setRow W1.heap.size (scrA s (.slice a1 n1 c1) (.slice a2 n2 c2) (.slice a3 n3 c3))) = X at *
  have HTX : Calls Tryd.prog 15 #[.agg (scrA s (.slice a1 n1 c1) (.slice a2 n2 c2) (.slice a3 n3 c3)), .string ⟨#[97, 98, 99]⟩] X (Made W1 X { (stq 3).1 with cs := abcCs } 0) := by
    have hv := HV.out
    rw [← HHS.out] at hv ⊢
    exact abc_text _ _ _ W1 X (HT.out X (HB1.out.trans (HBX.out.mono HB1.out.size))) hv HBX.out
  have h1 := end_x
  have h2 := end_y
  have h3 := end_late
  have h4 := end_last
  obtain ⟨s2, hs2⟩ : ∃ s2 : Scr, s2 = { (stq 3).1 with cs := abcCs } := ⟨_, rfl⟩
  have k1 : s2.x = 1 := by rw [hs2]; exact h1
  have k2 : s2.y = 1 := by rw [hs2]; exact h2
  have k3 : s2.late = false := by rw [hs2]; exact h3
  have k4 : s2.last = 99 := by rw [hs2]; exact h4
  have k5 : s2.cs = abcCs := by rw [hs2]
  rw [← hs2] at HTX
  have K : Hid (s2.x = 1 ∧ s2.y = 1 ∧ s2.late = false ∧ s2.last = 99 ∧ s2.cs = abcCs) := ⟨k1, k2, k3, k4, k5⟩
  clear h1 h2 h3 h4 hs2 k1 k2 k3 k4 k5
  go_wp2_with (refine wpList_load_row rfl 32 (.tmp 1) rfl W1.heap.size rfl _ _ _ _ HX2.out Tryd.underlying32 rfl (by kernel_rfl) ?_)
  refine HTX.mono ?_
  rintro e W2 ⟨cv', tv', gv', rfl, hO, b2⟩
  obtain ⟨a4, n4, c4, a5, n5, c5, a6, n6, c6, -, rfl, rfl⟩ := hO.shapes
  have hc := hO.c
  rw [K.out.2.2.2.2] at hc
  rcases hc with ⟨he, -⟩ | ⟨g, cap, rest, t, hv, hg, hl, hm, hh⟩
  · exact absurd he (by decide)
  subst hv
  have x2 := heap_alloc_new W2 (.cells #[.int .i64 0, .int .i64 0, .slice none 0 0, .int .i64 0, .int .i64 0, .bool false, .int .i64 0, .int .i64 0, .int .i64 0, .int .i64 0, .int .i64 0, .int .i64 0, .slice none 0 0, .int .i64 0, .int .i64 0, .int .i64 0, .int .i64 0, .int .i64 0, .int .i64 0, .int .i32 0, .string ⟨#[]⟩, .slice none 0 0] 32)
  have HX3 : Hid ((W2.alloc (.cells #[.int .i64 0, .int .i64 0, .slice none 0 0, .int .i64 0, .int .i64 0, .bool false, .int .i64 0, .int .i64 0, .int .i64 0, .int .i64 0, .int .i64 0, .int .i64 0, .slice none 0 0, .int .i64 0, .int .i64 0, .int .i64 0, .int .i64 0, .int .i64 0, .int .i64 0, .int .i32 0, .string ⟨#[]⟩, .slice none 0 0] 32)).heap[W2.heap.size]? = _) := x2
  have HX4 : Hid (((W2.alloc (.cells #[.int .i64 0, .int .i64 0, .slice none 0 0, .int .i64 0, .int .i64 0, .bool false, .int .i64 0, .int .i64 0, .int .i64 0, .int .i64 0, .int .i64 0, .int .i64 0, .slice none 0 0, .int .i64 0, .int .i64 0, .int .i64 0, .int .i64 0, .int .i64 0, .int .i64 0, .int .i32 0, .string ⟨#[]⟩, .slice none 0 0] 32)).setRow W2.heap.size (scrA s2 (.slice (some ⟨g, 0, none⟩) 4 cap) (.slice a5 n5 c5) (.slice a6 n6 c6))).heap[W2.heap.size]? = some (.cells (scrA s2 (.slice (some ⟨g, 0, none⟩) 4 cap) (.slice a5 n5 c5) (.slice a6 n6 c6)) 32 (0, 0))) := setRow_heap _ _ _ _ _ _ HX3.out
  have hb2 : Below w.heap.size w W2 := (HB1.out.trans (HBX.out.mono HB1.out.size)).trans (b2.mono (HB1.out.trans (HBX.out.mono HB1.out.size)).size)
  have HBY : Hid (Below w.heap.size w ((W2.alloc (.cells #[.int .i64 0, .int .i64 0, .slice none 0 0, .int .i64 0, .int .i64 0, .bool false, .int .i64 0, .int .i64 0, .int .i64 0, .int .i64 0, .int .i64 0, .int .i64 0, .slice none 0 0, .int .i64 0, .int .i64 0, .int .i64 0, .int .i64 0, .int .i64 0, .int .i64 0, .int .i32 0, .string ⟨#[]⟩, .slice none 0 0] 32)).setRow W2.heap.size (scrA s2 (.slice (some ⟨g, 0, none⟩) 4 cap) (.slice a5 n5 c5) (.slice a6 n6 c6)))) := below_setRow (hb2.alloc hb2.size _) hb2.size _
  have HG : Hid (CellsAt ((W2.alloc (.cells #[.int .i64 0, .int .i64 0, .slice none 0 0, .int .i64 0, .int .i64 0, .bool false, .int .i64 0, .int .i64 0, .int .i64 0, .int .i64 0, .int .i64 0, .int .i64 0, .slice none 0 0, .int .i64 0, .int .i64 0, .int .i64 0, .int .i64 0, .int .i64 0, .int .i64 0, .int .i32 0, .string ⟨#[]⟩, .slice none 0 0] 32)).setRow W2.heap.size (scrA s2 (.slice (some ⟨g, 0, none⟩) 4 cap) (.slice a5 n5 c5) (.slice a6 n6 c6))) g 0 abcCs) := by
    refine Grd.cellsAt_flat (t := t) (rest := rest) ?_
    rw [setRow_other _ _ _ _ (Nat.ne_of_lt (heap_lt hh)), Below.heap_alloc _ _ _ (heap_lt hh)]
    exact hh
  clear HTX hO b2 x2 hh hb2 HX2 HBX HB1 HV
  go_upto_region 3 with (refine wpList_store_row rfl 32 (.tmp 3) _ rfl W2.heap.size (scrA s2 (.slice (some ⟨g, 0, none⟩) 4 cap) (.slice a5 n5 c5) (.slice a6 n6 c6)) rfl rfl _ _ HX3.out (by kernel_rfl) rfl (scr_one _ _ _ _ _ _ _ _ _ _) ?_)
  clear HX3
  generalize ((W2.alloc (.cells #[.int .i64 0, .int .i64 0, .slice none 0 0, .int .i64 0, .int .i64 0, .bool false, .int .i64 0, .int .i64 0, .int .i64 0, .int .i64 0, .int .i64 0, .int .i64 0, .slice none 0 0, .int .i64 0, .int .i64 0, .int .i64 0, .int .i64 0, .int .i64 0, .int .i64 0, .int .i32 0, .string ⟨#[]⟩, .slice none 0 0] 32)).setRow W2.heap.size (scrA s2 (.slice (some ⟨g, 0, none⟩) 4 cap) (.slice a5 n5 c5) (.slice a6 n6 c6))) = Y at *
  obtain ⟨⟨-, -, d2, d3, d4, d5, -⟩, ⟨-, -, -, -, -, -, -, -, d19, -⟩, -⟩ := scr_cells HX4.out
  rw [K.out.1] at d3
  rw [K.out.2.1] at d4
  rw [K.out.2.2.1] at d5
  rw [K.out.2.2.2.1] at d19
  obtain ⟨e8, -⟩ := HG.out 2 (by decide)
  have e8' : Y.cell? ⟨g, 8, none⟩ = some (.int .i32 99) := e8
  clear e8
  go_wp2_with fail
  go_ret
  exact ⟨rfl, HBY.out⟩
end Put
end Go.Proofs.YthokeflechajlaaDoor

/- A list of rows, anywhere in a block of such. -/
namespace Go.Proofs.YthokeflechajlaaDoor
open Go.ChangeShapes Go.WideShapes Go.ChangeAt Go.RowKit
namespace Put
open Grd (C SliceAt CellsAt gridErr z0 nilV rowsL RowsAt RowB flat)
/-- The block that a slice speaks of. -/
def blkOf (v : Value) : Option Nat := match v with
  | .slice (some a) _ _ => some a.block
  | _ => none
/-- A list of rows' values, anywhere in a block of such: from N on. -/
def GoneV (W : World) (N : Nat) (v : Value) (n : Nat) (vs : List Value) : Prop :=
  vs.length = n ∧ ((n = 0 ∧ ∃ a c, v = .slice a 0 c) ∨ ∃ g o cap A, v = .slice (some ⟨g, o, none⟩) n cap ∧ N ≤ g ∧ n ≤ cap ∧ cap ≤ 9223372036854775807 ∧ W.heap[g]? = some (.cells A 22 (0, 0)) ∧ ∀ j, j < n → A[o + j]? = some (vs.getD j nilV))
theorem GoneV.of {W : World} {N : Nat} {v : Value} {n : Nat} {vs : List Value} (h : W.ownsRow N 22 1 v n vs) : GoneV W N v n vs := by
  obtain ⟨h0, ⟨rfl, rfl⟩ | ⟨g, cap, cur, rfl, hg, hh, hc, hm, hs, htk⟩⟩ := h
  · exact ⟨by simpa using h0, .inl ⟨rfl, none, 0, rfl⟩⟩
  · refine ⟨by simpa using h0, .inr ⟨g, 0, cap, cur, rfl, hg, hc, by unfold maxLen at hm; omega, hh, fun j hj => ?_⟩⟩
    have hl : vs.length = n := by simpa using h0
    rw [Nat.zero_add]
    have e : cur[j]? = vs[j]? := by rw [← htk, ← Array.getElem?_toList, List.getElem?_take_of_lt (by omega)]
    rw [e]
    simp [List.getD, List.getElem?_eq_getElem (show j < vs.length by omega)]
theorem GoneV.slice {W : World} {N : Nat} {v : Value} {n : Nat} {vs : List Value} (h : GoneV W N v n vs) : ∃ a c, v = .slice a n c := by
  obtain ⟨-, ⟨rfl, a, c, rfl⟩ | ⟨g, o, cap, A, rfl, -⟩⟩ := h
  · exact ⟨a, c, rfl⟩
  · exact ⟨_, cap, rfl⟩
theorem GoneV.kept {W W' : World} {N : Nat} {v : Value} {n : Nat} {vs : List Value} (h : GoneV W N v n vs) (hk : ∀ g, v.ownBlock = some g → W'.heap[g]? = W.heap[g]?) : GoneV W' N v n vs := by
  obtain ⟨h0, h | ⟨g, o, cap, A, hv, h1, h2, h3, h4, h5⟩⟩ := h
  · exact ⟨h0, .inl h⟩
  · exact ⟨h0, .inr ⟨g, o, cap, A, hv, h1, h2, h3, (hk g (by rw [hv]; rfl)).trans h4, h5⟩⟩
theorem GoneV.next {W W' : World} {N : Nat} {v : Value} {n : Nat} {vs : List Value} (h : GoneV W N v n vs) (hb : Below W.heap.size W W') : GoneV W' N v n vs := by
  obtain ⟨h0, h | ⟨g, o, cap, A, hv, h1, h2, h3, h4, h5⟩⟩ := h
  · exact ⟨h0, .inl h⟩
  · exact ⟨h0, .inr ⟨g, o, cap, A, hv, h1, h2, h3, Grd.carry h4 hb, h5⟩⟩
theorem GoneV.apart {W W' : World} {N p : Nat} {t : TypeId} {v : Value} {n : Nat} {vs : List Value} {A : Array Value} {f : Nat × Nat} (h : GoneV W N v n vs) (hp : W.heap[p]? = some (.cells A t f)) (ht : t ≠ 22) (ho : ∀ k, k ≠ p → W'.heap[k]? = W.heap[k]?) : GoneV W' N v n vs := by
  obtain ⟨h0, h | ⟨g, o, cap, B, hv, h1, h2, h3, h4, h5⟩⟩ := h
  · exact ⟨h0, .inl h⟩
  · refine ⟨h0, .inr ⟨g, o, cap, B, hv, h1, h2, h3, (ho g fun e => ?_).trans h4, h5⟩⟩
    rw [e, hp] at h4
    injection h4 with h4
    injection h4 with _ h4 _
    exact ht h4
theorem GoneV.rowsV {W : World} {N : Nat} {v : Value} {rows : List (List C)} {vs : List Value} (h : GoneV W N v rows.length vs) (hr : RowsL W vs rows) : RowsV W v rows := by
  obtain ⟨h0, ⟨hn, a, c, hv⟩ | ⟨g, o, cap, A, hv, h1, h2, h3, h4, h5⟩⟩ := h
  · exact .inl ⟨List.eq_nil_of_length_eq_zero hn, a, c, hv⟩
  · refine .inr ⟨g, o, cap, hv, h2, h3, fun j hj => ⟨vs.getD j nilV, ?_, hr.2 j hj⟩⟩
    simp only [World.cell?, h4]
    rw [h5 j hj]
    rfl
end Put
end Go.Proofs.YthokeflechajlaaDoor

/- A screen's grid, read out of the screen's block; lists of rows; a screen that is kept. -/
namespace Go.Proofs.YthokeflechajlaaDoor
open Go.ChangeShapes Go.WideShapes Go.ChangeAt Go.RowKit
namespace Put
open Grd (C SliceAt CellsAt gridErr z0 nilV rowsL RowsAt RowB flat)
def Ptr3 (W : World) (v : Value) : Prop := ∃ R o cs t fr, v = .pointer (some ⟨R, o, none⟩) ∧ W.heap[R]? = some (.cells cs t fr) ∧ o + 3 ≤ cs.size
def at3 (W : World) (v : Value) : Array Value := match v with
  | .pointer (some a) => (match W.heap[a.block]? with
    | some (.cells cs _ _) => cs.extract a.off (a.off + 3)
    | _ => #[])
  | _ => #[]
theorem info_grid3 : (Tryd.prog.info? 24).map (·.size) = some 3 := by kernel_rfl
theorem load_grd (a : Act) (dst : Option Tmp) (x : Operand) (ty : TypeId) (pos : String) (after : Array Edge) (guard : Option (Nat × Bool)) (W : World) (h : Ptr3 W (a.eval x)) :
    (execOp a.eval { dst, op := .load 24 x, type := ty, pos, after, guard }).run Tryd.prog W = .ok (.value (.agg (at3 W (a.eval x)))) W := by
  obtain ⟨R, o, cs, t, fr, h0, h1, h2⟩ := h
  have e : at3 W (a.eval x) = cs.extract o (o + 3) := by rw [h0]; unfold at3; simp only []; rw [h1]
  rw [e]
  have hr := run_loadVar_mid (P := Tryd.prog) W R o 24 (cs.extract o (o + 3)).toList _ (World.rangeAt_of_block h1 o 3) Tryd.underlying24 rfl (by rw [info_grid3]; simp; omega)
  unfold execOp
  simp only [h0, Instr.loadAt, Instr.sureAddr, Sem.run_bind, Sem.run_pure, Result.andThen_ok, hr]
theorem scr_grd {W : World} {R : Nat} {t : TypeId} {s : Scr} {cv tv gv : Value} (h : W.heap[R]? = some (.cells (scrA s cv tv gv) t (0, 0))) : Ptr3 W (.pointer (some ⟨R, 0, none⟩)) ∧ at3 W (.pointer (some ⟨R, 0, none⟩)) = #[.int .i64 s.w, .int .i64 s.h, cv] := by
  refine ⟨⟨_, _, _, _, _, rfl, h, by show 3 ≤ 22; omega⟩, ?_⟩
  unfold at3
  simp only []
  rw [h]
  rfl
theorem getD_app {α : Type} (l l' : List α) (d : α) (i : Nat) : (l ++ l').getD i d = if i < l.length then l.getD i d else l'.getD (i - l.length) d := by
  by_cases h : i < l.length
  · rw [if_pos h]
    simp [List.getD, List.getElem?_append_left h]
  · rw [if_neg h]
    simp [List.getD, List.getElem?_append_right (Nat.le_of_not_lt h)]
theorem RowsL.app {W : World} {vs vs' : List Value} {l l' : List (List C)} (h : RowsL W vs l) (h' : RowsL W vs' l') : RowsL W (vs ++ vs') (l ++ l') := by
  refine ⟨by rw [List.length_append, List.length_append, h.1, h'.1], fun i hi => ?_⟩
  rw [List.length_append] at hi
  rw [getD_app, getD_app, h.1]
  split
  · exact h.2 i (by assumption)
  · exact h'.2 _ (by omega)
theorem getD_take' {α : Type} (l : List α) (d : α) (k i : Nat) (h : i < k) : (l.take k).getD i d = l.getD i d := by simp [List.getD, List.getElem?_take_of_lt h]
theorem RowsL.take {W : World} {vs : List Value} {l : List (List C)} (h : RowsL W vs l) (k : Nat) : RowsL W (vs.take k) (l.take k) := by
  refine ⟨by rw [List.length_take, List.length_take, h.1], fun i hi => ?_⟩
  rw [List.length_take] at hi
  rw [getD_take' _ _ _ _ (by omega), getD_take' _ _ _ _ (by omega)]
  exact h.2 i (by omega)
theorem rowsAt_list {W : World} {N : Nat} {vs : List Value} {gs : List Nat} {rows : List (List C)} (h : RowsAt W N vs gs rows) : RowsL W vs rows := ⟨h.1, fun i hi => (rowIn_rowB (N := 0) (h.2.2.2 i hi).2).cells⟩
/-- The rest of a list of rows. -/
theorem rowsV_drop {W : World} {g c L : Nat} {vs : List Value} {l : List (List C)} (hc1 : L ≤ c) (hc2 : c ≤ 9223372036854775807) (hcell : ∀ j, j < L → W.cell? ⟨g, j, none⟩ = some (vs.getD j nilV)) (hr : RowsL W vs l) (hl : l.length = L) (d : Nat) (hd : d < L) : RowsV W (.slice (some ⟨g, d, none⟩) (L - d) (c - d)) (l.drop d) := by
  refine .inr ⟨g, d, c - d, by rw [List.length_drop, hl], by rw [List.length_drop]; omega, by omega, fun j hj => ?_⟩
  rw [List.length_drop] at hj
  refine ⟨vs.getD (d + j) nilV, hcell _ (by omega), ?_⟩
  have e : (l.drop d).getD j [] = l.getD (d + j) [] := by simp [List.getD, List.getElem?_drop]
  rw [e]
  exact hr.2 _ (by omega)
theorem kept_g {w W : World} {A : Array Value} (hB : Below w.heap.size w W) :
    ((W.alloc (.cells #[.int .i64 0, .int .i64 0, .slice none 0 0, .int .i64 0, .int .i64 0, .bool false, .int .i64 0, .int .i64 0, .int .i64 0, .int .i64 0, .int .i64 0, .int .i64 0, .slice none 0 0, .int .i64 0, .int .i64 0, .int .i64 0, .int .i64 0, .int .i64 0, .int .i64 0, .int .i32 0, .string ⟨#[]⟩, .slice none 0 0] 32)).setRow W.heap.size A).heap[W.heap.size]? = some (.cells A 32 (0, 0)) ∧ Below W.heap.size W ((W.alloc (.cells #[.int .i64 0, .int .i64 0, .slice none 0 0, .int .i64 0, .int .i64 0, .bool false, .int .i64 0, .int .i64 0, .int .i64 0, .int .i64 0, .int .i64 0, .int .i64 0, .slice none 0 0, .int .i64 0, .int .i64 0, .int .i64 0, .int .i64 0, .int .i64 0, .int .i64 0, .int .i32 0, .string ⟨#[]⟩, .slice none 0 0] 32)).setRow W.heap.size A) ∧ Below w.heap.size w ((W.alloc (.cells #[.int .i64 0, .int .i64 0, .slice none 0 0, .int .i64 0, .int .i64 0, .bool false, .int .i64 0, .int .i64 0, .int .i64 0, .int .i64 0, .int .i64 0, .int .i64 0, .slice none 0 0, .int .i64 0, .int .i64 0, .int .i64 0, .int .i64 0, .int .i64 0, .int .i64 0, .int .i32 0, .string ⟨#[]⟩, .slice none 0 0] 32)).setRow W.heap.size A) ∧ (W.alloc (.cells #[.int .i64 0, .int .i64 0, .slice none 0 0, .int .i64 0, .int .i64 0, .bool false, .int .i64 0, .int .i64 0, .int .i64 0, .int .i64 0, .int .i64 0, .int .i64 0, .slice none 0 0, .int .i64 0, .int .i64 0, .int .i64 0, .int .i64 0, .int .i64 0, .int .i64 0, .int .i32 0, .string ⟨#[]⟩, .slice none 0 0] 32)).heap[W.heap.size]? = some (.cells #[.int .i64 0, .int .i64 0, .slice none 0 0, .int .i64 0, .int .i64 0, .bool false, .int .i64 0, .int .i64 0, .int .i64 0, .int .i64 0, .int .i64 0, .int .i64 0, .slice none 0 0, .int .i64 0, .int .i64 0, .int .i64 0, .int .i64 0, .int .i64 0, .int .i64 0, .int .i32 0, .string ⟨#[]⟩, .slice none 0 0] 32 (0, 0)) := by
  have h1 : Below W.heap.size W ((W.alloc (.cells #[.int .i64 0, .int .i64 0, .slice none 0 0, .int .i64 0, .int .i64 0, .bool false, .int .i64 0, .int .i64 0, .int .i64 0, .int .i64 0, .int .i64 0, .int .i64 0, .slice none 0 0, .int .i64 0, .int .i64 0, .int .i64 0, .int .i64 0, .int .i64 0, .int .i64 0, .int .i32 0, .string ⟨#[]⟩, .slice none 0 0] 32)).setRow W.heap.size A) := below_setRow ((Below.refl _ _).alloc (Nat.le_refl _) _) (Nat.le_refl _) _
  exact ⟨setRow_heap _ _ _ _ _ _ (heap_alloc_new W _), h1, hB.trans (h1.mono hB.size), heap_alloc_new W _⟩
end Put
end Go.Proofs.YthokeflechajlaaDoor

/- The law ModeKeeps. -/
namespace Go.Proofs.YthokeflechajlaaDoor
open Go.ChangeShapes Go.WideShapes Go.ChangeAt Go.RowKit
namespace Put
open Grd (C SliceAt CellsAt gridErr z0 nilV flat rowsL)
open Sty (isSt)
theorem with_csK (s' : Scr) (cs : List C) (h : cs = s'.cs) : ({ s' with cs := cs } : Scr) = s' := by
  subst h
  rfl
theorem plain_savek : Plain 36 := by
  intro args W
  kernel_rfl
theorem plain_restk : Plain 46 := by
  intro args W
  kernel_rfl
theorem plain_lookk : Plain 44 := by
  intro args W
  kernel_rfl
theorem ksave_any {w0 w : World} {s : Scr} {cv tv gv : Value} {n hh : Nat} (h : Met w0 w s cv tv gv) (hR : RightS s n hh) : Calls Tryd.prog 14 #[.agg (scrA s cv tv gv)] w (Made w0 w (saveS s) 0) :=
  modeSave_calls s _ cv tv gv 0 w0 w h.v h.b.size fun W _ hW => by
    have := md_good (h.next hW) hR _ plain_savek #[] (rowsL n s.cs hh) _ (fun w1 _ => save_does _ w1 s _) (rowsOk_same hR (saveS s) rfl) rfl
    rwa [with_csK (saveS s) _ hR.flatten] at this
theorem ksave_bad {w0 w : World} {s : Scr} {cv tv gv : Value} (h : Met w0 w s cv tv gv) (hz : scrErr s ≠ 0) : Calls Tryd.prog 14 #[.agg (scrA s cv tv gv)] w (Made w0 w zScr (scrErr s)) :=
  modeSave_calls s zScr cv tv gv (scrErr s) w0 w h.v h.b.size fun _ _ hW => md_bad (h.next hW) hz _ _
theorem krest_any {w0 w : World} {s : Scr} {cv tv gv : Value} {n hh : Nat} (h : Met w0 w s cv tv gv) (hR : RightS s n hh) : Calls Tryd.prog 18 #[.agg (scrA s cv tv gv)] w (Made w0 w (restS s) 0) :=
  modeRestore_calls s _ cv tv gv 0 w0 w h.v h.b.size fun W _ hW => by
    have := md_good (h.next hW) hR _ plain_restk #[] (rowsL n s.cs hh) _ (fun w1 _ => restore_does _ w1 s _) (rowsOk_same hR (restS s) rfl) rfl
    rwa [with_csK (restS s) _ hR.flatten] at this
theorem klook_any {w0 w : World} {s : Scr} {cv tv gv : Value} {n hh : Nat} (h : Met w0 w s cv tv gv) (hR : RightS s n hh) (pl : Option Addr) (nl cl : Nat) (xs : List Int) (hT : Stl.Tab w) (hI : Stl.IntsAt w (.slice pl nl cl) xs) (hl : xs.length ≤ 140737488355328) (hw : ∀ x ∈ xs, x ≤ 9223372036854775807) : Calls Tryd.prog 17 #[.agg (scrA s cv tv gv), .slice pl nl cl] w (Made w0 w (lookS s xs) 0) :=
  modeLook_calls s _ cv tv gv pl nl cl 0 w0 w h.v h.b.size fun W B hW hB => by
    have := md_good (h.next hW) hR _ plain_lookk #[.pointer (some ⟨B, 0, none⟩)] (rowsL n s.cs hh) _ (fun w1 hw1 => look_does B _ w1 s _ pl nl cl xs (cell_stay hw1 hB) (styTab_next (styTab_next hT hW) hw1) ((hI.below hW).below hw1) hl hw) (rowsOk_same hR (lookS s xs) rfl) rfl
    rwa [with_csK (lookS s xs) _ hR.flatten] at this
theorem kept_and (m : Int) (h0 : 0 ≤ m) (h1 : m ≤ 63) : keptOk (bits .and .i64 m 6) = true ∧ bits .and .i64 (bits .xor .i64 (bits .or .i64 (bits .andNot .i64 m 6) (bits .and .i64 m 6)) m) 6 = 0 := by
  have key : ∀ k : Fin 64, keptOk (bits .and .i64 (k.val : Int) 6) = true ∧ bits .and .i64 (bits .xor .i64 (bits .or .i64 (bits .andNot .i64 (k.val : Int) 6) (bits .and .i64 (k.val : Int) 6)) (k.val : Int)) 6 = 0 := by decide +kernel
  have h := key ⟨m.toNat, by omega⟩
  have e : ((m.toNat : Nat) : Int) = m := by omega
  simp only [e] at h
  exact h
theorem modesK {s : Scr} {n hh : Nat} (h : RightS s n hh) : 0 ≤ s.modes ∧ s.modes ≤ 63 := by
  have := h.looks
  simp only [looksOk, Bool.and_eq_true, decide_eq_true_eq] at this
  exact this.2.2.1
theorem save_right {s : Scr} {n hh : Nat} (h : RightS s n hh) : RightS (saveS s) n hh := by
  have hm := modesK h
  have hk := h.looks
  simp only [looksOk, Bool.and_eq_true] at hk
  have h2 : looksOk (saveS s) = true := by
    simp only [looksOk, Bool.and_eq_true]
    exact ⟨hk.1, hk.1, hk.2.2.1, (kept_and _ hm.1 hm.2).1⟩
  exact ⟨h.w, h.h, h.n1, h.n2, h.h1, h.h2, h.cl, h.gz, h.x0, h.x1, h.y0, h.y1, h.x0, h.x1, h.y0, h.y1, h.t0, h.t1, h.t2, h.t3, h.late, h2, h.tl, h.la, h.ti, h.gl, h.gr⟩
theorem look_right {s : Scr} {n hh : Nat} (h : RightS s n hh) (xs : List Int) : RightS (lookS s xs) n hh := by
  have hk := h.looks
  simp only [looksOk, Bool.and_eq_true] at hk
  have h2 : looksOk (lookS s xs) = true := by
    simp only [looksOk, Bool.and_eq_true]
    exact ⟨Stl.applyT_keeps xs (s.sf, s.sb, s.sx) hk.1, hk.2.1, hk.2.2.1, hk.2.2.2⟩
  exact ⟨h.w, h.h, h.n1, h.n2, h.h1, h.h2, h.cl, h.gz, h.x0, h.x1, h.y0, h.y1, h.kx0, h.kx1, h.ky0, h.ky1, h.t0, h.t1, h.t2, h.t3, h.late, h2, h.tl, h.la, h.ti, h.gl, h.gr⟩
theorem fits_right {s : Scr} {n hh : Nat} (h : RightS s n hh) (ht : s.title.size ≤ 1048576) : Fits s := by
  have hm := modesK h
  have hk := h.looks
  simp only [looksOk, Bool.and_eq_true] at hk
  have h4 : s.km = 0 ∨ s.km = 2 ∨ s.km = 4 ∨ s.km = 6 := by simpa [keptOk] using hk.2.2.2
  exact ⟨by omega, by omega, by omega, by omega, ht, by have := h.gl; omega, by have := h.tl; have := h.n2; omega⟩
end Put
end Go.Proofs.YthokeflechajlaaDoor
