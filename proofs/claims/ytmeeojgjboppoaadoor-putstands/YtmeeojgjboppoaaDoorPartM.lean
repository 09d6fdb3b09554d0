/- What the reference makes of a row where a rune is printed. No function is walked here. -/
import Derived.Test.YtmeeojgjboppoaaDoorPartL
import Derived.Test.YtmeeojgjboppoaaDoorPartK
import Derived.Test.YtmeeojgjboppoaaDoorPartJ
import Derived.Lib.ValidLaws
import Derived.Lib.MapLaws
import Derived.Lib.TrimUEq
import Derived.Test.YtmeeojgjboppoaaDoorPartF
import Derived.Lib.TrimByte
import Derived.Test.YtmeeojgjboppoaaDoorPartE
import Derived.Shelf.Unicode.ValidAny
import Derived.Lib.LaidU8T
import Derived.Test.YtmeeojgjboppoaaDoorRows
import Derived.Test.YtmeeojgjboppoaaDoorPartD
import Derived.Below
import Derived.Test.YtmeeojgjboppoaaDoorPartI
import Derived.Test.YtmeeojgjboppoaaDoorPartG
import Derived.Test.YtmeeojgjboppoaaDoorPartH
import Derived.Deep.MidRow
namespace Go.Proofs.YtmeeojgjboppoaaDoor
namespace Put
open Grd (C z0 mendL mendM loose)
open Txt (wd)
theorem getD_appC (l l' : List C) (i : Nat) : (l ++ l').getD i z0 = if i < l.length then l.getD i z0 else l'.getD (i - l.length) z0 := by
  by_cases h : i < l.length
  · rw [if_pos h]
    simp [List.getD, List.getElem?_append_left h]
  · rw [if_neg h]
    simp [List.getD, List.getElem?_append_right (Nat.le_of_not_lt h)]
theorem getD_takeC (l : List C) (k i : Nat) (h : i < k) : (l.take k).getD i z0 = l.getD i z0 := by simp [List.getD, List.getElem?_take_of_lt h]
theorem getD_dropC (l : List C) (k i : Nat) : (l.drop k).getD i z0 = l.getD (k + i) z0 := by simp [List.getD]
theorem getD_setC (l : List C) (k i : Nat) (c : C) (hk : k < l.length) : (l.set k c).getD i z0 = if i = k then c else l.getD i z0 := by
  by_cases h : i = k
  · subst h
    rw [if_pos rfl]
    simp [List.getD, hk]
  · rw [if_neg h]
    simp [List.getD, List.getElem?_set_ne (fun e => h e.symm)]
theorem wd32 : wd 32 = 1 := by decide +kernel
theorem wd0 : wd 0 = 0 := by decide +kernel
theorem loose_mended (cs : List C) (x : Nat) (hx : x < cs.length) : loose (mendM cs) x = false := by
  have hl := Grd.mendM_len cs
  have hm := Grd.mendM_at cs x hx
  by_cases h : loose cs x = true
  · rw [if_pos h] at hm
    unfold loose
    rw [hm, if_neg (by decide : ¬ ((32 : Int) = 0))]
    show (decide (wd 32 = 2) && _) = false
    rw [wd32]
    rfl
  · rw [if_neg h] at hm
    have h' : loose cs x = false := by simpa using h
    unfold loose at h'
    unfold loose
    rw [hm, hl]
    by_cases h0 : (cs.getD x z0).1 = 0
    · rw [if_pos h0] at h' ⊢
      simp only [Bool.or_eq_false_iff, decide_eq_false_iff_not, Decidable.not_not] at h' ⊢
      have hx1 : x - 1 < cs.length := by omega
      have h1 : loose cs (x - 1) = false := by
        have hne : ¬ (cs.getD (x - 1) z0).1 = 0 := fun e => by
          have h2 := h'.2
          rw [e, wd0] at h2
          exact absurd h2 (by decide)
        unfold loose
        rw [if_neg hne]
        have e1 : x - 1 + 1 = x := by omega
        rw [e1, h0]
        have e2 : ¬ x = cs.length := by omega
        simp [e2]
      have hm1 := Grd.mendM_at cs (x - 1) hx1
      rw [if_neg (by rw [h1]; decide)] at hm1
      rw [hm1]
      exact h'
    · rw [if_neg h0] at h' ⊢
      by_cases h2 : wd (cs.getD x z0).1 = 2
      · simp only [h2, decide_true, Bool.true_and, Bool.or_eq_false_iff, decide_eq_false_iff_not, Decidable.not_not] at h' ⊢
        have hx1 : x + 1 < cs.length := by omega
        have h3 : loose cs (x + 1) = false := by
          unfold loose
          rw [if_pos h'.2, Nat.add_sub_cancel, h2]
          simp
        have hm1 := Grd.mendM_at cs (x + 1) hx1
        rw [if_neg (by rw [h3]; decide)] at hm1
        rw [hm1]
        exact h'
      · rw [decide_eq_false h2, Bool.false_and]
theorem mend_mend (cs : List C) : mendL (mendL cs) = mendL cs := by
  rw [Grd.mendL_eq, Grd.mendL_eq]
  refine Grd.ext_getD _ _ (by rw [Grd.mendM_len]) fun x hx => ?_
  rw [Grd.mendM_len, Grd.mendM_len] at hx
  rw [Grd.mendM_at _ x (by rw [Grd.mendM_len]; exact hx), if_neg (by rw [loose_mended cs x hx]; decide)]
/-- The cells of a rune. -/
def cells2 (st : Int × Int × Int) (r : Int) (w : Nat) : List C := [(r, st), (0, st)].take w
def tailR (ins : Bool) (row : List C) (x w : Nat) : List C := if ins then row.drop x else row.drop (x + w)
def rowY (ins : Bool) (st : Int × Int × Int) (row : List C) (x w : Nat) (r : Int) : List C := (row.take x ++ (cells2 st r w ++ tailR ins row x w)).take row.length
theorem rowY_len (ins : Bool) (st : Int × Int × Int) (row : List C) (x w : Nat) (r : Int) (hw : w = 1 ∨ w = 2) (hx : x + w ≤ row.length) : (rowY ins st row x w r).length = row.length := by
  unfold rowY
  have h1 : (cells2 st r w).length = w := by unfold cells2; rw [List.length_take]; simp; omega
  have h2 : row.length - (x + w) ≤ (tailR ins row x w).length := by
    unfold tailR
    split
    · rw [List.length_drop]; omega
    · rw [List.length_drop]; omega
  rw [List.length_take, List.length_append, List.length_append, List.length_take, h1]
  omega
theorem rowY_at (ins : Bool) (st : Int × Int × Int) (row : List C) (x w : Nat) (r : Int) (hw : w = 1 ∨ w = 2) (hx : x + w ≤ row.length) (i : Nat) (hi : i < row.length) :
    (rowY ins st row x w r).getD i z0 = if i < x then row.getD i z0 else if i < x + w then (if i = x then (r, st) else (0, st)) else row.getD (if ins then i - w else i) z0 := by
  unfold rowY
  have h1 : (cells2 st r w).length = w := by unfold cells2; rw [List.length_take]; simp; omega
  rw [getD_takeC _ _ _ hi, getD_appC, List.length_take]
  have hm : min x row.length = x := by omega
  rw [hm]
  by_cases a : i < x
  · rw [if_pos a, if_pos a, getD_takeC _ _ _ a]
  · rw [if_neg a, if_neg a, getD_appC, h1]
    by_cases b : i < x + w
    · rw [if_pos (by omega : i - x < w), if_pos b]
      unfold cells2
      rcases hw with rfl | rfl
      · have e : i = x := by omega
        subst e
        simp
      · by_cases e : i = x
        · subst e
          simp
        · have e1 : i - x = 1 := by omega
          rw [e1, if_neg e]
          rfl
    · rw [if_neg (by omega : ¬ i - x < w), if_neg b]
      unfold tailR
      cases ins
      · rw [if_neg (by decide), getD_dropC, if_neg (by decide)]
        congr 1
        omega
      · rw [if_pos rfl, getD_dropC, if_pos rfl]
        congr 1
        omega
theorem writeOne_at (st : Int × Int × Int) (row : List C) (x w : Nat) (r : Int) (hw : w = 1 ∨ w = 2) (hr : wd r = (w : Int)) (hx : x + w ≤ row.length) (i : Nat) :
    (Grd.writeOne st row x r).getD i z0 = if i < x then row.getD i z0 else if i < x + w then (if i = x then (r, st) else (0, st)) else row.getD i z0 := by
  unfold Grd.writeOne
  rw [hr, if_neg (by omega)]
  rcases hw with rfl | rfl
  · rw [if_neg (by decide), getD_setC _ _ _ _ (by omega)]
    by_cases e : i = x
    · subst e
      simp
    · rw [if_neg e]
      by_cases a : i < x
      · rw [if_pos a]
      · rw [if_neg a, if_neg (by omega)]
  · rw [if_pos (by decide), getD_setC _ _ _ _ (by rw [List.length_set]; omega), getD_setC _ _ _ _ (by omega)]
    by_cases e : i = x
    · subst e
      simp
    · by_cases e1 : i = x + 1
      · subst e1
        rw [if_pos rfl, if_neg (by omega), if_pos (by omega), if_neg e]
      · rw [if_neg e1, if_neg e]
        by_cases a : i < x
        · rw [if_pos a]
        · rw [if_neg a, if_neg (by omega)]
/-- Without Insert. -/
theorem rowY_plain (st : Int × Int × Int) (row : List C) (x w : Nat) (r : Int) (hw : w = 1 ∨ w = 2) (hr : wd r = (w : Int)) (hx : x + w ≤ row.length) : mendL (rowY false st row x w r) = putRune st row x r := by
  unfold putRune
  congr 1
  refine Grd.ext_getD _ _ (by rw [rowY_len _ _ _ _ _ _ hw hx, Grd.writeOne_len]) fun i hi => ?_
  rw [rowY_len _ _ _ _ _ _ hw hx] at hi
  rw [rowY_at _ _ _ _ _ _ hw hx i hi, writeOne_at _ _ _ _ _ hw hr hx i]
  rfl
theorem insR_get (row : List C) (x w : Nat) (bk : Int) (hx : x + w ≤ row.length) (i : Nat) (hi : i < row.length) :
    (insR row x w bk).getD i z0 = if i < x then row.getD i z0 else if i < x + w then (32, 0, bk, 0) else row.getD (i - w) z0 := by
  unfold insR
  rw [getD_appC, List.length_take]
  have hm : min x row.length = x := by omega
  rw [hm]
  by_cases a : i < x
  · rw [if_pos a, if_pos a, getD_takeC _ _ _ a]
  · rw [if_neg a, if_neg a, getD_appC, List.length_replicate]
    by_cases b : i < x + w
    · rw [if_pos (by omega : i - x < w), if_pos b]
      have : i - x < w := by omega
      simp [List.getD, this]
    · rw [if_neg (by omega : ¬ i - x < w), if_neg b, getD_takeC _ _ _ (by omega), getD_dropC]
      congr 1
      omega
/-- With Insert. -/
theorem rowY_ins (st : Int × Int × Int) (row : List C) (x w : Nat) (r bk : Int) (hw : w = 1 ∨ w = 2) (hr : wd r = (w : Int)) (hx : x + w ≤ row.length) : mendL (rowY true st row x w r) = putRune st (mendL (insR row x w bk)) x r := by
  have hr0 : r ≠ 0 := fun e => by
    rw [e, wd0] at hr
    omega
  have hIl := insR_len row x w bk hx
  have hYl := rowY_len true st row x w r hw hx
  have hI := insR_get row x w bk hx
  have hY := rowY_at true st row x w r hw hx
  have inY : ∀ i, x ≤ i → i < x + w → loose (rowY true st row x w r) i = false := fun i h1 h2 => by
    have y0 := hY i (by omega)
    rw [if_neg (by omega : ¬ i < x), if_pos h2] at y0
    unfold loose
    rw [y0, hYl]
    by_cases e : i = x
    · rw [if_pos e]
      show (if r = 0 then _ else _) = false
      rw [if_neg hr0]
      rcases hw with rfl | rfl
      · show (decide (wd r = 2) && _) = false
        rw [hr]
        rfl
      · have y1 := hY (i + 1) (by omega)
        rw [if_neg (by omega : ¬ i + 1 < x), if_pos (by omega : i + 1 < x + 2), if_neg (by omega : ¬ i + 1 = x)] at y1
        rw [y1]
        have e2 : ¬ i + 1 = row.length := by omega
        simp [e2]
    · have ew : w = 2 := by omega
      subst ew
      have y1 := hY (i - 1) (by omega)
      rw [if_neg (by omega : ¬ i - 1 < x), if_pos (by omega : i - 1 < x + 2), if_pos (by omega : i - 1 = x)] at y1
      rw [if_neg e]
      show (if (0 : Int) = 0 then _ else _) = false
      rw [if_pos rfl, y1]
      show (decide (i = 0) || decide (wd r ≠ 2)) = false
      rw [hr]
      have e3 : ¬ i = 0 := by omega
      simp [e3]
  have out : ∀ i, i < row.length → ¬ (x ≤ i ∧ i < x + w) → (insR row x w bk).getD i z0 = (rowY true st row x w r).getD i z0 := fun i hi ho => by
    rw [hI i hi, hY i hi]
    by_cases a : i < x
    · rw [if_pos a, if_pos a]
    · rw [if_neg a, if_neg a, if_neg (by omega), if_neg (by omega)]
      rfl
  have lo : ∀ i, i < row.length → ¬ (x ≤ i ∧ i < x + w) → loose (insR row x w bk) i = loose (rowY true st row x w r) i := fun i hi ho => by
    unfold loose
    rw [out i hi ho, hIl, hYl]
    by_cases h0 : ((rowY true st row x w r).getD i z0).1 = 0
    · rw [if_pos h0, if_pos h0]
      by_cases ei : i = 0
      · simp [ei]
      · congr 1
        by_cases hin : x ≤ i - 1 ∧ i - 1 < x + w
        · rw [hI (i - 1) (by omega), hY (i - 1) (by omega), if_neg (by omega), if_pos hin.2, if_neg (by omega), if_pos hin.2]
          show decide (wd 32 ≠ 2) = _
          rw [wd32]
          rcases hw with rfl | rfl
          · rw [if_pos (by omega), hr]
            rfl
          · rw [if_neg (by omega)]
            show _ = decide (wd 0 ≠ 2)
            rw [wd0]
            rfl
        · rw [out (i - 1) (by omega) hin]
    · rw [if_neg h0, if_neg h0]
      by_cases el : i + 1 = row.length
      · simp [el]
      · congr 1
        congr 1
        by_cases hin : x ≤ i + 1 ∧ i + 1 < x + w
        · have ex : i + 1 = x := by omega
          rw [hI (i + 1) (by omega), hY (i + 1) (by omega), if_neg (by omega), if_pos hin.2, if_neg (by omega), if_pos hin.2, if_pos ex]
          simp [hr0]
        · rw [out (i + 1) (by omega) hin]
  have key : Grd.writeOne st (mendL (insR row x w bk)) x r = mendL (rowY true st row x w r) := by
    rw [Grd.mendL_eq, Grd.mendL_eq]
    have hml : (mendM (insR row x w bk)).length = row.length := by rw [Grd.mendM_len, hIl]
    refine Grd.ext_getD _ _ (by rw [Grd.writeOne_len, Grd.mendM_len, Grd.mendM_len, hIl, hYl]) fun i hi => ?_
    rw [Grd.writeOne_len, hml] at hi
    rw [writeOne_at st _ x w r hw hr (by rw [hml]; exact hx) i, Grd.mendM_at (rowY true st row x w r) i (by rw [hYl]; exact hi), Grd.mendM_at (insR row x w bk) i (by rw [hIl]; exact hi)]
    by_cases hin : x ≤ i ∧ i < x + w
    · have hnx : ¬ i < x := by omega
      have hly : ¬ loose (rowY true st row x w r) i = true := by rw [inY i hin.1 hin.2]; decide
      rw [if_neg hnx, if_pos hin.2, if_neg hly, hY i hi, if_neg hnx, if_pos hin.2]
    · rw [out i hi hin, lo i hi hin]
      by_cases a : i < x
      · rw [if_pos a]
      · rw [if_neg a, if_neg (by omega)]
  unfold putRune
  rw [key, mend_mend]
end Put
end Go.Proofs.YtmeeojgjboppoaaDoor

/- put.Text in general: what is printed, rune by rune; the screen stays right. -/
namespace Go.Proofs.YtmeeojgjboppoaaDoor
open Go.ChangeShapes Go.WideShapes Go.ChangeAt Go.RowKit
namespace Put
open Grd (C SliceAt CellsAt gridErr z0 nilV flat rowsL RightRow mendL)
open Sty (isSt)
open Txt (wd)
/-- A sheet whose screen is right. -/
structure PJ (n hh : Nat) (s : Scr) (rows : List (List C)) : Prop where
  r : RightS { s with cs := rows.flatten } n hh
  rl : rows.length = hh
  rr : RowsRt n rows
theorem PJ.start {s : Scr} {n hh : Nat} (h : RightS s n hh) : PJ n hh s (rowsL n s.cs hh) := by
  refine ⟨?_, Grd.rowsL_len _ _ _, rowsRt_of h⟩
  rw [h.flatten]
  exact h
theorem PJ.pi {n hh : Nat} {s : Scr} {rows : List (List C)} (h : PJ n hh s rows) : PI n hh s rows := by
  have hk := h.r.looks
  simp only [looksOk, Bool.and_eq_true] at hk
  exact ⟨h.r.w, h.r.h, h.r.n1, h.r.n2, h.r.h1, h.r.h2, h.r.x0, h.r.x1, h.r.y0, h.r.y1, h.r.t0, h.r.t1, h.r.t2, hk.1, h.rl, h.rr, h.r.gl⟩
/-- The cursor elsewhere, another last rune. -/
theorem RightS.at {s : Scr} {n hh : Nat} (h : RightS s n hh) (x y : Int) (late : Bool) (last : Int) (x0 : 0 ≤ x) (x1 : x < n) (y0 : 0 ≤ y) (y1 : y < hh) (hl : lateBad { s with x := x, y := y, late := late, last := last } = false) (ha : last = 0 ∨ wd last ≠ 0) : RightS { s with x := x, y := y, late := late, last := last } n hh :=
  ⟨h.w, h.h, h.n1, h.n2, h.h1, h.h2, h.cl, h.gz, x0, x1, y0, y1, h.kx0, h.kx1, h.ky0, h.ky1, h.t0, h.t1, h.t2, h.t3, hl, h.looks, h.tl, ha, h.ti, h.gl, h.gr⟩
theorem PJ.rows {n hh : Nat} {s : Scr} {rows rows' : List (List C)} (h : PJ n hh s rows) (hl : rows'.length = hh) (hr : RowsRt n rows') (g : List (List C)) (hg : g.length ≤ 50) (hg2 : ∀ row, row ∈ g → gridErr row.length 1 row = 0) : PJ n hh { s with gone := g } rows' :=
  ⟨(right_new h.r g rows' hl hr hg hg2).1, hl, hr⟩
theorem PJ.at {n hh : Nat} {s : Scr} {rows : List (List C)} (h : PJ n hh s rows) (x y : Int) (late : Bool) (last : Int) (x0 : 0 ≤ x) (x1 : x < n) (y0 : 0 ≤ y) (y1 : y < hh) (hl : lateBad { s with x := x, y := y, late := late, last := last } = false) (ha : last = 0 ∨ wd last ≠ 0) : PJ n hh { s with x := x, y := y, late := late, last := last } rows :=
  ⟨h.r.at x y late last x0 x1 y0 y1 hl ha, h.rl, h.rr⟩
theorem late_no (s : Scr) (h : s.late = false) : lateBad s = false := by
  unfold lateBad
  rw [h]
  rfl
theorem PJ.fed {n hh : Nat} {s : Scr} {rows : List (List C)} (h : PJ n hh s rows) : PJ n hh (fedP n s rows).1 (fedP n s rows).2 := by
  have hp := h.pi.fed
  have hi := h.pi
  have n1 := hi.n1
  have y0 := hi.y0
  have y1 := hi.y1
  have t0 := hi.t0
  have t1 := hi.t1
  have t2 := hi.t2
  have rl := hi.rl
  have eh := hi.h
  have hla := h.r.la
  unfold fedP at hp ⊢
  by_cases hq : s.y = s.bot
  · rw [if_pos hq] at hp ⊢
    have hgr : ∀ row, row ∈ (upS { s with x := 0, late := false } rows s.top.toNat).gone → gridErr row.length 1 row = 0 := fun row hrow => by
      unfold upS at hrow
      split at hrow
      · rcases keepG_mem hrow with q | q
        · exact h.r.gr row q
        · have h0 := h.rr 0 (by omega)
          rw [q, h0.1]
          exact roll_one n _ hi.n1 hi.n2 h0.1 h0.2
      · exact h.r.gr row hrow
    have hu := upS_same { s with x := 0, late := false } rows s.top.toNat
    have k := h.rows hp.rl hp.rr _ hp.gl hgr
    have k2 := k.at 0 s.y false s.last (by omega) (by omega) y0 y1 (late_no _ rfl) hla
    dsimp only at k2 ⊢
    rw [hu]
    exact k2
  · rw [if_neg hq]
    unfold feedS
    dsimp only
    split
    · exact h.at 0 (s.y + 1) false s.last (by omega) (by omega) (by omega) (by omega) (late_no _ rfl) hla
    · exact h.at 0 s.y false s.last (by omega) (by omega) y0 y1 (late_no _ rfl) hla
theorem PJ.turn {n hh : Nat} {s : Scr} {rows : List (List C)} (h : PJ n hh s rows) (r : Int) : PJ n hh (turnP n s rows r).1 (turnP n s rows r).2 := by
  unfold turnP
  split
  · exact h.fed
  · exact h
theorem fedP_late (n : Nat) (s : Scr) (rows : List (List C)) : (fedP n s rows).1.late = false := by
  unfold fedP
  split
  · dsimp only
    rw [upS_same]
  · unfold feedS
    dsimp only
    split <;> rfl
theorem turn_late (n : Nat) (s : Scr) (rows : List (List C)) (r : Int) : (turnP n s rows r).1.late = false := by
  unfold turnP
  by_cases hb : brkB s (wd r) = true
  · rw [if_pos hb]
    exact fedP_late n s rows
  · rw [if_neg hb]
    have h2 : brkB s (wd r) = false := by simpa using hb
    unfold brkB at h2
    simp only [Bool.or_eq_false_iff] at h2
    exact h2.1
theorem late_adv {s1 : Scr} {x : Int} {r : Int} (e : x = s1.w - 1) : lateBad { s1 with x := x, late := hasB s1.modes 4, last := r } = false := by
  unfold lateBad
  dsimp only
  cases hb : hasB s1.modes 4 with
  | false => rfl
  | true =>
    have h4 : bits .and .i64 s1.modes 4 = 4 := by simpa [hasB] using hb
    rw [h4]
    simp [e]
theorem PJ.print {n hh : Nat} {s : Scr} {rows : List (List C)} (h0 : PJ n hh s rows) (r : Int) : PJ n hh (prnP n s rows r).1 (prnP n s rows r).2 := by
  have hp := h0.pi.print r
  unfold prnP at hp ⊢
  by_cases hsk : wd r = 0 ∨ s.w < wd r
  · rw [if_pos hsk]
    exact h0
  · rw [if_neg hsk] at hp ⊢
    have h := h0.turn r
    have hlt := turn_late n s rows r
    generalize turnP n s rows r = t at *
    obtain ⟨s1, rows1⟩ := t
    dsimp only at h hlt hp ⊢
    by_cases hft : fitsB s1 (wd r) = false
    · rw [if_pos hft]
      exact h
    · rw [if_neg hft] at hp ⊢
      have hf : fitsB s1 (wd r) = true := by simpa using hft
      have hf' : wd r ≤ s1.w - s1.x := by simpa [fitsB] using hf
      have hw0 : wd r ≠ 0 := fun e => hsk (.inl e)
      have hk := Txt.wd_range r
      have n1 := h.pi.n1
      have x0 := h.pi.x0
      have ew := h.pi.w
      have k := h.rows hp.rl hp.rr s1.gone h.r.gl h.r.gr
      dsimp only at k ⊢
      by_cases hq : s1.x + wd r = s1.w
      · have ea : advS s1 (wd r) = { s1 with x := s1.w - 1, late := hasB s1.modes 4 } := by unfold advS; rw [if_pos hq]
        rw [ea]
        exact k.at (s1.w - 1) s1.y (hasB s1.modes 4) r (by omega) (by omega) h.pi.y0 h.pi.y1 (late_adv (s1 := s1) rfl) (.inr hw0)
      · have ea : advS s1 (wd r) = { s1 with x := s1.x + wd r } := by unfold advS; rw [if_neg hq]
        rw [ea]
        exact k.at (s1.x + wd r) s1.y s1.late r (by omega) (by omega) h.pi.y0 h.pi.y1 (late_no _ hlt) (.inr hw0)
/-- What printing leaves as it is. -/
def Held (a b : Scr) : Prop := a.w = b.w ∧ a.h = b.h ∧ a.sf = b.sf ∧ a.sb = b.sb ∧ a.sx = b.sx ∧ a.top = b.top ∧ a.bot = b.bot ∧ a.modes = b.modes ∧ a.tabs = b.tabs ∧ a.kx = b.kx ∧ a.ky = b.ky ∧ a.kf = b.kf ∧ a.kb = b.kb ∧ a.kbits = b.kbits ∧ a.km = b.km ∧ a.title = b.title
theorem Held.refl (a : Scr) : Held a a := ⟨rfl, rfl, rfl, rfl, rfl, rfl, rfl, rfl, rfl, rfl, rfl, rfl, rfl, rfl, rfl, rfl⟩
theorem Held.trans {a b c : Scr} (h : Held a b) (k : Held b c) : Held a c := by
  obtain ⟨h1, h2, h3, h4, h5, h6, h7, h8, h9, h10, h11, h12, h13, h14, h15, h16⟩ := h
  obtain ⟨k1, k2, k3, k4, k5, k6, k7, k8, k9, k10, k11, k12, k13, k14, k15, k16⟩ := k
  exact ⟨h1.trans k1, h2.trans k2, h3.trans k3, h4.trans k4, h5.trans k5, h6.trans k6, h7.trans k7, h8.trans k8, h9.trans k9, h10.trans k10, h11.trans k11, h12.trans k12, h13.trans k13, h14.trans k14, h15.trans k15, h16.trans k16⟩
theorem turn_held (n : Nat) (s : Scr) (rows : List (List C)) (r : Int) : Held (turnP n s rows r).1 s := by
  unfold turnP
  split
  · unfold fedP
    split
    · dsimp only
      rw [upS_same]
      exact Held.refl s
    · unfold feedS
      dsimp only
      split
      · exact Held.refl s
      · exact Held.refl s
  · exact Held.refl s
theorem prnP_held (n : Nat) (s : Scr) (rows : List (List C)) (r : Int) : Held (prnP n s rows r).1 s := by
  have h := turn_held n s rows r
  unfold prnP
  split
  · exact Held.refl s
  · split
    · exact h
    · refine Held.trans ?_ h
      generalize (turnP n s rows r).1 = s1
      unfold advS
      dsimp only
      split
      · exact Held.refl s1
      · exact Held.refl s1
/-- What is printed of a text, so many runes of it. -/
def stP (n : Nat) (t : ByteArray) (s : Scr) (rows : List (List C)) : Nat → Scr × List (List C)
  | 0 => (s, rows)
  | i + 1 => prnP n (stP n t s rows i).1 (stP n t s rows i).2 ((Txt.runes t).getD i (0, 0)).1
theorem PJ.text {n hh : Nat} {s : Scr} {rows : List (List C)} (h : PJ n hh s rows) (t : ByteArray) : ∀ i, PJ n hh (stP n t s rows i).1 (stP n t s rows i).2
  | 0 => h
  | i + 1 => (PJ.text h t i).print _
theorem stP_held (n : Nat) (t : ByteArray) (s : Scr) (rows : List (List C)) : ∀ i, Held (stP n t s rows i).1 s
  | 0 => Held.refl s
  | i + 1 => (prnP_held n _ _ _).trans (stP_held n t s rows i)
theorem text_does {n hh : Nat} {s : Scr} {rows : List (List C)} (h : PJ n hh s rows) (t : ByteArray) (B M : Nat) (w : World) (hT : Txt.Tab w) (hB : w.cell? ⟨B, 0, none⟩ = some (.string t)) :
    Does 18 #[.pointer (some ⟨B, 0, none⟩)] M w s (stP n t s rows (Txt.runes t).length).1 rows (stP n t s rows (Txt.runes t).length).2 :=
  text1_does t B M w (stP n t s rows) hB fun i _ X p hX hS => print_any (PJ.text h t i).pi _ X M w.heap.size p (Grd.Tab.next hT hX) hT.pos hS
theorem plain_textT : Plain 18 := by
  intro args W
  kernel_rfl
/-- Text, on a right screen. -/
theorem ptext_any {w0 w : World} {s : Scr} {cv tv gv : Value} {n hh : Nat} (h : Met w0 w s cv tv gv) (hR : RightS s n hh) (t : ByteArray) (ht : t.size ≤ 4000) :
    Calls Tryd.prog 7 #[.agg (scrA s cv tv gv), .string t] w (Made w0 w { (stP n t s (rowsL n s.cs hh) (Txt.runes t).length).1 with cs := (stP n t s (rowsL n s.cs hh) (Txt.runes t).length).2.flatten } 0) ∧ RightS { (stP n t s (rowsL n s.cs hh) (Txt.runes t).length).1 with cs := (stP n t s (rowsL n s.cs hh) (Txt.runes t).length).2.flatten } n hh := by
  have hj := PJ.start hR
  have he := hj.text t (Txt.runes t).length
  refine ⟨?_, he.r⟩
  have hz := rightErr hR
  have key := putText_any s { (stP n t s (rowsL n s.cs hh) (Txt.runes t).length).1 with cs := (stP n t s (rowsL n s.cs hh) (Txt.runes t).length).2.flatten } cv tv gv t ht w0 w h.t h.v h.b h.f
  rw [hz] at key
  refine key fun W B hW hB => ?_
  exact change_good n hh s _ _ cv tv gv _ plain_textT _ w0 W h.v (h.b.trans (hW.mono h.b.size)) h.f hR.w hR.h hR.gz (fun w1 hw1 => text_does hj t B _ w1 (Grd.Tab.next (Grd.Tab.next h.t hW) hw1) (cell_stay hw1 hB)) (rowsOk hR _ _ he.rl (fun i hi => (he.rr i hi).1) (by have := he.r.gl; show (stP n t s (rowsL n s.cs hh) (Txt.runes t).length).1.gone.length ≤ 51; exact Nat.le_succ_of_le this) (fun i hi => by have := he.r.gone_le i hi; exact Nat.le_trans this (by omega))) _ rfl
end Put
end Go.Proofs.YtmeeojgjboppoaaDoor

/- What is printed of two texts, one behind the other. -/
namespace Go.Proofs.YtmeeojgjboppoaaDoor
namespace Txt
theorem dec_L (l : List UInt8) : dec l = Lib.decodeL l := (Lib.decodeL_N l).symm
/-- Behind a valid text the runes of another one follow. -/
theorem rn_valid : ∀ (k : Nat) (a b : List UInt8), a.length ≤ k → Lib.validD a = true → rn (a ++ b) = rn a ++ rn b
  | 0, a, b, hk, _ => by
    have : a = [] := List.length_eq_zero_iff.1 (by omega)
    subst this
    rfl
  | k + 1, a, b, hk, hv => by
    by_cases ha : a = []
    · subst ha
      rfl
    · rw [Lib.validD_step a ha] at hv
      by_cases hb : (Lib.decodeL a).1 = 65533 ∧ (Lib.decodeL a).2 = 1
      · rw [if_pos hb] at hv
        cases hv
      · rw [if_neg hb] at hv
        have he := Lib.encode_decode a ha hb
        rw [← dec_L] at he hv
        have hok := dec_ok a
        have hp := dec_pos a
        have hsp : a = Lib.encodeRune ((dec a).1 : Int) ++ a.drop (dec a).2 := by rw [he, List.take_append_drop]
        have ih := rn_valid k (a.drop (dec a).2) b (by rw [List.length_drop]; omega) hv
        have h1 := rn_encode ((dec a).1 : Int) hok (a.drop (dec a).2)
        have h2 := rn_encode ((dec a).1 : Int) hok (a.drop (dec a).2 ++ b)
        rw [← hsp] at h1
        rw [← List.append_assoc, ← hsp] at h2
        rw [h1, h2, ih]
        rfl
theorem runes_valid (a b : ByteArray) (h : Lib.validD a.data.toList = true) : runes (a ++ b) = runes a ++ runes b := by
  rw [runes_rn, runes_rn, runes_rn]
  have e : (a ++ b).data.toList = a.data.toList ++ b.data.toList := by
    have := bs_append a.data.toList b.data.toList
    rw [bs_self, bs_self] at this
    rw [this, bs_data]
  rw [e]
  exact rn_valid _ _ _ (Nat.le_refl _) h
end Txt
namespace Put
open Grd (C SliceAt CellsAt gridErr z0 nilV flat rowsL)
open Txt (wd)
/-- Runes printed one after the other. -/
def prnF (n : Nat) (x : Scr × List (List C)) (l : List (Int × Nat)) : Scr × List (List C) := l.foldl (fun x r => prnP n x.1 x.2 r.1) x
theorem prnF_append (n : Nat) (x : Scr × List (List C)) (l l' : List (Int × Nat)) : prnF n x (l ++ l') = prnF n (prnF n x l) l' := by
  unfold prnF
  rw [List.foldl_append]
theorem stP_fold (n : Nat) (t : ByteArray) (s : Scr) (rows : List (List C)) : ∀ i, i ≤ (Txt.runes t).length → stP n t s rows i = prnF n (s, rows) ((Txt.runes t).take i)
  | 0, _ => by rw [List.take_zero]; rfl
  | i + 1, h => by
    have ih := stP_fold n t s rows i (by omega)
    have hi : i < (Txt.runes t).length := by omega
    have e : (Txt.runes t).getD i (0, 0) = (Txt.runes t)[i] := by simp [List.getD, hi]
    show prnP n (stP n t s rows i).1 (stP n t s rows i).2 ((Txt.runes t).getD i (0, 0)).1 = _
    rw [ih, e, List.take_add_one, List.getElem?_eq_getElem hi, Option.toList_some, prnF_append]
    rfl
theorem stP_all (n : Nat) (t : ByteArray) (s : Scr) (rows : List (List C)) : stP n t s rows (Txt.runes t).length = prnF n (s, rows) (Txt.runes t) := by
  rw [stP_fold n t s rows _ (Nat.le_refl _), List.take_length]
theorem turn_cs (n : Nat) (s : Scr) (rows : List (List C)) (r : Int) (c : List C) : turnP n { s with cs := c } rows r = ({ (turnP n s rows r).1 with cs := c }, (turnP n s rows r).2) := by
  unfold turnP
  by_cases h : brkB s (wd r) = true
  · have h' : brkB { s with cs := c } (wd r) = true := h
    rw [if_pos h, if_pos h']
    unfold fedP
    by_cases h2 : s.y = s.bot
    · rw [if_pos (show ({ s with cs := c } : Scr).y = ({ s with cs := c } : Scr).bot from h2), if_pos h2]
      unfold upS
      dsimp only
      split <;> rfl
    · rw [if_neg (show ¬ ({ s with cs := c } : Scr).y = ({ s with cs := c } : Scr).bot from h2), if_neg h2]
      unfold feedS
      dsimp only
      split <;> rfl
  · have h' : ¬ brkB { s with cs := c } (wd r) = true := h
    rw [if_neg h, if_neg h']
theorem prnP_cs (n : Nat) (s : Scr) (rows : List (List C)) (r : Int) (c : List C) : prnP n { s with cs := c } rows r = ({ (prnP n s rows r).1 with cs := c }, (prnP n s rows r).2) := by
  unfold prnP
  rw [turn_cs]
  generalize turnP n s rows r = q
  by_cases h1 : wd r = 0 ∨ s.w < wd r
  · rw [if_pos h1, if_pos (show wd r = 0 ∨ ({ s with cs := c } : Scr).w < wd r from h1)]
  · rw [if_neg h1, if_neg (show ¬ (wd r = 0 ∨ ({ s with cs := c } : Scr).w < wd r) from h1)]
    by_cases h2 : fitsB q.1 (wd r) = false
    · rw [if_pos h2, if_pos (show fitsB ({ q.1 with cs := c } : Scr) (wd r) = false from h2)]
    · rw [if_neg h2, if_neg (show ¬ fitsB ({ q.1 with cs := c } : Scr) (wd r) = false from h2)]
      unfold advS
      dsimp only
      split <;> rfl
theorem prnF_cs (n : Nat) (c : List C) : ∀ (l : List (Int × Nat)) (s : Scr) (rows : List (List C)), prnF n ({ s with cs := c }, rows) l = ({ (prnF n (s, rows) l).1 with cs := c }, (prnF n (s, rows) l).2)
  | [], s, rows => rfl
  | r :: l, s, rows => by
    have e : prnF n ({ s with cs := c }, rows) (r :: l) = prnF n (prnP n { s with cs := c } rows r.1) l := rfl
    have e2 : prnF n (s, rows) (r :: l) = prnF n (prnP n s rows r.1) l := rfl
    rw [e, e2, prnP_cs]
    exact prnF_cs n c l (prnP n s rows r.1).1 (prnP n s rows r.1).2
/-- What a text makes of a screen. -/
def textS (n hh : Nat) (t : ByteArray) (s : Scr) : Scr := { (prnF n (s, rowsL n s.cs hh) (Txt.runes t)).1 with cs := (prnF n (s, rowsL n s.cs hh) (Txt.runes t)).2.flatten }
theorem textS_st (n hh : Nat) (t : ByteArray) (s : Scr) : ({ (stP n t s (rowsL n s.cs hh) (Txt.runes t).length).1 with cs := (stP n t s (rowsL n s.cs hh) (Txt.runes t).length).2.flatten } : Scr) = textS n hh t s := by
  unfold textS
  rw [stP_all]
theorem PJ.fold {n hh : Nat} {s : Scr} {rows : List (List C)} (h : PJ n hh s rows) (t : ByteArray) : PJ n hh (prnF n (s, rows) (Txt.runes t)).1 (prnF n (s, rows) (Txt.runes t)).2 := by
  have := h.text t (Txt.runes t).length
  rwa [stP_all] at this
theorem PJ.back {n hh : Nat} {s : Scr} {rows : List (List C)} (h : PJ n hh s rows) : rowsL n rows.flatten hh = rows :=
  (right_new h.r s.gone rows h.rl h.rr h.r.gl h.r.gr).2
theorem textS_row {n hh : Nat} {s : Scr} (h : RightS s n hh) (a b : ByteArray) (hv : Lib.validD a.data.toList = true) : textS n hh b (textS n hh a s) = textS n hh (a ++ b) s := by
  have hj := (PJ.start h).fold a
  have e : rowsL n (textS n hh a s).cs hh = (prnF n (s, rowsL n s.cs hh) (Txt.runes a)).2 := hj.back
  have k : prnF n (textS n hh a s, rowsL n (textS n hh a s).cs hh) (Txt.runes b) = ({ (prnF n (s, rowsL n s.cs hh) (Txt.runes (a ++ b))).1 with cs := (prnF n (s, rowsL n s.cs hh) (Txt.runes a)).2.flatten }, (prnF n (s, rowsL n s.cs hh) (Txt.runes (a ++ b))).2) := by
    rw [e, Txt.runes_valid a b hv, prnF_append]
    exact prnF_cs n _ (Txt.runes b) _ _
  show ({ (prnF n (textS n hh a s, rowsL n (textS n hh a s).cs hh) (Txt.runes b)).1 with cs := (prnF n (textS n hh a s, rowsL n (textS n hh a s).cs hh) (Txt.runes b)).2.flatten } : Scr) = _
  rw [k]
  rfl
end Put
end Go.Proofs.YtmeeojgjboppoaaDoor

/- What is clean stays so: the runes of a clean text. -/
namespace Go.Proofs.YtmeeojgjboppoaaDoor
namespace Txt
/-- The runes that take a cell, each with how many bytes it takes when it is written anew. -/
def anew : List (Int × Nat) → List (Int × Nat)
  | [] => []
  | x :: t => if 0 < wd x.1 then (x.1, (Lib.encodeRune x.1).length) :: anew t else anew t
theorem rn_clean : ∀ L : List (Int × Nat), (∀ x ∈ L, okRune x.1) → rn (cleanL L) = anew L
  | [], _ => rfl
  | x :: t, h => by
    have ht := rn_clean t (fun y hy => h y (by simp [hy]))
    unfold cleanL anew
    split
    · rw [rn_encode x.1 (h x (by simp)), ht]
    · simpa using ht
theorem clean_anew : ∀ L : List (Int × Nat), cleanL (anew L) = cleanL L
  | [] => rfl
  | x :: t => by
    unfold anew
    split
    · rename_i h; simp [cleanL, h, clean_anew t]
    · rename_i h; simp [cleanL, h, clean_anew t]
theorem wide_anew : ∀ L : List (Int × Nat), wideL (anew L) = wideL L
  | [] => rfl
  | x :: t => by
    have := wd_range x.1
    unfold anew
    split
    · simp [wideL, wide_anew t]
    · simp only [wideL, wide_anew t]; omega
theorem anew_length : ∀ L : List (Int × Nat), (anew L).length ≤ L.length
  | [] => by simp [anew]
  | x :: t => by
    have := anew_length t
    unfold anew
    split
    · simp; omega
    · simp; omega
theorem clean_length : ∀ L : List (Int × Nat), (cleanL L).length ≤ 4 * L.length
  | [] => by simp [cleanL]
  | x :: t => by
    have := clean_length t
    have := encodeRune_length x.1
    unfold cleanL
    split
    · simp; omega
    · simp; omega
end Txt
end Go.Proofs.YtmeeojgjboppoaaDoor

/- The walk of grid.Lines. -/
namespace Go.Proofs.YtmeeojgjboppoaaDoor
open Go.ChangeShapes Go.WideShapes Go.ChangeAt Go.RowKit
namespace Grd
open Txt (wd)
open Sty (isSt)
/-- The bytes of a row's runes, and without blanks at the end. -/
def rowBytes (row : List C) : List UInt8 := row.flatMap fun c => if c.1 = 0 then [] else Lib.encodeRune c.1
def lineB (row : List C) : ByteArray := ⟨(Lib.trimRightB (rowBytes row) 32).toArray⟩
def linesL (n hh : Nat) (cs : List C) : List ByteArray := (List.range hh).map fun y => lineB (rowAt n cs y)
/-- A slice of the call's own, of texts. -/
def OwnS (w : World) (base : Nat) (v : Value) (ss : List ByteArray) : Prop := ∃ (g : Nat) (t : TypeId), v = .slice (some ⟨g, 0, none⟩) ss.length ss.length ∧ base ≤ g ∧ w.heap[g]? = some (.cells (ss.map Value.string).toArray t (0, 0))
theorem builder_below {T e : TypeId} {B b : Nat} {bs : List Value} {w w' : World} (h : Lib.IsBuilderF T e B b bs w) (hb : Below w.heap.size w w') : Lib.IsBuilderF T e B b bs w' := by
  have key : ∀ p, Lib.BuilderAtF T e B b p bs w → Lib.BuilderAtF T e B b p bs w' := by
    rintro p ⟨hB, v, hh, hown, hne⟩
    refine ⟨hB, v, by rw [hb.block b (Array.getElem?_eq_some_iff.1 hh).1]; exact hh, ⟨hown.1, ?_⟩, hne⟩
    rcases hown.2 with hn | ⟨g, cap, cur, fz, hv, hbg, hg, rest⟩
    · exact .inl hn
    · exact .inr ⟨g, cap, cur, fz, hv, hbg, by rw [hb.block g (Array.getElem?_eq_some_iff.1 hg).1]; exact hg, rest⟩
  exact h.elim (fun x => .inl (key _ x)) (fun x => .inr (key _ x))
theorem encode_len (r : Int) : (Lib.encodeRune r).length ≤ 4 := by
  rw [← Lib.runeCells_length]; exact (Lib.runeCells_le r).2
theorem cellR_in (n hh : Nat) (cs : List C) (hok : gridErr n hh cs = 0) (y j : Nat) (hy : y < hh) (hj : j < n) : 0 ≤ ((rowAt n cs y).getD j z0).1 ∧ ((rowAt n cs y).getD j z0).1 ≤ 1114111 := by
  obtain ⟨_, hL, hr⟩ := (gridErr_zero n hh cs).1 hok
  have := ((hr y hy).1 j (by rw [row_len n hh cs y hL hy]; exact hj)).1
  generalize ((rowAt n cs y).getD j z0).1 = r at *
  by_cases h0 : r = 0
  · omega
  · have := this h0
    unfold Txt.wd at this
    by_cases hc : r < 0 ∨ 1114111 < r
    · rw [if_pos hc] at this; exact absurd rfl this
    · omega
theorem rowBytes_next (row : List C) (j : Nat) (hj : j < row.length) : rowBytes (row.take (j + 1)) = rowBytes (row.take j) ++ (if (row.getD j z0).1 = 0 then [] else Lib.encodeRune (row.getD j z0).1) := by
  unfold rowBytes
  rw [List.take_add_one, List.flatMap_append, List.getElem?_eq_getElem hj]
  have : row.getD j z0 = row[j] := by simp [List.getD, hj]
  rw [this]
  simp
end Grd
end Go.Proofs.YtmeeojgjboppoaaDoor

/- What is printed of a clean text on a new screen of one row. No function is walked here. -/
namespace Go.Proofs.YtmeeojgjboppoaaDoor
namespace Txt
/-- Runes as bytes. -/
def enc (l : List (Int × Nat)) : List UInt8 := l.flatMap fun x => Lib.encodeRune x.1
theorem clean_enc : ∀ L : List (Int × Nat), cleanL L = enc (anew L)
  | [] => rfl
  | x :: t => by
    have ih := clean_enc t
    unfold cleanL anew
    split
    · rw [ih]
      rfl
    · rw [ih]
      rfl
theorem anew_ok : ∀ (L : List (Int × Nat)), (∀ x ∈ L, okRune x.1) → ∀ x ∈ anew L, okRune x.1 ∧ 0 < wd x.1 ∧ x.2 = (Lib.encodeRune x.1).length
  | [], _ => by simp [anew]
  | x :: t, h => by
    have ih := anew_ok t (fun y hy => h y (by simp [hy]))
    intro y hy
    unfold anew at hy
    split at hy
    · rename_i h0
      rcases List.mem_cons.1 hy with e | e
      · subst e
        exact ⟨h x (by simp), h0, rfl⟩
      · exact ih y e
    · exact ih y hy
theorem enc_cut (n : Int) : ∀ (L : List (Int × Nat)) (w : Int), (∀ x ∈ L, x.2 = (Lib.encodeRune x.1).length) → (enc L).take (cutL n L w) = enc (keepL n L w)
  | [], _, _ => rfl
  | x :: t, w, h => by
    have ih := enc_cut n t (w + wd x.1) (fun y hy => h y (by simp [hy]))
    have hx := h x (by simp)
    unfold cutL keepL
    split
    · rfl
    · show (Lib.encodeRune x.1 ++ enc t).take (x.2 + cutL n t (w + wd x.1)) = Lib.encodeRune x.1 ++ enc (keepL n t (w + wd x.1))
      rw [hx, List.take_length_add_append, ih]
theorem keep_mem (n : Int) (L : List (Int × Nat)) (w : Int) (x : Int × Nat) (h : x ∈ keepL n L w) : x ∈ L := by
  rw [← keep_left n L w]
  exact List.mem_append_left _ h
/-- A text that was cleaned and cut: its runes. -/
theorem cut_clean (t : ByteArray) (n : Nat) : ∃ l : List (Int × Nat), cutS (bs (cleanL (runes t))) n = enc l ∧ rn (cutS (bs (cleanL (runes t))) n) = l ∧ (∀ x ∈ l, okRune x.1 ∧ 0 < wd x.1) ∧ wideL l ≤ n := by
  have hok : ∀ x ∈ runes t, okRune x.1 := by
    intro x hx
    rw [runes_rn] at hx
    exact rl_ok _ _ x hx
  have hA := anew_ok (runes t) hok
  have hR : runes (bs (cleanL (runes t))) = anew (runes t) := by rw [runes_rn, bs_data]; exact rn_clean _ hok
  have hcut : cutS (bs (cleanL (runes t))) n = enc (keepL n (anew (runes t)) 0) := by
    unfold cutS
    rw [bs_data, hR, clean_enc, enc_cut _ _ _ (fun x hx => (hA x hx).2.2)]
  refine ⟨keepL n (anew (runes t)) 0, hcut, ?_, fun x hx => ?_, ?_⟩
  · unfold cutS
    rw [bs_data, hR]
    have hr : rn (cleanL (runes t)) = anew (runes t) := rn_clean _ hok
    rw [← hr]
    exact (cut_runes n (cleanL (runes t)) 0).1
  · have h := hA x (keep_mem _ _ _ _ hx)
    exact ⟨h.1, h.2.1⟩
  · have h := keep_wide n (anew (runes t)) 0 (by omega)
    omega
theorem wide_nn : ∀ l : List (Int × Nat), 0 ≤ wideL l
  | [] => by simp [wideL]
  | x :: t => by
    have := wide_nn t
    have := wd_range x.1
    simp only [wideL]
    omega
end Txt
namespace Put
open Grd (C z0 mendL mendM loose rowBytes lineB)
open Txt (wd wideL enc)
/-- The cells of runes that lie side by side. -/
def cellsOf : List (Int × Nat) → List C
  | [] => []
  | x :: t => cells2 (0, 0, 0) x.1 (wd x.1).toNat ++ cellsOf t
theorem cells2_len (st : Int × Int × Int) (r : Int) : (cells2 st r (wd r).toNat).length = (wd r).toNat := by
  have := Txt.wd_range r
  unfold cells2
  rw [List.length_take]
  simp
  omega
theorem cellsOf_len : ∀ l : List (Int × Nat), ((cellsOf l).length : Int) = wideL l
  | [] => rfl
  | x :: t => by
    have ih := cellsOf_len t
    have := Txt.wd_range x.1
    unfold cellsOf
    rw [List.length_append, cells2_len]
    simp only [wideL]
    omega
theorem cellsOf_snoc (x : Int × Nat) : ∀ l : List (Int × Nat), cellsOf (l ++ [x]) = cellsOf l ++ cells2 (0, 0, 0) x.1 (wd x.1).toNat
  | [] => by simp [cellsOf]
  | y :: t => by
    have ih := cellsOf_snoc x t
    show cells2 (0, 0, 0) y.1 (wd y.1).toNat ++ cellsOf (t ++ [x]) = _
    rw [ih]
    show _ = (cells2 (0, 0, 0) y.1 (wd y.1).toNat ++ cellsOf t) ++ _
    rw [List.append_assoc]
/-- No half stands alone. -/
def Whole (cs : List C) : Prop := ∀ i, i < cs.length → loose cs i = false
theorem mend_whole {cs : List C} (h : Whole cs) : mendL cs = cs := by
  rw [Grd.mendL_eq]
  refine Grd.ext_getD _ _ (Grd.mendM_len cs) fun i hi => ?_
  rw [Grd.mendM_len] at hi
  rw [Grd.mendM_at cs i hi, if_neg (by rw [h i hi]; decide)]
theorem whole_blank (m : Nat) : Whole (List.replicate m (32, 0, 0, 0)) := fun i hi => by
  rw [List.length_replicate] at hi
  have e : (List.replicate m ((32, 0, 0, 0) : C)).getD i z0 = (32, 0, 0, 0) := by simp [List.getD, hi]
  unfold loose
  rw [e, if_neg (by decide)]
  show (decide (wd 32 = 2) && _) = false
  rw [wd32]
  rfl
/-- A rune's cells ahead of what is whole. -/
theorem whole_cons (r : Int) (hr : 0 < wd r) (cs : List C) (h : Whole cs) (h0 : ∀ c, cs[0]? = some c → c.1 ≠ 0) : Whole (cells2 (0, 0, 0) r (wd r).toNat ++ cs) := by
  have hk := Txt.wd_range r
  have hr0 : r ≠ 0 := fun e => by
    rw [e, wd0] at hr
    omega
  have hl := cells2_len (0, 0, 0) r
  intro i hi
  rw [List.length_append, hl] at hi
  have hget : ∀ j, (cells2 (0, 0, 0) r (wd r).toNat ++ cs).getD j z0 = if j < (wd r).toNat then (cells2 (0, 0, 0) r (wd r).toNat).getD j z0 else cs.getD (j - (wd r).toNat) z0 := fun j => by rw [getD_appC, hl]
  have hin : ∀ j, j < (wd r).toNat → (cells2 (0, 0, 0) r (wd r).toNat).getD j z0 = if j = 0 then (r, 0, 0, 0) else (0, 0, 0, 0) := fun j hj => by
    unfold cells2
    rw [getD_takeC _ _ _ hj]
    have e : j = 0 ∨ j = 1 := by omega
    rcases e with rfl | rfl <;> rfl
  by_cases hi0 : i < (wd r).toNat
  · unfold loose
    rw [hget i, if_pos hi0, hin i hi0]
    by_cases e : i = 0
    · subst e
      rw [if_pos rfl]
      show (if r = 0 then _ else _) = false
      rw [if_neg hr0]
      by_cases e2 : wd r = 2
      · rw [hget (0 + 1), if_pos (by omega), hin (0 + 1) (by omega), if_neg (by omega), List.length_append, hl]
        have : ¬ 0 + 1 = (wd r).toNat + cs.length := by omega
        simp [this]
      · simp [e2]
    · have e1 : i = 1 := by omega
      subst e1
      have ee : (if (1 : Nat) = 0 then ((r, 0, 0, 0) : C) else (0, 0, 0, 0)) = (0, 0, 0, 0) := rfl
      rw [ee]
      show (if (0 : Int) = 0 then _ else _) = false
      rw [if_pos rfl, hget (1 - 1), if_pos (by omega), hin (1 - 1) (by omega), if_pos (by rfl)]
      have e2 : wd r = 2 := by omega
      simp [e2]
  · have hj := h (i - (wd r).toNat) (by omega)
    obtain ⟨j, ej⟩ : ∃ j, i = (wd r).toNat + j := ⟨i - (wd r).toNat, by omega⟩
    subst ej
    rw [Nat.add_sub_cancel_left] at hj
    unfold loose at hj ⊢
    rw [hget, if_neg hi0, Nat.add_sub_cancel_left]
    have hjl : j < cs.length := by omega
    by_cases e0 : (cs.getD j z0).1 = 0
    · rw [if_pos e0] at hj ⊢
      have hj1 : 0 < j := by
        rcases Nat.eq_zero_or_pos j with e | e
        · subst e
          have e5 : cs[0]? = some (cs[0]'hjl) := List.getElem?_eq_getElem hjl
          have e6 := h0 _ e5
          have e7 : cs.getD 0 z0 = cs[0]'hjl := by simp [List.getD, hjl]
          rw [e7] at e0
          exact absurd e0 e6
        · exact e
      rw [hget ((wd r).toNat + j - 1), if_neg (by omega), show (wd r).toNat + j - 1 - (wd r).toNat = j - 1 by omega]
      have e8 : ¬ j = 0 := by omega
      have e9 : ¬ (wd r).toNat + j = 0 := by omega
      rw [decide_eq_false e8] at hj
      rw [decide_eq_false e9]
      exact hj
    · rw [if_neg e0] at hj ⊢
      rw [hget ((wd r).toNat + j + 1), if_neg (by omega), show (wd r).toNat + j + 1 - (wd r).toNat = j + 1 by omega, List.length_append, hl]
      have e8 : (decide ((wd r).toNat + j + 1 = (wd r).toNat + cs.length)) = decide (j + 1 = cs.length) := by rw [decide_eq_decide]; omega
      rw [e8]
      exact hj
theorem whole_cells (m : Nat) : ∀ l : List (Int × Nat), (∀ x ∈ l, 0 < wd x.1) → Whole (cellsOf l ++ List.replicate m (32, 0, 0, 0)) ∧ ∀ c, (cellsOf l ++ List.replicate m ((32, 0, 0, 0) : C))[0]? = some c → c.1 ≠ 0
  | [], _ => by
    refine ⟨whole_blank m, fun c hc => ?_⟩
    have h2 : (List.replicate m ((32, 0, 0, 0) : C))[0]? = some c := hc
    rw [List.getElem?_replicate] at h2
    split at h2
    · injection h2 with h2
      rw [← h2]
      decide
    · cases h2
  | x :: t, h => by
    have ih := whole_cells m t (fun y hy => h y (by simp [hy]))
    have hx := h x (by simp)
    have hr0 : x.1 ≠ 0 := fun e => by
      rw [e, wd0] at hx
      omega
    have e : cellsOf (x :: t) ++ List.replicate m ((32, 0, 0, 0) : C) = cells2 (0, 0, 0) x.1 (wd x.1).toNat ++ (cellsOf t ++ List.replicate m (32, 0, 0, 0)) := by
      show (cells2 (0, 0, 0) x.1 (wd x.1).toNat ++ cellsOf t) ++ _ = _
      rw [List.append_assoc]
    rw [e]
    refine ⟨whole_cons x.1 hx _ ih.1 ih.2, fun c hc => ?_⟩
    have h1 : 0 < (cells2 (0, 0, 0) x.1 (wd x.1).toNat).length := by rw [cells2_len]; omega
    rw [List.getElem?_append_left h1] at hc
    unfold cells2 at hc
    rw [List.getElem?_take_of_lt (by omega)] at hc
    have h2 : some ((x.1, 0, 0, 0) : C) = some c := hc
    injection h2 with h2
    rw [← h2]
    exact hr0
/-- What stands on the row behind so many runes. -/
structure Std (n : Nat) (l : List (Int × Nat)) (s : Scr) (rows : List (List C)) : Prop where
  w : s.w = n
  y : s.y = 0
  x : s.x = if wideL l = n then (n : Int) - 1 else wideL l
  late : s.late = decide (wideL l = n)
  modes : s.modes = 4
  sf : s.sf = 0
  sb : s.sb = 0
  sx : s.sx = 0
  rows : rows = [cellsOf l ++ List.replicate (n - (wideL l).toNat) (32, 0, 0, 0)]
theorem std_step {n : Nat} {l : List (Int × Nat)} {s : Scr} {rows : List (List C)} (h : Std n l s rows) (x : Int × Nat) (hl : ∀ y ∈ l, 0 < wd y.1) (hx : 0 < wd x.1) (hw : wideL l + wd x.1 ≤ n) : Std n (l ++ [x]) (prnP n s rows x.1).1 (prnP n s rows x.1).2 := by
  have hnn := Txt.wide_nn l
  have hk := Txt.wd_range x.1
  have hlt : wideL l ≠ n := by omega
  have hlate : s.late = false := by rw [h.late]; simp [hlt]
  have hsx : s.x = wideL l := by rw [h.x, if_neg hlt]
  have hfit : fitsB s (wd x.1) = true := by unfold fitsB; rw [decide_eq_true_eq, h.w, hsx]; omega
  have hbrk : brkB s (wd x.1) = false := by unfold brkB; rw [hlate, hfit]; cases hasB s.modes 4 <;> rfl
  have ht : turnP n s rows x.1 = (s, rows) := by unfold turnP; rw [hbrk, if_neg (by decide)]
  have hins : hasB s.modes 1 = false := by rw [h.modes]; decide +kernel
  have h4 : hasB s.modes 4 = true := by rw [h.modes]; decide +kernel
  have hroom : roomP s rows x.1 = rows := by unfold roomP; rw [hins, if_neg (by decide)]
  have hwl : wideL (l ++ [x]) = wideL l + wd x.1 := by rw [Txt.wideL_append]; simp [wideL]
  have hcl := cellsOf_len l
  have hrow0 : rows.getD 0 [] = cellsOf l ++ List.replicate (n - (wideL l).toNat) (32, 0, 0, 0) := by rw [h.rows]; rfl
  have hlen : (rows.getD 0 []).length = n := by rw [hrow0, List.length_append, List.length_replicate]; omega
  have hput : putRune (0, 0, 0) (rows.getD 0 []) (wideL l).toNat x.1 = cellsOf (l ++ [x]) ++ List.replicate (n - (wideL (l ++ [x])).toNat) (32, 0, 0, 0) := by
    have hkk : wd x.1 = (((wd x.1).toNat : Nat) : Int) := by omega
    rw [← rowY_plain (0, 0, 0) (rows.getD 0 []) (wideL l).toNat (wd x.1).toNat x.1 (by omega) hkk (by rw [hlen]; omega)]
    have hwh := (whole_cells (n - (wideL (l ++ [x])).toNat) (l ++ [x]) (fun y hy => by
      rcases List.mem_append.1 hy with e | e
      · exact hl y e
      · rw [List.mem_singleton.1 e]; exact hx)).1
    have e : rowY false (0, 0, 0) (rows.getD 0 []) (wideL l).toNat (wd x.1).toNat x.1 = cellsOf (l ++ [x]) ++ List.replicate (n - (wideL (l ++ [x])).toNat) (32, 0, 0, 0) := by
      unfold rowY tailR
      rw [if_neg (by decide), hrow0, hwl, cellsOf_snoc]
      have e1 : (wideL l).toNat = (cellsOf l).length := by omega
      have e2 : (cellsOf l ++ List.replicate (n - (wideL l).toNat) ((32, 0, 0, 0) : C)).length = n := by rw [← hrow0]; exact hlen
      rw [e2]
      have e3 : (cellsOf l ++ List.replicate (n - (wideL l).toNat) ((32, 0, 0, 0) : C)).take (wideL l).toNat = cellsOf l := by
        rw [e1, List.take_left]
      have e4 : (cellsOf l ++ List.replicate (n - (wideL l).toNat) ((32, 0, 0, 0) : C)).drop ((wideL l).toNat + (wd x.1).toNat) = List.replicate (n - (wideL l + wd x.1).toNat) (32, 0, 0, 0) := by
        rw [e1, List.drop_length_add_append, List.drop_replicate]
        congr 1
        omega
      rw [e3, e4, List.append_assoc]
      refine List.take_of_length_le ?_
      rw [List.length_append, List.length_append, cells2_len, List.length_replicate]
      omega
    rw [e, mend_whole hwh]
  have hx0 : s.x.toNat = (wideL l).toNat := by rw [hsx]
  have hpr : prnP n s rows x.1 = ({ advS s (wd x.1) with last := x.1 }, [cellsOf (l ++ [x]) ++ List.replicate (n - (wideL (l ++ [x])).toNat) (32, 0, 0, 0)]) := by
    unfold prnP
    rw [ht, if_neg (by rw [h.w]; omega)]
    dsimp only
    rw [hfit, if_neg (by decide), hroom, h.y, h.sf, h.sb, h.sx, hx0]
    show (_, rows.set 0 (putRune (0, 0, 0) (rows.getD 0 []) (wideL l).toNat x.1)) = _
    rw [hput, h.rows]
    rfl
  rw [hpr]
  have hadv : advS s (wd x.1) = { s with x := if wideL (l ++ [x]) = n then (n : Int) - 1 else wideL (l ++ [x]), late := decide (wideL (l ++ [x]) = n) } := by
    unfold advS
    rw [hwl]
    by_cases hq : wideL l + wd x.1 = n
    · rw [if_pos (by rw [hsx, h.w]; exact hq), if_pos hq, h4, h.w, decide_eq_true hq]
    · rw [if_neg (by rw [hsx, h.w]; exact hq), if_neg hq, decide_eq_false hq, hsx, ← hlate]
  rw [hadv]
  exact ⟨h.w, h.y, rfl, rfl, h.modes, h.sf, h.sb, h.sx, rfl⟩
theorem std_all {n : Nat} (s : Scr) (rows : List (List C)) : ∀ (l l0 : List (Int × Nat)), Std n l0 s rows → (∀ y ∈ l0 ++ l, 0 < wd y.1) → wideL (l0 ++ l) ≤ n → Std n (l0 ++ l) (prnF n (s, rows) l).1 (prnF n (s, rows) l).2 := by
  intro l
  induction l generalizing s rows with
  | nil =>
    intro l0 h _ _
    rw [List.append_nil]
    exact h
  | cons x t ih =>
    intro l0 h hm hw
    have hw2 : wideL (l0 ++ x :: t) = wideL l0 + (wd x.1 + wideL t) := by rw [Txt.wideL_append]; rfl
    have hnt := Txt.wide_nn t
    have h1 := std_step h x (fun y hy => hm y (by simp [hy])) (hm x (by simp)) (by omega)
    have key := ih (prnP n s rows x.1).1 (prnP n s rows x.1).2 (l0 ++ [x]) h1 (fun y hy => hm y (by simpa using hy)) (by rw [List.append_assoc]; exact hw)
    rw [List.append_assoc] at key
    exact key
theorem std_start (n : Nat) (hn : 1 ≤ n) : Std n [] (newScr n 1) [List.replicate n (32, 0, 0, 0)] := by
  have e : wideL [] ≠ (n : Int) := by show (0 : Int) ≠ n; omega
  refine ⟨rfl, rfl, ?_, ?_, rfl, rfl, rfl, rfl, rfl⟩
  · rw [if_neg e]
    rfl
  · rw [decide_eq_false e]
    rfl
theorem rowsL_one (n : Nat) : Grd.rowsL n (newScr n 1).cs 1 = [List.replicate n (32, 0, 0, 0)] := by
  simp [Grd.rowsL, Grd.rowAt, newScr, List.range_succ]
/-- What a clean text leaves on a new screen of one row. -/
theorem stands (n : Nat) (hn : 1 ≤ n) (c : ByteArray) (l : List (Int × Nat)) (hl : Txt.runes c = l) (hm : ∀ x ∈ l, 0 < wd x.1) (hw : wideL l ≤ n) :
    (textS n 1 c (newScr n 1)).cs = cellsOf l ++ List.replicate (n - (wideL l).toNat) (32, 0, 0, 0) ∧ (textS n 1 c (newScr n 1)).late = decide (wideL l = n) := by
  have h := std_all (newScr n 1) [List.replicate n (32, 0, 0, 0)] l [] (std_start n hn) (by simpa using hm) (by simpa using hw)
  rw [List.nil_append] at h
  unfold textS
  rw [rowsL_one, hl]
  refine ⟨?_, h.late⟩
  show (prnF n (newScr n 1, [List.replicate n (32, 0, 0, 0)]) l).2.flatten = _
  rw [h.rows]
  simp
theorem bytes_cells : ∀ l : List (Int × Nat), (∀ x ∈ l, 0 < wd x.1) → rowBytes (cellsOf l) = enc l
  | [], _ => rfl
  | x :: t, h => by
    have ih := bytes_cells t (fun y hy => h y (by simp [hy]))
    have hx := h x (by simp)
    have hk := Txt.wd_range x.1
    have hr0 : x.1 ≠ 0 := fun e => by
      rw [e, wd0] at hx
      omega
    have e1 : rowBytes (cellsOf (x :: t)) = rowBytes (cells2 (0, 0, 0) x.1 (wd x.1).toNat) ++ rowBytes (cellsOf t) := by
      show rowBytes (cells2 (0, 0, 0) x.1 (wd x.1).toNat ++ cellsOf t) = _
      unfold rowBytes
      rw [List.flatMap_append]
    rw [e1, ih]
    show _ = Lib.encodeRune x.1 ++ enc t
    congr 1
    have e : (wd x.1).toNat = 1 ∨ (wd x.1).toNat = 2 := by omega
    rcases e with e | e <;> rw [e] <;> simp [cells2, rowBytes, hr0]
theorem bytes_blank : ∀ m : Nat, rowBytes (List.replicate m (32, 0, 0, 0)) = List.replicate m 32
  | 0 => rfl
  | m + 1 => by
    have ih := bytes_blank m
    rw [List.replicate_succ, List.replicate_succ]
    show (if (32 : Int) = 0 then [] else Lib.encodeRune 32) ++ rowBytes (List.replicate m (32, 0, 0, 0)) = _
    rw [ih, if_neg (by decide)]
    rfl
theorem trim_blank (a : List UInt8) (m : Nat) : Lib.trimRightB (a ++ List.replicate m 32) 32 = Lib.trimRightB a 32 := by
  unfold Lib.trimRightB
  rw [List.reverse_append, List.reverse_replicate]
  congr 1
  induction m with
  | zero => simp
  | succ m ih => rw [List.replicate_succ, List.cons_append, List.dropWhile_cons_of_pos (by simp)]; exact ih
theorem line_stands (l : List (Int × Nat)) (m : Nat) (h : ∀ x ∈ l, 0 < wd x.1) : lineB (cellsOf l ++ List.replicate m (32, 0, 0, 0)) = ⟨(Lib.trimRightB (enc l) 32).toArray⟩ := by
  unfold lineB
  have e : rowBytes (cellsOf l ++ List.replicate m ((32, 0, 0, 0) : C)) = rowBytes (cellsOf l) ++ rowBytes (List.replicate m (32, 0, 0, 0)) := by
    unfold rowBytes
    rw [List.flatMap_append]
  rw [e, bytes_cells l h, bytes_blank, trim_blank]
end Put
end Go.Proofs.YtmeeojgjboppoaaDoor

/- utf8.ValidString, and its tables. -/
namespace Go.Proofs.YtmeeojgjboppoaaDoor
open Go.ChangeShapes Go.WideShapes Go.ChangeAt Go.RowKit
namespace Put
def vren : Go.Shelf.Ren := ⟨fun | 196 => 5 | 259 => 15 | n => n, fun | 0 => 0 | 3 => 3 | 4 => 4 | 5 => 5 | 9 => 9 | 12 => 12 | 46 => 51 | 53 => 75 | 119 => 47 | 138 => 49 | 139 => 50 | n => n, fun | 3 => 0 | 4 => 1 | n => n⟩
theorem vlays : Go.Proofs.Lays.n196 Tryd.prog vren := {
  mixed := by kernel_rfl
  f196 := Tryd.func5.trans (congrArg some (by kernel_rfl))
  f259 := Tryd.func15.trans (congrArg some (by kernel_rfl))
  t0 := Tryd.underlying0
  a0 := Tryd.isAgg0
  z0 := Tryd.sizeOf0
  v0 := Tryd.zeroValue0
  t3 := Tryd.underlying3
  a3 := Tryd.isAgg3
  z3 := Tryd.sizeOf3
  v3 := Tryd.zeroValue3
  t4 := Tryd.underlying4
  a4 := Tryd.isAgg4
  z4 := Tryd.sizeOf4
  v4 := Tryd.zeroValue4
  t5 := Tryd.underlying5
  a5 := Tryd.isAgg5
  z5 := Tryd.sizeOf5
  v5 := Tryd.zeroValue5
  t9 := Tryd.underlying9
  a9 := Tryd.isAgg9
  z9 := Tryd.sizeOf9
  v9 := Tryd.zeroValue9
  t12 := Tryd.underlying12
  a12 := Tryd.isAgg12
  z12 := Tryd.sizeOf12
  v12 := Tryd.zeroValue12
  t46 := Tryd.underlying51
  a46 := Tryd.isAgg51
  z46 := Tryd.sizeOf51
  v46 := Tryd.zeroValue51
  t53 := Tryd.underlying75
  a53 := Tryd.isAgg75
  z53 := Tryd.sizeOf75
  v53 := Tryd.zeroValue75
  t119 := Tryd.underlying47
  a119 := Tryd.isAgg47
  z119 := Tryd.sizeOf47
  t138 := Tryd.underlying49
  a138 := Tryd.isAgg49
  z138 := Tryd.sizeOf49
  v138 := Tryd.zeroValue49
  t139 := Tryd.underlying50
  a139 := Tryd.isAgg50
  z139 := Tryd.sizeOf50
  v139 := Tryd.zeroValue50
  g3 := by kernel_rfl
  g4 := by kernel_rfl }
/-- The tables of package utf8 lie as its text lays them. -/
def VTabs (w : World) : Prop := Lib.Utf8Tabs 0 1 w
theorem vtabs_next {w w' : World} (h : VTabs w) (hb : Below w.heap.size w w') : VTabs w' := Utf8Tabs_below h hb
theorem valid_any (s : ByteArray) (w : World) (hs : s.size ≤ 9223372036854775807) (hT : VTabs w) : Calls Tryd.prog 5 #[.string s] w fun e w' => e = .returned (.bool (Lib.validD s.data.toList)) ∧ Below w.heap.size w w' := Any.utf8_ValidString vlays s w hs hT
theorem u8xv : U8Extra Tryd.prog vren := { n3 := by kernel_rfl, n4 := by kernel_rfl, y3 := by kernel_rfl, y4 := by kernel_rfl, c5 := by kernel_rfl, c119 := by kernel_rfl, c138 := by kernel_rfl }
theorem firstV_eq : Lib.firstData = Rows.laid_unicode_utf8_first := by kernel_rfl
theorem acceptV_eq : Lib.acceptData = Rows.laid_unicode_utf8_acceptRanges := by kernel_rfl
def firstCellsV : Array Value := (Go.Pinned.utf8FirstZ.map fun (z : Nat) => Value.int .u8 (z : Int)).toArray
def acceptCellsV : Array Value := ((List.range 16).flatMap fun i => [Value.int .u8 (Lib.accLo i : Int), Value.int .u8 (Lib.accHi i : Int)]).toArray
theorem vtabs_of {W : World} (h3 : Lib.VarReads Tryd.prog W "unicode/utf8.first" Rows.laid_unicode_utf8_first) (h4 : Lib.VarReads Tryd.prog W "unicode/utf8.acceptRanges" Rows.laid_unicode_utf8_acceptRanges) : VTabs W := by
  rw [← firstV_eq] at h3
  rw [← acceptV_eq] at h4
  exact utf8Tabs_of_readsT (U8Types.of196 vlays) u8xv h3 h4
end Put
end Go.Proofs.YtmeeojgjboppoaaDoor

/- The closed fact of the laws on screens: three runes on two columns. -/
namespace Go.Proofs.YtmeeojgjboppoaaDoor
open Go.ChangeShapes Go.WideShapes Go.ChangeAt Go.RowKit
namespace Put
open Grd (C SliceAt CellsAt gridErr z0 nilV flat rowsL)
open Txt (wd)
def abc : ByteArray := ⟨#[97, 98, 99]⟩
def stq : Nat → Scr × List (List C)
  | 0 => (newScr 2 2, rowsL 2 (newScr 2 2).cs 2)
  | 1 => printP (newScr 2 2, rowsL 2 (newScr 2 2).cs 2) 97
  | 2 => printP (printP (newScr 2 2, rowsL 2 (newScr 2 2).cs 2) 97) 98
  | _ => printP (printP (printP (newScr 2 2, rowsL 2 (newScr 2 2).cs 2) 97) 98) 99
theorem abc_runes : Txt.runes abc = [(97, 1), (98, 1), (99, 1)] := by decide +kernel
theorem ok0 : stepOk (stq 0) 97 = true := by decide +kernel
theorem ok1 : stepOk (stq 1) 98 = true := by decide +kernel
theorem ok2 : stepOk (stq 2) 99 = true := by decide +kernel
theorem new22_ok : scrErr (newScr 2 2) = 0 := by decide +kernel
theorem new22_grid : gridErr (2 : Nat) (2 : Nat) (newScr 2 2).cs = 0 := by decide +kernel
theorem new22_fits : Fits (newScr 2 2) := ⟨by decide, by decide, by decide, by decide, by decide, by decide, by decide +kernel⟩
theorem end_x : (stq 3).1.x = 1 := by decide +kernel
theorem end_y : (stq 3).1.y = 1 := by decide +kernel
theorem end_late : (stq 3).1.late = false := by decide +kernel
theorem end_last : (stq 3).1.last = 99 := by decide +kernel
def abcCs : List C := [(97, 0, 0, 0), (98, 0, 0, 0), (99, 0, 0, 0), (32, 0, 0, 0)]
theorem end_cs : (stq 3).2.flatten = abcCs := by decide +kernel
theorem end_rows : RowsOk (stq 3).1 (stq 3).2 := by
  have hl : (stq 3).2.length = 2 := by decide +kernel
  have hg : (stq 3).1.gone = [] := by decide +kernel
  have h0 : (stq 3).2.getD 0 [] ≠ [] := by decide +kernel
  have h1 : (stq 3).2.getD 1 [] ≠ [] := by decide +kernel
  refine ⟨by rw [hl]; omega, by rw [hl]; omega, fun i hi => ?_, by rw [end_cs]; decide, by rw [hg]; decide, fun i hi => by rw [hg] at hi; exact absurd hi (by simp)⟩
  rw [hl] at hi
  match i, hi with
  | 0, _ => exact h0
  | 1, _ => exact h1
theorem plain_text : Plain 18 := by
  intro args W
  kernel_rfl
theorem abc_does (B M : Nat) (w : World) (hT : Txt.Tab w) (hB : w.cell? ⟨B, 0, none⟩ = some (.string abc)) : Does 18 #[.pointer (some ⟨B, 0, none⟩)] M w (stq 0).1 (stq 3).1 (stq 0).2 (stq 3).2 := by
  have h := text1_does abc B M w stq hB
  rw [abc_runes] at h
  refine h ?_
  intro i hi X p hb hS
  have hTX := Grd.Tab.next hT hb
  have hN : ∀ Y, Below w.heap.size X Y → Txt.Tab Y := fun Y hY => Grd.Tab.next hT (hb.trans hY)
  match i, hi with
  | 0, _ => exact print_step X M w.heap.size p (stq 0) 97 hTX hN hS ok0
  | 1, _ => exact print_step X M w.heap.size p (stq 1) 98 hTX hN hS ok1
  | 2, _ => exact print_step X M w.heap.size p (stq 2) 99 hTX hN hS ok2
theorem abc_text (cv tv gv : Value) (w0 w : World) (hT : Txt.Tab w) (hV : ScrV w0 (newScr 2 2) cv tv gv) (hb0 : Below w0.heap.size w0 w) : Calls Tryd.prog 7 #[.agg (scrA (newScr 2 2) cv tv gv), .string abc] w (Made w0 w { (stq 3).1 with cs := abcCs } 0) := by
  have h := putText_any (newScr 2 2) { (stq 3).1 with cs := abcCs } cv tv gv abc (by decide) w0 w hT hV hb0 new22_fits
  rw [new22_ok] at h
  refine h fun W B hW hB => ?_
  exact change_good 2 2 (newScr 2 2) (stq 3).1 (stq 3).2 cv tv gv _ plain_text _ w0 W hV (hb0.trans (hW.mono hb0.size)) new22_fits rfl rfl new22_grid (fun w1 hw1 => abc_does B _ w1 (Grd.Tab.next (Grd.Tab.next hT hW) hw1) (cell_stay hw1 hB)) end_rows abcCs end_cs
set_option maxHeartbeats 4000000 in
set_option maxRecDepth 100000 in
theorem printed_any (w : World) (hT : Txt.Tab w) : Calls Tryd.prog 6 #[] w fun e w' => e = .returned (.bool true) ∧ Below w.heap.size w w' := by
  have HN := new_good' 2 2 w (by decide)
  have HT : Hid (∀ W, Below w.heap.size w W → Txt.Tab W) := fun W h => Grd.Tab.next hT h
  clear hT
  go_enter Tryd.func6, Tryd.ntmps6
  go_wp2_with fail
  refine HN.mono ?_
  rintro e W1 ⟨cv, tv, gv, rfl, hO, b1⟩
  obtain ⟨a1, n1, c1, a2, n2, c2, a3, n3, c3, rfl, rfl, rfl⟩ := hO.shapes
  generalize hs : newScr 2 2 = s at *
  have x1 := heap_alloc_new W1 (.cells #[.int .i64 0, .int .i64 0, .slice none 0 0, .int .i64 0, .int .i64 0, .bool false, .int .i64 0, .int .i64 0, .int .i64 0, .int .i64 0, .int .i64 0, .int .i64 0, .slice none 0 0, .int .i64 0, .int .i64 0, .int .i64 0, .int .i64 0, .int .i64 0, .int .i64 0, .int .i32 0, .string ⟨#[]⟩, .slice none 0 0] 32)
  have HX1 : Hid ((W1.alloc (.cells #[.int .i64 0, .int .i64 0, .slice none 0 0, .int .i64 0, .int .i64 0, .bool false, .int .i64 0, .int .i64 0, .int .i64 0, .int .i64 0, .int .i64 0, .int .i64 0, .slice none 0 0, .int .i64 0, .int .i64 0, .int .i64 0, .int .i64 0, .int .i64 0, .int .i64 0, .int .i32 0, .string ⟨#[]⟩, .slice none 0 0] 32)).heap[W1.heap.size]? = _) := x1
  have HV : Hid (ScrV W1 s _ _ _) := hO.scr
  have HB1 : Hid (Below w.heap.size w W1) := b1
  clear HN hO b1 x1
  go_upto_region 2 with (refine wpList_store_row rfl 32 (.tmp 1) _ rfl W1.heap.size (scrA s (.slice a1 n1 c1) (.slice a2 n2 c2) (.slice a3 n3 c3)) rfl rfl _ _ HX1.out (by kernel_rfl) rfl (scr_one _ _ _ _ _ _ _ _ _ _) ?_)
  have HX2 : Hid (((W1.alloc (.cells #[.int .i64 0, .int .i64 0, .slice none 0 0, .int .i64 0, .int .i64 0, .bool false, .int .i64 0, .int .i64 0, .int .i64 0, .int .i64 0, .int .i64 0, .int .i64 0, .slice none 0 0, .int .i64 0, .int .i64 0, .int .i64 0, .int .i64 0, .int .i64 0, .int .i64 0, .int .i32 0, .string ⟨#[]⟩, .slice none 0 0] 32)).setRow W1.heap.size (scrA s (.slice a1 n1 c1) (.slice a2 n2 c2) (.slice a3 n3 c3))).heap[W1.heap.size]? = some (.cells (scrA s (.slice a1 n1 c1) (.slice a2 n2 c2) (.slice a3 n3 c3)) 32 (0, 0))) := setRow_heap _ _ _ _ _ _ HX1.out
  have HBX : Hid (Below W1.heap.size W1 ((W1.alloc (.cells #[.int .i64 0, .int .i64 0, .slice none 0 0, .int .i64 0, .int .i64 0, .bool false, .int .i64 0, .int .i64 0, .int .i64 0, .int .i64 0, .int .i64 0, .int .i64 0, .slice none 0 0, .int .i64 0, .int .i64 0, .int .i64 0, .int .i64 0, .int .i64 0, .int .i64 0, .int .i32 0, .string ⟨#[]⟩, .slice none 0 0] 32)).setRow W1.heap.size (scrA s (.slice a1 n1 c1) (.slice a2 n2 c2) (.slice a3 n3 c3)))) := below_setRow ((Below.refl _ _).alloc (Nat.le_refl _) _) (Nat.le_refl _) _
  have HHS : Hid (newScr 2 2 = s) := hs
  clear HX1 hs
  generalize ((W1.alloc (.cells #[.int .i64 0, .int .i64 0, .slice none 0 0, .int .i64 0, .int .i64 0, .bool false, .int .i64 0, .int .i64 0, .int .i64 0, .int .i64 0, .int .i64 0, .int .i64 0, .slice none 0 0, .int .i64 0, .int .i64 0, .int .i64 0, .int .i64 0, .int .i64 0, .int .i64 0, .int .i32 0, .string ⟨#[]⟩, .slice none 0 0] 32)).setRow W1.heap.size (scrA s (.slice a1 n1 c1) (.slice a2 n2 c2) (.slice a3 n3 c3))) = X at *
  have HTX : Calls Tryd.prog 7 #[.agg (scrA s (.slice a1 n1 c1) (.slice a2 n2 c2) (.slice a3 n3 c3)), .string ⟨#[97, 98, 99]⟩] X (Made W1 X { (stq 3).1 with cs := abcCs } 0) := by
    have hv := HV.out
    rw [← HHS.out] at hv ⊢
    exact abc_text _ _ _ W1 X (HT.out X (HB1.out.trans (HBX.out.mono HB1.out.size))) hv HBX.out
  have h1 := end_x
  have h2 := end_y
  have h3 := end_late
  have h4 := end_last
  obtain ⟨s2, hs2⟩ : ∃ s2 : Scr, s2 = { (stq 3).1 with cs := abcCs } := ⟨_, rfl⟩
  have k1 : s2.x = 1 := by rw [hs2]; exact h1
  have k2 : s2.y = 1 := by rw [hs2]; exact h2
  have k3 : s2.late = false := by rw [hs2]; exact h3
  have k4 : s2.last = 99 := by rw [hs2]; exact h4
  have k5 : s2.cs = abcCs := by rw [hs2]
  rw [← hs2] at HTX
  have K : Hid (s2.x = 1 ∧ s2.y = 1 ∧ s2.late = false ∧ s2.last = 99 ∧ s2.cs = abcCs) := ⟨k1, k2, k3, k4, k5⟩
  clear h1 h2 h3 h4 hs2 k1 k2 k3 k4 k5
  go_wp2_with (refine wpList_load_row rfl 32 (.tmp 1) rfl W1.heap.size rfl _ _ _ _ HX2.out Tryd.underlying32 rfl (by kernel_rfl) ?_)
  refine HTX.mono ?_
  rintro e W2 ⟨cv', tv', gv', rfl, hO, b2⟩
  obtain ⟨a4, n4, c4, a5, n5, c5, a6, n6, c6, -, rfl, rfl⟩ := hO.shapes
  have hc := hO.c
  rw [K.out.2.2.2.2] at hc
  rcases hc with ⟨he, -⟩ | ⟨g, cap, rest, t, hv, hg, hl, hm, hh⟩
  · exact absurd he (by decide)
  subst hv
  have x2 := heap_alloc_new W2 (.cells #[.int .i64 0, .int .i64 0, .slice none 0 0, .int .i64 0, .int .i64 0, .bool false, .int .i64 0, .int .i64 0, .int .i64 0, .int .i64 0, .int .i64 0, .int .i64 0, .slice none 0 0, .int .i64 0, .int .i64 0, .int .i64 0, .int .i64 0, .int .i64 0, .int .i64 0, .int .i32 0, .string ⟨#[]⟩, .slice none 0 0] 32)
  have HX3 : Hid ((W2.alloc (.cells #[.int .i64 0, .int .i64 0, .slice none 0 0, .int .i64 0, .int .i64 0, .bool false, .int .i64 0, .int .i64 0, .int .i64 0, .int .i64 0, .int .i64 0, .int .i64 0, .slice none 0 0, .int .i64 0, .int .i64 0, .int .i64 0, .int .i64 0, .int .i64 0, .int .i64 0, .int .i32 0, .string ⟨#[]⟩, .slice none 0 0] 32)).heap[W2.heap.size]? = _) := x2
  have HX4 : Hid (((W2.alloc (.cells #[.int .i64 0, .int .i64 0, .slice none 0 0, .int .i64 0, .int .i64 0, .bool false, .int .i64 0, .int .i64 0, .int .i64 0, .int .i64 0, .int .i64 0, .int .i64 0, .slice none 0 0, .int .i64 0, .int .i64 0, .int .i64 0, .int .i64 0, .int .i64 0, .int .i64 0, .int .i32 0, .string ⟨#[]⟩, .slice none 0 0] 32)).setRow W2.heap.size (scrA s2 (.slice (some ⟨g, 0, none⟩) 4 cap) (.slice a5 n5 c5) (.slice a6 n6 c6))).heap[W2.heap.size]? = some (.cells (scrA s2 (.slice (some ⟨g, 0, none⟩) 4 cap) (.slice a5 n5 c5) (.slice a6 n6 c6)) 32 (0, 0))) := setRow_heap _ _ _ _ _ _ HX3.out
  have hb2 : Below w.heap.size w W2 := (HB1.out.trans (HBX.out.mono HB1.out.size)).trans (b2.mono (HB1.out.trans (HBX.out.mono HB1.out.size)).size)
  have HBY : Hid (Below w.heap.size w ((W2.alloc (.cells #[.int .i64 0, .int .i64 0, .slice none 0 0, .int .i64 0, .int .i64 0, .bool false, .int .i64 0, .int .i64 0, .int .i64 0, .int .i64 0, .int .i64 0, .int .i64 0, .slice none 0 0, .int .i64 0, .int .i64 0, .int .i64 0, .int .i64 0, .int .i64 0, .int .i64 0, .int .i32 0, .string ⟨#[]⟩, .slice none 0 0] 32)).setRow W2.heap.size (scrA s2 (.slice (some ⟨g, 0, none⟩) 4 cap) (.slice a5 n5 c5) (.slice a6 n6 c6)))) := below_setRow (hb2.alloc hb2.size _) hb2.size _
  have HG : Hid (CellsAt ((W2.alloc (.cells #[.int .i64 0, .int .i64 0, .slice none 0 0, .int .i64 0, .int .i64 0, .bool false, .int .i64 0, .int .i64 0, .int .i64 0, .int .i64 0, .int .i64 0, .int .i64 0, .slice none 0 0, .int .i64 0, .int .i64 0, .int .i64 0, .int .i64 0, .int .i64 0, .int .i64 0, .int .i32 0, .string ⟨#[]⟩, .slice none 0 0] 32)).setRow W2.heap.size (scrA s2 (.slice (some ⟨g, 0, none⟩) 4 cap) (.slice a5 n5 c5) (.slice a6 n6 c6))) g 0 abcCs) := by
    refine Grd.cellsAt_flat (t := t) (rest := rest) ?_
    rw [setRow_other _ _ _ _ (Nat.ne_of_lt (heap_lt hh)), Below.heap_alloc _ _ _ (heap_lt hh)]
    exact hh
  clear HTX hO b2 x2 hh hb2 HX2 HBX HB1 HV
  go_upto_region 3 with (refine wpList_store_row rfl 32 (.tmp 3) _ rfl W2.heap.size (scrA s2 (.slice (some ⟨g, 0, none⟩) 4 cap) (.slice a5 n5 c5) (.slice a6 n6 c6)) rfl rfl _ _ HX3.out (by kernel_rfl) rfl (scr_one _ _ _ _ _ _ _ _ _ _) ?_)
  clear HX3
  generalize ((W2.alloc (.cells #[.int .i64 0, .int .i64 0, .slice none 0 0, .int .i64 0, .int .i64 0, .bool false, .int .i64 0, .int .i64 0, .int .i64 0, .int .i64 0, .int .i64 0, .int .i64 0, .slice none 0 0, .int .i64 0, .int .i64 0, .int .i64 0, .int .i64 0, .int .i64 0, .int .i64 0, .int .i32 0, .string ⟨#[]⟩, .slice none 0 0] 32)).setRow W2.heap.size (scrA s2 (.slice (some ⟨g, 0, none⟩) 4 cap) (.slice a5 n5 c5) (.slice a6 n6 c6))) = Y at *
  obtain ⟨⟨-, -, d2, d3, d4, d5, -⟩, ⟨-, -, -, -, -, -, -, -, d19, -⟩, -⟩ := scr_cells HX4.out
  rw [K.out.1] at d3
  rw [K.out.2.1] at d4
  rw [K.out.2.2.1] at d5
  rw [K.out.2.2.2.1] at d19
  obtain ⟨e8, -⟩ := HG.out 2 (by decide)
  have e8' : Y.cell? ⟨g, 8, none⟩ = some (.int .i32 99) := e8
  clear e8
  go_wp2_with fail
  go_ret
  exact ⟨rfl, HBY.out⟩
end Put
end Go.Proofs.YtmeeojgjboppoaaDoor

/- A list of rows, anywhere in a block of such. -/
namespace Go.Proofs.YtmeeojgjboppoaaDoor
open Go.ChangeShapes Go.WideShapes Go.ChangeAt Go.RowKit
namespace Put
open Grd (C SliceAt CellsAt gridErr z0 nilV rowsL RowsAt RowB flat)
/-- The block that a slice speaks of. -/
def blkOf (v : Value) : Option Nat := match v with
  | .slice (some a) _ _ => some a.block
  | _ => none
/-- A list of rows' values, anywhere in a block of such: from N on. -/
def GoneV (W : World) (N : Nat) (v : Value) (n : Nat) (vs : List Value) : Prop :=
  vs.length = n ∧ ((n = 0 ∧ ∃ a c, v = .slice a 0 c) ∨ ∃ g o cap A, v = .slice (some ⟨g, o, none⟩) n cap ∧ N ≤ g ∧ n ≤ cap ∧ cap ≤ 9223372036854775807 ∧ W.heap[g]? = some (.cells A 22 (0, 0)) ∧ ∀ j, j < n → A[o + j]? = some (vs.getD j nilV))
theorem GoneV.of {W : World} {N : Nat} {v : Value} {n : Nat} {vs : List Value} (h : W.ownsRow N 22 1 v n vs) : GoneV W N v n vs := by
  obtain ⟨h0, ⟨rfl, rfl⟩ | ⟨g, cap, cur, rfl, hg, hh, hc, hm, hs, htk⟩⟩ := h
  · exact ⟨by simpa using h0, .inl ⟨rfl, none, 0, rfl⟩⟩
  · refine ⟨by simpa using h0, .inr ⟨g, 0, cap, cur, rfl, hg, hc, by unfold maxLen at hm; omega, hh, fun j hj => ?_⟩⟩
    have hl : vs.length = n := by simpa using h0
    rw [Nat.zero_add]
    have e : cur[j]? = vs[j]? := by rw [← htk, ← Array.getElem?_toList, List.getElem?_take_of_lt (by omega)]
    rw [e]
    simp [List.getD, List.getElem?_eq_getElem (show j < vs.length by omega)]
theorem GoneV.slice {W : World} {N : Nat} {v : Value} {n : Nat} {vs : List Value} (h : GoneV W N v n vs) : ∃ a c, v = .slice a n c := by
  obtain ⟨-, ⟨rfl, a, c, rfl⟩ | ⟨g, o, cap, A, rfl, -⟩⟩ := h
  · exact ⟨a, c, rfl⟩
  · exact ⟨_, cap, rfl⟩
theorem GoneV.kept {W W' : World} {N : Nat} {v : Value} {n : Nat} {vs : List Value} (h : GoneV W N v n vs) (hk : ∀ g, v.ownBlock = some g → W'.heap[g]? = W.heap[g]?) : GoneV W' N v n vs := by
  obtain ⟨h0, h | ⟨g, o, cap, A, hv, h1, h2, h3, h4, h5⟩⟩ := h
  · exact ⟨h0, .inl h⟩
  · exact ⟨h0, .inr ⟨g, o, cap, A, hv, h1, h2, h3, (hk g (by rw [hv]; rfl)).trans h4, h5⟩⟩
theorem GoneV.next {W W' : World} {N : Nat} {v : Value} {n : Nat} {vs : List Value} (h : GoneV W N v n vs) (hb : Below W.heap.size W W') : GoneV W' N v n vs := by
  obtain ⟨h0, h | ⟨g, o, cap, A, hv, h1, h2, h3, h4, h5⟩⟩ := h
  · exact ⟨h0, .inl h⟩
  · exact ⟨h0, .inr ⟨g, o, cap, A, hv, h1, h2, h3, Grd.carry h4 hb, h5⟩⟩
theorem GoneV.apart {W W' : World} {N p : Nat} {t : TypeId} {v : Value} {n : Nat} {vs : List Value} {A : Array Value} {f : Nat × Nat} (h : GoneV W N v n vs) (hp : W.heap[p]? = some (.cells A t f)) (ht : t ≠ 22) (ho : ∀ k, k ≠ p → W'.heap[k]? = W.heap[k]?) : GoneV W' N v n vs := by
  obtain ⟨h0, h | ⟨g, o, cap, B, hv, h1, h2, h3, h4, h5⟩⟩ := h
  · exact ⟨h0, .inl h⟩
  · refine ⟨h0, .inr ⟨g, o, cap, B, hv, h1, h2, h3, (ho g fun e => ?_).trans h4, h5⟩⟩
    rw [e, hp] at h4
    injection h4 with h4
    injection h4 with _ h4 _
    exact ht h4
theorem GoneV.rowsV {W : World} {N : Nat} {v : Value} {rows : List (List C)} {vs : List Value} (h : GoneV W N v rows.length vs) (hr : RowsL W vs rows) : RowsV W v rows := by
  obtain ⟨h0, ⟨hn, a, c, hv⟩ | ⟨g, o, cap, A, hv, h1, h2, h3, h4, h5⟩⟩ := h
  · exact .inl ⟨List.eq_nil_of_length_eq_zero hn, a, c, hv⟩
  · refine .inr ⟨g, o, cap, hv, h2, h3, fun j hj => ⟨vs.getD j nilV, ?_, hr.2 j hj⟩⟩
    simp only [World.cell?, h4]
    rw [h5 j hj]
    rfl
end Put
end Go.Proofs.YtmeeojgjboppoaaDoor

/- A screen's grid, read out of the screen's block; lists of rows; a screen that is kept. -/
namespace Go.Proofs.YtmeeojgjboppoaaDoor
open Go.ChangeShapes Go.WideShapes Go.ChangeAt Go.RowKit
namespace Put
open Grd (C SliceAt CellsAt gridErr z0 nilV rowsL RowsAt RowB flat)
def Ptr3 (W : World) (v : Value) : Prop := ∃ R o cs t fr, v = .pointer (some ⟨R, o, none⟩) ∧ W.heap[R]? = some (.cells cs t fr) ∧ o + 3 ≤ cs.size
def at3 (W : World) (v : Value) : Array Value := match v with
  | .pointer (some a) => (match W.heap[a.block]? with
    | some (.cells cs _ _) => cs.extract a.off (a.off + 3)
    | _ => #[])
  | _ => #[]
theorem info_grid3 : (Tryd.prog.info? 24).map (·.size) = some 3 := by kernel_rfl
theorem load_grd (a : Act) (dst : Option Tmp) (x : Operand) (ty : TypeId) (pos : String) (after : Array Edge) (guard : Option (Nat × Bool)) (W : World) (h : Ptr3 W (a.eval x)) :
    (execOp a.eval { dst, op := .load 24 x, type := ty, pos, after, guard }).run Tryd.prog W = .ok (.value (.agg (at3 W (a.eval x)))) W := by
  obtain ⟨R, o, cs, t, fr, h0, h1, h2⟩ := h
  have e : at3 W (a.eval x) = cs.extract o (o + 3) := by rw [h0]; unfold at3; simp only []; rw [h1]
  rw [e]
  have hr := run_loadVar_mid (P := Tryd.prog) W R o 24 (cs.extract o (o + 3)).toList _ (World.rangeAt_of_block h1 o 3) Tryd.underlying24 rfl (by rw [info_grid3]; simp; omega)
  unfold execOp
  simp only [h0, Instr.loadAt, Instr.sureAddr, Sem.run_bind, Sem.run_pure, Result.andThen_ok, hr]
theorem scr_grd {W : World} {R : Nat} {t : TypeId} {s : Scr} {cv tv gv : Value} (h : W.heap[R]? = some (.cells (scrA s cv tv gv) t (0, 0))) : Ptr3 W (.pointer (some ⟨R, 0, none⟩)) ∧ at3 W (.pointer (some ⟨R, 0, none⟩)) = #[.int .i64 s.w, .int .i64 s.h, cv] := by
  refine ⟨⟨_, _, _, _, _, rfl, h, by show 3 ≤ 22; omega⟩, ?_⟩
  unfold at3
  simp only []
  rw [h]
  rfl
theorem getD_app {α : Type} (l l' : List α) (d : α) (i : Nat) : (l ++ l').getD i d = if i < l.length then l.getD i d else l'.getD (i - l.length) d := by
  by_cases h : i < l.length
  · rw [if_pos h]
    simp [List.getD, List.getElem?_append_left h]
  · rw [if_neg h]
    simp [List.getD, List.getElem?_append_right (Nat.le_of_not_lt h)]
theorem RowsL.app {W : World} {vs vs' : List Value} {l l' : List (List C)} (h : RowsL W vs l) (h' : RowsL W vs' l') : RowsL W (vs ++ vs') (l ++ l') := by
  refine ⟨by rw [List.length_append, List.length_append, h.1, h'.1], fun i hi => ?_⟩
  rw [List.length_append] at hi
  rw [getD_app, getD_app, h.1]
  split
  · exact h.2 i (by assumption)
  · exact h'.2 _ (by omega)
theorem getD_take' {α : Type} (l : List α) (d : α) (k i : Nat) (h : i < k) : (l.take k).getD i d = l.getD i d := by simp [List.getD, List.getElem?_take_of_lt h]
theorem RowsL.take {W : World} {vs : List Value} {l : List (List C)} (h : RowsL W vs l) (k : Nat) : RowsL W (vs.take k) (l.take k) := by
  refine ⟨by rw [List.length_take, List.length_take, h.1], fun i hi => ?_⟩
  rw [List.length_take] at hi
  rw [getD_take' _ _ _ _ (by omega), getD_take' _ _ _ _ (by omega)]
  exact h.2 i (by omega)
theorem rowsAt_list {W : World} {N : Nat} {vs : List Value} {gs : List Nat} {rows : List (List C)} (h : RowsAt W N vs gs rows) : RowsL W vs rows := ⟨h.1, fun i hi => (rowIn_rowB (N := 0) (h.2.2.2 i hi).2).cells⟩
/-- The rest of a list of rows. -/
theorem rowsV_drop {W : World} {g c L : Nat} {vs : List Value} {l : List (List C)} (hc1 : L ≤ c) (hc2 : c ≤ 9223372036854775807) (hcell : ∀ j, j < L → W.cell? ⟨g, j, none⟩ = some (vs.getD j nilV)) (hr : RowsL W vs l) (hl : l.length = L) (d : Nat) (hd : d < L) : RowsV W (.slice (some ⟨g, d, none⟩) (L - d) (c - d)) (l.drop d) := by
  refine .inr ⟨g, d, c - d, by rw [List.length_drop, hl], by rw [List.length_drop]; omega, by omega, fun j hj => ?_⟩
  rw [List.length_drop] at hj
  refine ⟨vs.getD (d + j) nilV, hcell _ (by omega), ?_⟩
  have e : (l.drop d).getD j [] = l.getD (d + j) [] := by simp [List.getD, List.getElem?_drop]
  rw [e]
  exact hr.2 _ (by omega)
theorem kept_g {w W : World} {A : Array Value} (hB : Below w.heap.size w W) :
    ((W.alloc (.cells #[.int .i64 0, .int .i64 0, .slice none 0 0, .int .i64 0, .int .i64 0, .bool false, .int .i64 0, .int .i64 0, .int .i64 0, .int .i64 0, .int .i64 0, .int .i64 0, .slice none 0 0, .int .i64 0, .int .i64 0, .int .i64 0, .int .i64 0, .int .i64 0, .int .i64 0, .int .i32 0, .string ⟨#[]⟩, .slice none 0 0] 32)).setRow W.heap.size A).heap[W.heap.size]? = some (.cells A 32 (0, 0)) ∧ Below W.heap.size W ((W.alloc (.cells #[.int .i64 0, .int .i64 0, .slice none 0 0, .int .i64 0, .int .i64 0, .bool false, .int .i64 0, .int .i64 0, .int .i64 0, .int .i64 0, .int .i64 0, .int .i64 0, .slice none 0 0, .int .i64 0, .int .i64 0, .int .i64 0, .int .i64 0, .int .i64 0, .int .i64 0, .int .i32 0, .string ⟨#[]⟩, .slice none 0 0] 32)).setRow W.heap.size A) ∧ Below w.heap.size w ((W.alloc (.cells #[.int .i64 0, .int .i64 0, .slice none 0 0, .int .i64 0, .int .i64 0, .bool false, .int .i64 0, .int .i64 0, .int .i64 0, .int .i64 0, .int .i64 0, .int .i64 0, .slice none 0 0, .int .i64 0, .int .i64 0, .int .i64 0, .int .i64 0, .int .i64 0, .int .i64 0, .int .i32 0, .string ⟨#[]⟩, .slice none 0 0] 32)).setRow W.heap.size A) ∧ (W.alloc (.cells #[.int .i64 0, .int .i64 0, .slice none 0 0, .int .i64 0, .int .i64 0, .bool false, .int .i64 0, .int .i64 0, .int .i64 0, .int .i64 0, .int .i64 0, .int .i64 0, .slice none 0 0, .int .i64 0, .int .i64 0, .int .i64 0, .int .i64 0, .int .i64 0, .int .i64 0, .int .i32 0, .string ⟨#[]⟩, .slice none 0 0] 32)).heap[W.heap.size]? = some (.cells #[.int .i64 0, .int .i64 0, .slice none 0 0, .int .i64 0, .int .i64 0, .bool false, .int .i64 0, .int .i64 0, .int .i64 0, .int .i64 0, .int .i64 0, .int .i64 0, .slice none 0 0, .int .i64 0, .int .i64 0, .int .i64 0, .int .i64 0, .int .i64 0, .int .i64 0, .int .i32 0, .string ⟨#[]⟩, .slice none 0 0] 32 (0, 0)) := by
  have h1 : Below W.heap.size W ((W.alloc (.cells #[.int .i64 0, .int .i64 0, .slice none 0 0, .int .i64 0, .int .i64 0, .bool false, .int .i64 0, .int .i64 0, .int .i64 0, .int .i64 0, .int .i64 0, .int .i64 0, .slice none 0 0, .int .i64 0, .int .i64 0, .int .i64 0, .int .i64 0, .int .i64 0, .int .i64 0, .int .i32 0, .string ⟨#[]⟩, .slice none 0 0] 32)).setRow W.heap.size A) := below_setRow ((Below.refl _ _).alloc (Nat.le_refl _) _) (Nat.le_refl _) _
  exact ⟨setRow_heap _ _ _ _ _ _ (heap_alloc_new W _), h1, hB.trans (h1.mono hB.size), heap_alloc_new W _⟩
end Put
end Go.Proofs.YtmeeojgjboppoaaDoor
