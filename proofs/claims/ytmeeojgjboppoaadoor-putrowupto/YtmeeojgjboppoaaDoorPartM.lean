/- put.Text in general: what is printed, rune by rune; the screen stays right. -/
import Derived.Test.YtmeeojgjboppoaaDoorPartL
import Derived.Test.YtmeeojgjboppoaaDoorPartK
import Derived.Test.YtmeeojgjboppoaaDoorPartJ
import Derived.Lib.ValidLaws
import Derived.Lib.MapLaws
import Derived.Lib.TrimUEq
import Derived.Test.YtmeeojgjboppoaaDoorPartE
import Derived.Shelf.Unicode.ValidAny
import Derived.Lib.LaidU8T
import Derived.Test.YtmeeojgjboppoaaDoorRows
import Derived.Test.YtmeeojgjboppoaaDoorPartD
import Derived.Below
import Derived.Test.YtmeeojgjboppoaaDoorPartI
import Derived.Test.YtmeeojgjboppoaaDoorPartG
import Derived.Test.YtmeeojgjboppoaaDoorPartH
import Derived.Deep.MidRow
namespace Go.Proofs.YtmeeojgjboppoaaDoor
open Go.ChangeShapes Go.WideShapes Go.ChangeAt Go.RowKit
namespace Put
open Grd (C SliceAt CellsAt gridErr z0 nilV flat rowsL RightRow mendL)
open Sty (isSt)
open Txt (wd)
/-- A sheet whose screen is right. -/
structure PJ (n hh : Nat) (s : Scr) (rows : List (List C)) : Prop where
  r : RightS { s with cs := rows.flatten } n hh
  rl : rows.length = hh
  rr : RowsRt n rows
theorem PJ.start {s : Scr} {n hh : Nat} (h : RightS s n hh) : PJ n hh s (rowsL n s.cs hh) := by
  refine ⟨?_, Grd.rowsL_len _ _ _, rowsRt_of h⟩
  rw [h.flatten]
  exact h
theorem PJ.pi {n hh : Nat} {s : Scr} {rows : List (List C)} (h : PJ n hh s rows) : PI n hh s rows := by
  have hk := h.r.looks
  simp only [looksOk, Bool.and_eq_true] at hk
  exact ⟨h.r.w, h.r.h, h.r.n1, h.r.n2, h.r.h1, h.r.h2, h.r.x0, h.r.x1, h.r.y0, h.r.y1, h.r.t0, h.r.t1, h.r.t2, hk.1, h.rl, h.rr, h.r.gl⟩
/-- The cursor elsewhere, another last rune. -/
theorem RightS.at {s : Scr} {n hh : Nat} (h : RightS s n hh) (x y : Int) (late : Bool) (last : Int) (x0 : 0 ≤ x) (x1 : x < n) (y0 : 0 ≤ y) (y1 : y < hh) (hl : lateBad { s with x := x, y := y, late := late, last := last } = false) (ha : last = 0 ∨ wd last ≠ 0) : RightS { s with x := x, y := y, late := late, last := last } n hh :=
  ⟨h.w, h.h, h.n1, h.n2, h.h1, h.h2, h.cl, h.gz, x0, x1, y0, y1, h.kx0, h.kx1, h.ky0, h.ky1, h.t0, h.t1, h.t2, h.t3, hl, h.looks, h.tl, ha, h.ti, h.gl, h.gr⟩
theorem PJ.rows {n hh : Nat} {s : Scr} {rows rows' : List (List C)} (h : PJ n hh s rows) (hl : rows'.length = hh) (hr : RowsRt n rows') (g : List (List C)) (hg : g.length ≤ 50) (hg2 : ∀ row, row ∈ g → gridErr row.length 1 row = 0) : PJ n hh { s with gone := g } rows' :=
  ⟨(right_new h.r g rows' hl hr hg hg2).1, hl, hr⟩
theorem PJ.at {n hh : Nat} {s : Scr} {rows : List (List C)} (h : PJ n hh s rows) (x y : Int) (late : Bool) (last : Int) (x0 : 0 ≤ x) (x1 : x < n) (y0 : 0 ≤ y) (y1 : y < hh) (hl : lateBad { s with x := x, y := y, late := late, last := last } = false) (ha : last = 0 ∨ wd last ≠ 0) : PJ n hh { s with x := x, y := y, late := late, last := last } rows :=
  ⟨h.r.at x y late last x0 x1 y0 y1 hl ha, h.rl, h.rr⟩
theorem late_no (s : Scr) (h : s.late = false) : lateBad s = false := by
  unfold lateBad
  rw [h]
  rfl
theorem PJ.fed {n hh : Nat} {s : Scr} {rows : List (List C)} (h : PJ n hh s rows) : PJ n hh (fedP n s rows).1 (fedP n s rows).2 := by
  have hp := h.pi.fed
  have hi := h.pi
  have n1 := hi.n1
  have y0 := hi.y0
  have y1 := hi.y1
  have t0 := hi.t0
  have t1 := hi.t1
  have t2 := hi.t2
  have rl := hi.rl
  have eh := hi.h
  have hla := h.r.la
  unfold fedP at hp ⊢
  by_cases hq : s.y = s.bot
  · rw [if_pos hq] at hp ⊢
    have hgr : ∀ row, row ∈ (upS { s with x := 0, late := false } rows s.top.toNat).gone → gridErr row.length 1 row = 0 := fun row hrow => by
      unfold upS at hrow
      split at hrow
      · rcases keepG_mem hrow with q | q
        · exact h.r.gr row q
        · have h0 := h.rr 0 (by omega)
          rw [q, h0.1]
          exact roll_one n _ hi.n1 hi.n2 h0.1 h0.2
      · exact h.r.gr row hrow
    have hu := upS_same { s with x := 0, late := false } rows s.top.toNat
    have k := h.rows hp.rl hp.rr _ hp.gl hgr
    have k2 := k.at 0 s.y false s.last (by omega) (by omega) y0 y1 (late_no _ rfl) hla
    dsimp only at k2 ⊢
    rw [hu]
    exact k2
  · rw [if_neg hq]
    unfold feedS
    dsimp only
    split
    · exact h.at 0 (s.y + 1) false s.last (by omega) (by omega) (by omega) (by omega) (late_no _ rfl) hla
    · exact h.at 0 s.y false s.last (by omega) (by omega) y0 y1 (late_no _ rfl) hla
theorem PJ.turn {n hh : Nat} {s : Scr} {rows : List (List C)} (h : PJ n hh s rows) (r : Int) : PJ n hh (turnP n s rows r).1 (turnP n s rows r).2 := by
  unfold turnP
  split
  · exact h.fed
  · exact h
theorem fedP_late (n : Nat) (s : Scr) (rows : List (List C)) : (fedP n s rows).1.late = false := by
  unfold fedP
  split
  · dsimp only
    rw [upS_same]
  · unfold feedS
    dsimp only
    split <;> rfl
theorem turn_late (n : Nat) (s : Scr) (rows : List (List C)) (r : Int) : (turnP n s rows r).1.late = false := by
  unfold turnP
  by_cases hb : brkB s (wd r) = true
  · rw [if_pos hb]
    exact fedP_late n s rows
  · rw [if_neg hb]
    have h2 : brkB s (wd r) = false := by simpa using hb
    unfold brkB at h2
    simp only [Bool.or_eq_false_iff] at h2
    exact h2.1
theorem late_adv {s1 : Scr} {x : Int} {r : Int} (e : x = s1.w - 1) : lateBad { s1 with x := x, late := hasB s1.modes 4, last := r } = false := by
  unfold lateBad
  dsimp only
  cases hb : hasB s1.modes 4 with
  | false => rfl
  | true =>
    have h4 : bits .and .i64 s1.modes 4 = 4 := by simpa [hasB] using hb
    rw [h4]
    simp [e]
theorem PJ.print {n hh : Nat} {s : Scr} {rows : List (List C)} (h0 : PJ n hh s rows) (r : Int) : PJ n hh (prnP n s rows r).1 (prnP n s rows r).2 := by
  have hp := h0.pi.print r
  unfold prnP at hp ⊢
  by_cases hsk : wd r = 0 ∨ s.w < wd r
  · rw [if_pos hsk]
    exact h0
  · rw [if_neg hsk] at hp ⊢
    have h := h0.turn r
    have hlt := turn_late n s rows r
    generalize turnP n s rows r = t at *
    obtain ⟨s1, rows1⟩ := t
    dsimp only at h hlt hp ⊢
    by_cases hft : fitsB s1 (wd r) = false
    · rw [if_pos hft]
      exact h
    · rw [if_neg hft] at hp ⊢
      have hf : fitsB s1 (wd r) = true := by simpa using hft
      have hf' : wd r ≤ s1.w - s1.x := by simpa [fitsB] using hf
      have hw0 : wd r ≠ 0 := fun e => hsk (.inl e)
      have hk := Txt.wd_range r
      have n1 := h.pi.n1
      have x0 := h.pi.x0
      have ew := h.pi.w
      have k := h.rows hp.rl hp.rr s1.gone h.r.gl h.r.gr
      dsimp only at k ⊢
      by_cases hq : s1.x + wd r = s1.w
      · have ea : advS s1 (wd r) = { s1 with x := s1.w - 1, late := hasB s1.modes 4 } := by unfold advS; rw [if_pos hq]
        rw [ea]
        exact k.at (s1.w - 1) s1.y (hasB s1.modes 4) r (by omega) (by omega) h.pi.y0 h.pi.y1 (late_adv (s1 := s1) rfl) (.inr hw0)
      · have ea : advS s1 (wd r) = { s1 with x := s1.x + wd r } := by unfold advS; rw [if_neg hq]
        rw [ea]
        exact k.at (s1.x + wd r) s1.y s1.late r (by omega) (by omega) h.pi.y0 h.pi.y1 (late_no _ hlt) (.inr hw0)
/-- What printing leaves as it is. -/
def Held (a b : Scr) : Prop := a.w = b.w ∧ a.h = b.h ∧ a.sf = b.sf ∧ a.sb = b.sb ∧ a.sx = b.sx ∧ a.top = b.top ∧ a.bot = b.bot ∧ a.modes = b.modes ∧ a.tabs = b.tabs ∧ a.kx = b.kx ∧ a.ky = b.ky ∧ a.kf = b.kf ∧ a.kb = b.kb ∧ a.kbits = b.kbits ∧ a.km = b.km ∧ a.title = b.title
theorem Held.refl (a : Scr) : Held a a := ⟨rfl, rfl, rfl, rfl, rfl, rfl, rfl, rfl, rfl, rfl, rfl, rfl, rfl, rfl, rfl, rfl⟩
theorem Held.trans {a b c : Scr} (h : Held a b) (k : Held b c) : Held a c := by
  obtain ⟨h1, h2, h3, h4, h5, h6, h7, h8, h9, h10, h11, h12, h13, h14, h15, h16⟩ := h
  obtain ⟨k1, k2, k3, k4, k5, k6, k7, k8, k9, k10, k11, k12, k13, k14, k15, k16⟩ := k
  exact ⟨h1.trans k1, h2.trans k2, h3.trans k3, h4.trans k4, h5.trans k5, h6.trans k6, h7.trans k7, h8.trans k8, h9.trans k9, h10.trans k10, h11.trans k11, h12.trans k12, h13.trans k13, h14.trans k14, h15.trans k15, h16.trans k16⟩
theorem turn_held (n : Nat) (s : Scr) (rows : List (List C)) (r : Int) : Held (turnP n s rows r).1 s := by
  unfold turnP
  split
  · unfold fedP
    split
    · dsimp only
      rw [upS_same]
      exact Held.refl s
    · unfold feedS
      dsimp only
      split
      · exact Held.refl s
      · exact Held.refl s
  · exact Held.refl s
theorem prnP_held (n : Nat) (s : Scr) (rows : List (List C)) (r : Int) : Held (prnP n s rows r).1 s := by
  have h := turn_held n s rows r
  unfold prnP
  split
  · exact Held.refl s
  · split
    · exact h
    · refine Held.trans ?_ h
      generalize (turnP n s rows r).1 = s1
      unfold advS
      dsimp only
      split
      · exact Held.refl s1
      · exact Held.refl s1
/-- What is printed of a text, so many runes of it. -/
def stP (n : Nat) (t : ByteArray) (s : Scr) (rows : List (List C)) : Nat → Scr × List (List C)
  | 0 => (s, rows)
  | i + 1 => prnP n (stP n t s rows i).1 (stP n t s rows i).2 ((Txt.runes t).getD i (0, 0)).1
theorem PJ.text {n hh : Nat} {s : Scr} {rows : List (List C)} (h : PJ n hh s rows) (t : ByteArray) : ∀ i, PJ n hh (stP n t s rows i).1 (stP n t s rows i).2
  | 0 => h
  | i + 1 => (PJ.text h t i).print _
theorem stP_held (n : Nat) (t : ByteArray) (s : Scr) (rows : List (List C)) : ∀ i, Held (stP n t s rows i).1 s
  | 0 => Held.refl s
  | i + 1 => (prnP_held n _ _ _).trans (stP_held n t s rows i)
theorem text_does {n hh : Nat} {s : Scr} {rows : List (List C)} (h : PJ n hh s rows) (t : ByteArray) (B M : Nat) (w : World) (hT : Txt.Tab w) (hB : w.cell? ⟨B, 0, none⟩ = some (.string t)) :
    Does 18 #[.pointer (some ⟨B, 0, none⟩)] M w s (stP n t s rows (Txt.runes t).length).1 rows (stP n t s rows (Txt.runes t).length).2 :=
  text1_does t B M w (stP n t s rows) hB fun i _ X p hX hS => print_any (PJ.text h t i).pi _ X M w.heap.size p (Grd.Tab.next hT hX) hT.pos hS
theorem plain_textT : Plain 18 := by
  intro args W
  kernel_rfl
/-- Text, on a right screen. -/
theorem ptext_any {w0 w : World} {s : Scr} {cv tv gv : Value} {n hh : Nat} (h : Met w0 w s cv tv gv) (hR : RightS s n hh) (t : ByteArray) (ht : t.size ≤ 4000) :
    Calls Tryd.prog 7 #[.agg (scrA s cv tv gv), .string t] w (Made w0 w { (stP n t s (rowsL n s.cs hh) (Txt.runes t).length).1 with cs := (stP n t s (rowsL n s.cs hh) (Txt.runes t).length).2.flatten } 0) ∧ RightS { (stP n t s (rowsL n s.cs hh) (Txt.runes t).length).1 with cs := (stP n t s (rowsL n s.cs hh) (Txt.runes t).length).2.flatten } n hh := by
  have hj := PJ.start hR
  have he := hj.text t (Txt.runes t).length
  refine ⟨?_, he.r⟩
  have hz := rightErr hR
  have key := putText_any s { (stP n t s (rowsL n s.cs hh) (Txt.runes t).length).1 with cs := (stP n t s (rowsL n s.cs hh) (Txt.runes t).length).2.flatten } cv tv gv t ht w0 w h.t h.v h.b h.f
  rw [hz] at key
  refine key fun W B hW hB => ?_
  exact change_good n hh s _ _ cv tv gv _ plain_textT _ w0 W h.v (h.b.trans (hW.mono h.b.size)) h.f hR.w hR.h hR.gz (fun w1 hw1 => text_does hj t B _ w1 (Grd.Tab.next (Grd.Tab.next h.t hW) hw1) (cell_stay hw1 hB)) (rowsOk hR _ _ he.rl (fun i hi => (he.rr i hi).1) (by have := he.r.gl; show (stP n t s (rowsL n s.cs hh) (Txt.runes t).length).1.gone.length ≤ 51; exact Nat.le_succ_of_le this) (fun i hi => by have := he.r.gone_le i hi; exact Nat.le_trans this (by omega))) _ rfl
end Put
end Go.Proofs.YtmeeojgjboppoaaDoor

/- What is printed of two texts, one behind the other. -/
namespace Go.Proofs.YtmeeojgjboppoaaDoor
namespace Txt
theorem dec_L (l : List UInt8) : dec l = Lib.decodeL l := (Lib.decodeL_N l).symm
/-- Behind a valid text the runes of another one follow. -/
theorem rn_valid : ∀ (k : Nat) (a b : List UInt8), a.length ≤ k → Lib.validD a = true → rn (a ++ b) = rn a ++ rn b
  | 0, a, b, hk, _ => by
    have : a = [] := List.length_eq_zero_iff.1 (by omega)
    subst this
    rfl
  | k + 1, a, b, hk, hv => by
    by_cases ha : a = []
    · subst ha
      rfl
    · rw [Lib.validD_step a ha] at hv
      by_cases hb : (Lib.decodeL a).1 = 65533 ∧ (Lib.decodeL a).2 = 1
      · rw [if_pos hb] at hv
        cases hv
      · rw [if_neg hb] at hv
        have he := Lib.encode_decode a ha hb
        rw [← dec_L] at he hv
        have hok := dec_ok a
        have hp := dec_pos a
        have hsp : a = Lib.encodeRune ((dec a).1 : Int) ++ a.drop (dec a).2 := by rw [he, List.take_append_drop]
        have ih := rn_valid k (a.drop (dec a).2) b (by rw [List.length_drop]; omega) hv
        have h1 := rn_encode ((dec a).1 : Int) hok (a.drop (dec a).2)
        have h2 := rn_encode ((dec a).1 : Int) hok (a.drop (dec a).2 ++ b)
        rw [← hsp] at h1
        rw [← List.append_assoc, ← hsp] at h2
        rw [h1, h2, ih]
        rfl
theorem runes_valid (a b : ByteArray) (h : Lib.validD a.data.toList = true) : runes (a ++ b) = runes a ++ runes b := by
  rw [runes_rn, runes_rn, runes_rn]
  have e : (a ++ b).data.toList = a.data.toList ++ b.data.toList := by
    have := bs_append a.data.toList b.data.toList
    rw [bs_self, bs_self] at this
    rw [this, bs_data]
  rw [e]
  exact rn_valid _ _ _ (Nat.le_refl _) h
end Txt
namespace Put
open Grd (C SliceAt CellsAt gridErr z0 nilV flat rowsL)
open Txt (wd)
/-- Runes printed one after the other. -/
def prnF (n : Nat) (x : Scr × List (List C)) (l : List (Int × Nat)) : Scr × List (List C) := l.foldl (fun x r => prnP n x.1 x.2 r.1) x
theorem prnF_append (n : Nat) (x : Scr × List (List C)) (l l' : List (Int × Nat)) : prnF n x (l ++ l') = prnF n (prnF n x l) l' := by
  unfold prnF
  rw [List.foldl_append]
theorem stP_fold (n : Nat) (t : ByteArray) (s : Scr) (rows : List (List C)) : ∀ i, i ≤ (Txt.runes t).length → stP n t s rows i = prnF n (s, rows) ((Txt.runes t).take i)
  | 0, _ => by rw [List.take_zero]; rfl
  | i + 1, h => by
    have ih := stP_fold n t s rows i (by omega)
    have hi : i < (Txt.runes t).length := by omega
    have e : (Txt.runes t).getD i (0, 0) = (Txt.runes t)[i] := by simp [List.getD, hi]
    show prnP n (stP n t s rows i).1 (stP n t s rows i).2 ((Txt.runes t).getD i (0, 0)).1 = _
    rw [ih, e, List.take_add_one, List.getElem?_eq_getElem hi, Option.toList_some, prnF_append]
    rfl
theorem stP_all (n : Nat) (t : ByteArray) (s : Scr) (rows : List (List C)) : stP n t s rows (Txt.runes t).length = prnF n (s, rows) (Txt.runes t) := by
  rw [stP_fold n t s rows _ (Nat.le_refl _), List.take_length]
theorem turn_cs (n : Nat) (s : Scr) (rows : List (List C)) (r : Int) (c : List C) : turnP n { s with cs := c } rows r = ({ (turnP n s rows r).1 with cs := c }, (turnP n s rows r).2) := by
  unfold turnP
  by_cases h : brkB s (wd r) = true
  · have h' : brkB { s with cs := c } (wd r) = true := h
    rw [if_pos h, if_pos h']
    unfold fedP
    by_cases h2 : s.y = s.bot
    · rw [if_pos (show ({ s with cs := c } : Scr).y = ({ s with cs := c } : Scr).bot from h2), if_pos h2]
      unfold upS
      dsimp only
      split <;> rfl
    · rw [if_neg (show ¬ ({ s with cs := c } : Scr).y = ({ s with cs := c } : Scr).bot from h2), if_neg h2]
      unfold feedS
      dsimp only
      split <;> rfl
  · have h' : ¬ brkB { s with cs := c } (wd r) = true := h
    rw [if_neg h, if_neg h']
theorem prnP_cs (n : Nat) (s : Scr) (rows : List (List C)) (r : Int) (c : List C) : prnP n { s with cs := c } rows r = ({ (prnP n s rows r).1 with cs := c }, (prnP n s rows r).2) := by
  unfold prnP
  rw [turn_cs]
  generalize turnP n s rows r = q
  by_cases h1 : wd r = 0 ∨ s.w < wd r
  · rw [if_pos h1, if_pos (show wd r = 0 ∨ ({ s with cs := c } : Scr).w < wd r from h1)]
  · rw [if_neg h1, if_neg (show ¬ (wd r = 0 ∨ ({ s with cs := c } : Scr).w < wd r) from h1)]
    by_cases h2 : fitsB q.1 (wd r) = false
    · rw [if_pos h2, if_pos (show fitsB ({ q.1 with cs := c } : Scr) (wd r) = false from h2)]
    · rw [if_neg h2, if_neg (show ¬ fitsB ({ q.1 with cs := c } : Scr) (wd r) = false from h2)]
      unfold advS
      dsimp only
      split <;> rfl
theorem prnF_cs (n : Nat) (c : List C) : ∀ (l : List (Int × Nat)) (s : Scr) (rows : List (List C)), prnF n ({ s with cs := c }, rows) l = ({ (prnF n (s, rows) l).1 with cs := c }, (prnF n (s, rows) l).2)
  | [], s, rows => rfl
  | r :: l, s, rows => by
    have e : prnF n ({ s with cs := c }, rows) (r :: l) = prnF n (prnP n { s with cs := c } rows r.1) l := rfl
    have e2 : prnF n (s, rows) (r :: l) = prnF n (prnP n s rows r.1) l := rfl
    rw [e, e2, prnP_cs]
    exact prnF_cs n c l (prnP n s rows r.1).1 (prnP n s rows r.1).2
/-- What a text makes of a screen. -/
def textS (n hh : Nat) (t : ByteArray) (s : Scr) : Scr := { (prnF n (s, rowsL n s.cs hh) (Txt.runes t)).1 with cs := (prnF n (s, rowsL n s.cs hh) (Txt.runes t)).2.flatten }
theorem textS_st (n hh : Nat) (t : ByteArray) (s : Scr) : ({ (stP n t s (rowsL n s.cs hh) (Txt.runes t).length).1 with cs := (stP n t s (rowsL n s.cs hh) (Txt.runes t).length).2.flatten } : Scr) = textS n hh t s := by
  unfold textS
  rw [stP_all]
theorem PJ.fold {n hh : Nat} {s : Scr} {rows : List (List C)} (h : PJ n hh s rows) (t : ByteArray) : PJ n hh (prnF n (s, rows) (Txt.runes t)).1 (prnF n (s, rows) (Txt.runes t)).2 := by
  have := h.text t (Txt.runes t).length
  rwa [stP_all] at this
theorem PJ.back {n hh : Nat} {s : Scr} {rows : List (List C)} (h : PJ n hh s rows) : rowsL n rows.flatten hh = rows :=
  (right_new h.r s.gone rows h.rl h.rr h.r.gl h.r.gr).2
theorem textS_row {n hh : Nat} {s : Scr} (h : RightS s n hh) (a b : ByteArray) (hv : Lib.validD a.data.toList = true) : textS n hh b (textS n hh a s) = textS n hh (a ++ b) s := by
  have hj := (PJ.start h).fold a
  have e : rowsL n (textS n hh a s).cs hh = (prnF n (s, rowsL n s.cs hh) (Txt.runes a)).2 := hj.back
  have k : prnF n (textS n hh a s, rowsL n (textS n hh a s).cs hh) (Txt.runes b) = ({ (prnF n (s, rowsL n s.cs hh) (Txt.runes (a ++ b))).1 with cs := (prnF n (s, rowsL n s.cs hh) (Txt.runes a)).2.flatten }, (prnF n (s, rowsL n s.cs hh) (Txt.runes (a ++ b))).2) := by
    rw [e, Txt.runes_valid a b hv, prnF_append]
    exact prnF_cs n _ (Txt.runes b) _ _
  show ({ (prnF n (textS n hh a s, rowsL n (textS n hh a s).cs hh) (Txt.runes b)).1 with cs := (prnF n (textS n hh a s, rowsL n (textS n hh a s).cs hh) (Txt.runes b)).2.flatten } : Scr) = _
  rw [k]
  rfl
end Put
end Go.Proofs.YtmeeojgjboppoaaDoor

/- utf8.ValidString, and its tables. -/
namespace Go.Proofs.YtmeeojgjboppoaaDoor
open Go.ChangeShapes Go.WideShapes Go.ChangeAt Go.RowKit
namespace Put
def vren : Go.Shelf.Ren := ⟨fun | 196 => 5 | 259 => 15 | n => n, fun | 0 => 0 | 3 => 3 | 4 => 4 | 5 => 5 | 9 => 9 | 12 => 12 | 46 => 51 | 53 => 75 | 119 => 47 | 138 => 49 | 139 => 50 | n => n, fun | 3 => 0 | 4 => 1 | n => n⟩
theorem vlays : Go.Proofs.Lays.n196 Tryd.prog vren := {
  mixed := by kernel_rfl
  f196 := Tryd.func5.trans (congrArg some (by kernel_rfl))
  f259 := Tryd.func15.trans (congrArg some (by kernel_rfl))
  t0 := Tryd.underlying0
  a0 := Tryd.isAgg0
  z0 := Tryd.sizeOf0
  v0 := Tryd.zeroValue0
  t3 := Tryd.underlying3
  a3 := Tryd.isAgg3
  z3 := Tryd.sizeOf3
  v3 := Tryd.zeroValue3
  t4 := Tryd.underlying4
  a4 := Tryd.isAgg4
  z4 := Tryd.sizeOf4
  v4 := Tryd.zeroValue4
  t5 := Tryd.underlying5
  a5 := Tryd.isAgg5
  z5 := Tryd.sizeOf5
  v5 := Tryd.zeroValue5
  t9 := Tryd.underlying9
  a9 := Tryd.isAgg9
  z9 := Tryd.sizeOf9
  v9 := Tryd.zeroValue9
  t12 := Tryd.underlying12
  a12 := Tryd.isAgg12
  z12 := Tryd.sizeOf12
  v12 := Tryd.zeroValue12
  t46 := Tryd.underlying51
  a46 := Tryd.isAgg51
  z46 := Tryd.sizeOf51
  v46 := Tryd.zeroValue51
  t53 := Tryd.underlying75
  a53 := Tryd.isAgg75
  z53 := Tryd.sizeOf75
  v53 := Tryd.zeroValue75
  t119 := Tryd.underlying47
  a119 := Tryd.isAgg47
  z119 := Tryd.sizeOf47
  t138 := Tryd.underlying49
  a138 := Tryd.isAgg49
  z138 := Tryd.sizeOf49
  v138 := Tryd.zeroValue49
  t139 := Tryd.underlying50
  a139 := Tryd.isAgg50
  z139 := Tryd.sizeOf50
  v139 := Tryd.zeroValue50
  g3 := by kernel_rfl
  g4 := by kernel_rfl }
/-- The tables of package utf8 lie as its text lays them. -/
def VTabs (w : World) : Prop := Lib.Utf8Tabs 0 1 w
theorem vtabs_next {w w' : World} (h : VTabs w) (hb : Below w.heap.size w w') : VTabs w' := Utf8Tabs_below h hb
theorem valid_any (s : ByteArray) (w : World) (hs : s.size ≤ 9223372036854775807) (hT : VTabs w) : Calls Tryd.prog 5 #[.string s] w fun e w' => e = .returned (.bool (Lib.validD s.data.toList)) ∧ Below w.heap.size w w' := Any.utf8_ValidString vlays s w hs hT
theorem u8xv : U8Extra Tryd.prog vren := { n3 := by kernel_rfl, n4 := by kernel_rfl, y3 := by kernel_rfl, y4 := by kernel_rfl, c5 := by kernel_rfl, c119 := by kernel_rfl, c138 := by kernel_rfl }
theorem firstV_eq : Lib.firstData = Rows.laid_unicode_utf8_first := by kernel_rfl
theorem acceptV_eq : Lib.acceptData = Rows.laid_unicode_utf8_acceptRanges := by kernel_rfl
def firstCellsV : Array Value := (Go.Pinned.utf8FirstZ.map fun (z : Nat) => Value.int .u8 (z : Int)).toArray
def acceptCellsV : Array Value := ((List.range 16).flatMap fun i => [Value.int .u8 (Lib.accLo i : Int), Value.int .u8 (Lib.accHi i : Int)]).toArray
theorem vtabs_of {W : World} (h3 : Lib.VarReads Tryd.prog W "unicode/utf8.first" Rows.laid_unicode_utf8_first) (h4 : Lib.VarReads Tryd.prog W "unicode/utf8.acceptRanges" Rows.laid_unicode_utf8_acceptRanges) : VTabs W := by
  rw [← firstV_eq] at h3
  rw [← acceptV_eq] at h4
  exact utf8Tabs_of_readsT (U8Types.of196 vlays) u8xv h3 h4
end Put
end Go.Proofs.YtmeeojgjboppoaaDoor

/- The closed fact of the laws on screens: three runes on two columns. -/
namespace Go.Proofs.YtmeeojgjboppoaaDoor
open Go.ChangeShapes Go.WideShapes Go.ChangeAt Go.RowKit
namespace Put
open Grd (C SliceAt CellsAt gridErr z0 nilV flat rowsL)
open Txt (wd)
def abc : ByteArray := ⟨#[97, 98, 99]⟩
def stq : Nat → Scr × List (List C)
  | 0 => (newScr 2 2, rowsL 2 (newScr 2 2).cs 2)
  | 1 => printP (newScr 2 2, rowsL 2 (newScr 2 2).cs 2) 97
  | 2 => printP (printP (newScr 2 2, rowsL 2 (newScr 2 2).cs 2) 97) 98
  | _ => printP (printP (printP (newScr 2 2, rowsL 2 (newScr 2 2).cs 2) 97) 98) 99
theorem abc_runes : Txt.runes abc = [(97, 1), (98, 1), (99, 1)] := by decide +kernel
theorem ok0 : stepOk (stq 0) 97 = true := by decide +kernel
theorem ok1 : stepOk (stq 1) 98 = true := by decide +kernel
theorem ok2 : stepOk (stq 2) 99 = true := by decide +kernel
theorem new22_ok : scrErr (newScr 2 2) = 0 := by decide +kernel
theorem new22_grid : gridErr (2 : Nat) (2 : Nat) (newScr 2 2).cs = 0 := by decide +kernel
theorem new22_fits : Fits (newScr 2 2) := ⟨by decide, by decide, by decide, by decide, by decide, by decide, by decide +kernel⟩
theorem end_x : (stq 3).1.x = 1 := by decide +kernel
theorem end_y : (stq 3).1.y = 1 := by decide +kernel
theorem end_late : (stq 3).1.late = false := by decide +kernel
theorem end_last : (stq 3).1.last = 99 := by decide +kernel
def abcCs : List C := [(97, 0, 0, 0), (98, 0, 0, 0), (99, 0, 0, 0), (32, 0, 0, 0)]
theorem end_cs : (stq 3).2.flatten = abcCs := by decide +kernel
theorem end_rows : RowsOk (stq 3).1 (stq 3).2 := by
  have hl : (stq 3).2.length = 2 := by decide +kernel
  have hg : (stq 3).1.gone = [] := by decide +kernel
  have h0 : (stq 3).2.getD 0 [] ≠ [] := by decide +kernel
  have h1 : (stq 3).2.getD 1 [] ≠ [] := by decide +kernel
  refine ⟨by rw [hl]; omega, by rw [hl]; omega, fun i hi => ?_, by rw [end_cs]; decide, by rw [hg]; decide, fun i hi => by rw [hg] at hi; exact absurd hi (by simp)⟩
  rw [hl] at hi
  match i, hi with
  | 0, _ => exact h0
  | 1, _ => exact h1
theorem plain_text : Plain 18 := by
  intro args W
  kernel_rfl
theorem abc_does (B M : Nat) (w : World) (hT : Txt.Tab w) (hB : w.cell? ⟨B, 0, none⟩ = some (.string abc)) : Does 18 #[.pointer (some ⟨B, 0, none⟩)] M w (stq 0).1 (stq 3).1 (stq 0).2 (stq 3).2 := by
  have h := text1_does abc B M w stq hB
  rw [abc_runes] at h
  refine h ?_
  intro i hi X p hb hS
  have hTX := Grd.Tab.next hT hb
  have hN : ∀ Y, Below w.heap.size X Y → Txt.Tab Y := fun Y hY => Grd.Tab.next hT (hb.trans hY)
  match i, hi with
  | 0, _ => exact print_step X M w.heap.size p (stq 0) 97 hTX hN hS ok0
  | 1, _ => exact print_step X M w.heap.size p (stq 1) 98 hTX hN hS ok1
  | 2, _ => exact print_step X M w.heap.size p (stq 2) 99 hTX hN hS ok2
theorem abc_text (cv tv gv : Value) (w0 w : World) (hT : Txt.Tab w) (hV : ScrV w0 (newScr 2 2) cv tv gv) (hb0 : Below w0.heap.size w0 w) : Calls Tryd.prog 7 #[.agg (scrA (newScr 2 2) cv tv gv), .string abc] w (Made w0 w { (stq 3).1 with cs := abcCs } 0) := by
  have h := putText_any (newScr 2 2) { (stq 3).1 with cs := abcCs } cv tv gv abc (by decide) w0 w hT hV hb0 new22_fits
  rw [new22_ok] at h
  refine h fun W B hW hB => ?_
  exact change_good 2 2 (newScr 2 2) (stq 3).1 (stq 3).2 cv tv gv _ plain_text _ w0 W hV (hb0.trans (hW.mono hb0.size)) new22_fits rfl rfl new22_grid (fun w1 hw1 => abc_does B _ w1 (Grd.Tab.next (Grd.Tab.next hT hW) hw1) (cell_stay hw1 hB)) end_rows abcCs end_cs
set_option maxHeartbeats 4000000 in
set_option maxRecDepth 100000 in
theorem printed_any (w : World) (hT : Txt.Tab w) : Calls Tryd.prog 6 #[] w fun e w' => e = .returned (.bool true) ∧ Below w.heap.size w w' := by
  have HN := new_good' 2 2 w (by decide)
  have HT : Hid (∀ W, Below w.heap.size w W → Txt.Tab W) := fun W h => Grd.Tab.next hT h
  clear hT
  go_enter Tryd.func6, Tryd.ntmps6
  go_wp2_with fail
  refine HN.mono ?_
  rintro e W1 ⟨cv, tv, gv, rfl, hO, b1⟩
  obtain ⟨a1, n1, c1, a2, n2, c2, a3, n3, c3, rfl, rfl, rfl⟩ := hO.shapes
  generalize hs : newScr 2 2 = s at *
  have x1 := heap_alloc_new W1 (.cells #[.int .i64 0, .int .i64 0, .slice none 0 0, .int .i64 0, .int .i64 0, .bool false, .int .i64 0, .int .i64 0, .int .i64 0, .int .i64 0, .int .i64 0, .int .i64 0, .slice none 0 0, .int .i64 0, .int .i64 0, .int .i64 0, .int .i64 0, .int .i64 0, .int .i64 0, .int .i32 0, .string ⟨#[]⟩, .slice none 0 0] 32)
  have HX1 : Hid ((W1.alloc (.cells #[.int .i64 0, .int .i64 0, .slice none 0 0, .int .i64 0, .int .i64 0, .bool false, .int .i64 0, .int .i64 0, .int .i64 0, .int .i64 0, .int .i64 0, .int .i64 0, .slice none 0 0, .int .i64 0, .int .i64 0, .int .i64 0, .int .i64 0, .int .i64 0, .int .i64 0, .int .i32 0, .string ⟨#[]⟩, .slice none 0 0] 32)).heap[W1.heap.size]? = _) := x1
  have HV : Hid (ScrV W1 s _ _ _) := hO.scr
  have HB1 : Hid (Below w.heap.size w W1) := b1
  clear HN hO b1 x1
  go_upto_region 2 with (refine wpList_store_row rfl 32 (.tmp 1) _ rfl W1.heap.size (scrA s (.slice a1 n1 c1) (.slice a2 n2 c2) (.slice a3 n3 c3)) rfl rfl _ _ HX1.out (by kernel_rfl) rfl (scr_one _ _ _ _ _ _ _ _ _ _) ?_)
  have HX2 : Hid (((W1.alloc (.cells #[.int .i64 0, .int .i64 0, .slice none 0 0, .int .i64 0, .int .i64 0, .bool false, .int .i64 0, .int .i64 0, .int .i64 0, .int .i64 0, .int .i64 0, .int .i64 0, .slice none 0 0, .int .i64 0, .int .i64 0, .int .i64 0, .int .i64 0, .int .i64 0, .int .i64 0, .int .i32 0, .string ⟨#[]⟩, .slice none 0 0] 32)).setRow W1.heap.size (scrA s (.slice a1 n1 c1) (.slice a2 n2 c2) (.slice a3 n3 c3))).heap[W1.heap.size]? = some (.cells (scrA s (.slice a1 n1 c1) (.slice a2 n2 c2) (.slice a3 n3 c3)) 32 (0, 0))) := setRow_heap _ _ _ _ _ _ HX1.out
  have HBX : Hid (Below W1.heap.size W1 ((W1.alloc (.cells #[.int .i64 0, .int .i64 0, .slice none 0 0, .int .i64 0, .int .i64 0, .bool false, .int .i64 0, .int .i64 0, .int .i64 0, .int .i64 0, .int .i64 0, .int .i64 0, .slice none 0 0, .int .i64 0, .int .i64 0, .int .i64 0, .int .i64 0, .int .i64 0, .int .i64 0, .int .i32 0, .string ⟨#[]⟩, .slice none 0 0] 32)).setRow W1.heap.size (scrA s (.slice a1 n1 c1) (.slice a2 n2 c2) (.slice a3 n3 c3)))) := below_setRow ((Below.refl _ _).alloc (Nat.le_refl _) _) (Nat.le_refl _) _
  have HHS : Hid (newScr 2 2 = s) := hs
  clear HX1 hs
  generalize ((W1.alloc (.cells #[.int .i64 0, .int .i64 0, .slice none 0 0, .int .i64 0, .int .i64 0, .bool false, .int .i64 0, .int .i64 0, .int .i64 0, .int .i64 0, .int .i64 0, .int .i64 0, .slice none 0 0, .int .i64 0, .int .i64 0, .int .i64 0, .int .i64 0, .int .i64 0, .int .i64 0, .int .i32 0, .string ⟨#[]⟩, .slice none 0 0] 32)).setRow W1.heap.size (scrA s (.slice a1 n1 c1) (.slice a2 n2 c2) (.slice a3 n3 c3))) = X at *
  have HTX : Calls Tryd.prog 7 #[.agg (scrA s (.slice a1 n1 c1) (.slice a2 n2 c2) (.slice a3 n3 c3)), .string ⟨#[97, 98, 99]⟩] X (Made W1 X { (stq 3).1 with cs := abcCs } 0) := by
    have hv := HV.out
    rw [← HHS.out] at hv ⊢
    exact abc_text _ _ _ W1 X (HT.out X (HB1.out.trans (HBX.out.mono HB1.out.size))) hv HBX.out
  have h1 := end_x
  have h2 := end_y
  have h3 := end_late
  have h4 := end_last
  obtain ⟨s2, hs2⟩ : ∃ s2 : Scr, s2 = { (stq 3).1 with cs := abcCs } := ⟨_, rfl⟩
  have k1 : s2.x = 1 := by rw [hs2]; exact h1
  have k2 : s2.y = 1 := by rw [hs2]; exact h2
  have k3 : s2.late = false := by rw [hs2]; exact h3
  have k4 : s2.last = 99 := by rw [hs2]; exact h4
  have k5 : s2.cs = abcCs := by rw [hs2]
  rw [← hs2] at HTX
  have K : Hid (s2.x = 1 ∧ s2.y = 1 ∧ s2.late = false ∧ s2.last = 99 ∧ s2.cs = abcCs) := ⟨k1, k2, k3, k4, k5⟩
  clear h1 h2 h3 h4 hs2 k1 k2 k3 k4 k5
  go_wp2_with (refine wpList_load_row rfl 32 (.tmp 1) rfl W1.heap.size rfl _ _ _ _ HX2.out Tryd.underlying32 rfl (by kernel_rfl) ?_)
  refine HTX.mono ?_
  rintro e W2 ⟨cv', tv', gv', rfl, hO, b2⟩
  obtain ⟨a4, n4, c4, a5, n5, c5, a6, n6, c6, -, rfl, rfl⟩ := hO.shapes
  have hc := hO.c
  rw [K.out.2.2.2.2] at hc
  rcases hc with ⟨he, -⟩ | ⟨g, cap, rest, t, hv, hg, hl, hm, hh⟩
  · exact absurd he (by decide)
  subst hv
  have x2 := heap_alloc_new W2 (.cells #[.int .i64 0, .int .i64 0, .slice none 0 0, .int .i64 0, .int .i64 0, .bool false, .int .i64 0, .int .i64 0, .int .i64 0, .int .i64 0, .int .i64 0, .int .i64 0, .slice none 0 0, .int .i64 0, .int .i64 0, .int .i64 0, .int .i64 0, .int .i64 0, .int .i64 0, .int .i32 0, .string ⟨#[]⟩, .slice none 0 0] 32)
  have HX3 : Hid ((W2.alloc (.cells #[.int .i64 0, .int .i64 0, .slice none 0 0, .int .i64 0, .int .i64 0, .bool false, .int .i64 0, .int .i64 0, .int .i64 0, .int .i64 0, .int .i64 0, .int .i64 0, .slice none 0 0, .int .i64 0, .int .i64 0, .int .i64 0, .int .i64 0, .int .i64 0, .int .i64 0, .int .i32 0, .string ⟨#[]⟩, .slice none 0 0] 32)).heap[W2.heap.size]? = _) := x2
  have HX4 : Hid (((W2.alloc (.cells #[.int .i64 0, .int .i64 0, .slice none 0 0, .int .i64 0, .int .i64 0, .bool false, .int .i64 0, .int .i64 0, .int .i64 0, .int .i64 0, .int .i64 0, .int .i64 0, .slice none 0 0, .int .i64 0, .int .i64 0, .int .i64 0, .int .i64 0, .int .i64 0, .int .i64 0, .int .i32 0, .string ⟨#[]⟩, .slice none 0 0] 32)).setRow W2.heap.size (scrA s2 (.slice (some ⟨g, 0, none⟩) 4 cap) (.slice a5 n5 c5) (.slice a6 n6 c6))).heap[W2.heap.size]? = some (.cells (scrA s2 (.slice (some ⟨g, 0, none⟩) 4 cap) (.slice a5 n5 c5) (.slice a6 n6 c6)) 32 (0, 0))) := setRow_heap _ _ _ _ _ _ HX3.out
  have hb2 : Below w.heap.size w W2 := (HB1.out.trans (HBX.out.mono HB1.out.size)).trans (b2.mono (HB1.out.trans (HBX.out.mono HB1.out.size)).size)
  have HBY : Hid (Below w.heap.size w ((W2.alloc (.cells #[.int .i64 0, .int .i64 0, .slice none 0 0, .int .i64 0, .int .i64 0, .bool false, .int .i64 0, .int .i64 0, .int .i64 0, .int .i64 0, .int .i64 0, .int .i64 0, .slice none 0 0, .int .i64 0, .int .i64 0, .int .i64 0, .int .i64 0, .int .i64 0, .int .i64 0, .int .i32 0, .string ⟨#[]⟩, .slice none 0 0] 32)).setRow W2.heap.size (scrA s2 (.slice (some ⟨g, 0, none⟩) 4 cap) (.slice a5 n5 c5) (.slice a6 n6 c6)))) := below_setRow (hb2.alloc hb2.size _) hb2.size _
  have HG : Hid (CellsAt ((W2.alloc (.cells #[.int .i64 0, .int .i64 0, .slice none 0 0, .int .i64 0, .int .i64 0, .bool false, .int .i64 0, .int .i64 0, .int .i64 0, .int .i64 0, .int .i64 0, .int .i64 0, .slice none 0 0, .int .i64 0, .int .i64 0, .int .i64 0, .int .i64 0, .int .i64 0, .int .i64 0, .int .i32 0, .string ⟨#[]⟩, .slice none 0 0] 32)).setRow W2.heap.size (scrA s2 (.slice (some ⟨g, 0, none⟩) 4 cap) (.slice a5 n5 c5) (.slice a6 n6 c6))) g 0 abcCs) := by
    refine Grd.cellsAt_flat (t := t) (rest := rest) ?_
    rw [setRow_other _ _ _ _ (Nat.ne_of_lt (heap_lt hh)), Below.heap_alloc _ _ _ (heap_lt hh)]
    exact hh
  clear HTX hO b2 x2 hh hb2 HX2 HBX HB1 HV
  go_upto_region 3 with (refine wpList_store_row rfl 32 (.tmp 3) _ rfl W2.heap.size (scrA s2 (.slice (some ⟨g, 0, none⟩) 4 cap) (.slice a5 n5 c5) (.slice a6 n6 c6)) rfl rfl _ _ HX3.out (by kernel_rfl) rfl (scr_one _ _ _ _ _ _ _ _ _ _) ?_)
  clear HX3
  generalize ((W2.alloc (.cells #[.int .i64 0, .int .i64 0, .slice none 0 0, .int .i64 0, .int .i64 0, .bool false, .int .i64 0, .int .i64 0, .int .i64 0, .int .i64 0, .int .i64 0, .int .i64 0, .slice none 0 0, .int .i64 0, .int .i64 0, .int .i64 0, .int .i64 0, .int .i64 0, .int .i64 0, .int .i32 0, .string ⟨#[]⟩, .slice none 0 0] 32)).setRow W2.heap.size (scrA s2 (.slice (some ⟨g, 0, none⟩) 4 cap) (.slice a5 n5 c5) (.slice a6 n6 c6))) = Y at *
  obtain ⟨⟨-, -, d2, d3, d4, d5, -⟩, ⟨-, -, -, -, -, -, -, -, d19, -⟩, -⟩ := scr_cells HX4.out
  rw [K.out.1] at d3
  rw [K.out.2.1] at d4
  rw [K.out.2.2.1] at d5
  rw [K.out.2.2.2.1] at d19
  obtain ⟨e8, -⟩ := HG.out 2 (by decide)
  have e8' : Y.cell? ⟨g, 8, none⟩ = some (.int .i32 99) := e8
  clear e8
  go_wp2_with fail
  go_ret
  exact ⟨rfl, HBY.out⟩
end Put
end Go.Proofs.YtmeeojgjboppoaaDoor

/- A list of rows, anywhere in a block of such. -/
namespace Go.Proofs.YtmeeojgjboppoaaDoor
open Go.ChangeShapes Go.WideShapes Go.ChangeAt Go.RowKit
namespace Put
open Grd (C SliceAt CellsAt gridErr z0 nilV rowsL RowsAt RowB flat)
/-- The block that a slice speaks of. -/
def blkOf (v : Value) : Option Nat := match v with
  | .slice (some a) _ _ => some a.block
  | _ => none
/-- A list of rows' values, anywhere in a block of such: from N on. -/
def GoneV (W : World) (N : Nat) (v : Value) (n : Nat) (vs : List Value) : Prop :=
  vs.length = n ∧ ((n = 0 ∧ ∃ a c, v = .slice a 0 c) ∨ ∃ g o cap A, v = .slice (some ⟨g, o, none⟩) n cap ∧ N ≤ g ∧ n ≤ cap ∧ cap ≤ 9223372036854775807 ∧ W.heap[g]? = some (.cells A 22 (0, 0)) ∧ ∀ j, j < n → A[o + j]? = some (vs.getD j nilV))
theorem GoneV.of {W : World} {N : Nat} {v : Value} {n : Nat} {vs : List Value} (h : W.ownsRow N 22 1 v n vs) : GoneV W N v n vs := by
  obtain ⟨h0, ⟨rfl, rfl⟩ | ⟨g, cap, cur, rfl, hg, hh, hc, hm, hs, htk⟩⟩ := h
  · exact ⟨by simpa using h0, .inl ⟨rfl, none, 0, rfl⟩⟩
  · refine ⟨by simpa using h0, .inr ⟨g, 0, cap, cur, rfl, hg, hc, by unfold maxLen at hm; omega, hh, fun j hj => ?_⟩⟩
    have hl : vs.length = n := by simpa using h0
    rw [Nat.zero_add]
    have e : cur[j]? = vs[j]? := by rw [← htk, ← Array.getElem?_toList, List.getElem?_take_of_lt (by omega)]
    rw [e]
    simp [List.getD, List.getElem?_eq_getElem (show j < vs.length by omega)]
theorem GoneV.slice {W : World} {N : Nat} {v : Value} {n : Nat} {vs : List Value} (h : GoneV W N v n vs) : ∃ a c, v = .slice a n c := by
  obtain ⟨-, ⟨rfl, a, c, rfl⟩ | ⟨g, o, cap, A, rfl, -⟩⟩ := h
  · exact ⟨a, c, rfl⟩
  · exact ⟨_, cap, rfl⟩
theorem GoneV.kept {W W' : World} {N : Nat} {v : Value} {n : Nat} {vs : List Value} (h : GoneV W N v n vs) (hk : ∀ g, v.ownBlock = some g → W'.heap[g]? = W.heap[g]?) : GoneV W' N v n vs := by
  obtain ⟨h0, h | ⟨g, o, cap, A, hv, h1, h2, h3, h4, h5⟩⟩ := h
  · exact ⟨h0, .inl h⟩
  · exact ⟨h0, .inr ⟨g, o, cap, A, hv, h1, h2, h3, (hk g (by rw [hv]; rfl)).trans h4, h5⟩⟩
theorem GoneV.next {W W' : World} {N : Nat} {v : Value} {n : Nat} {vs : List Value} (h : GoneV W N v n vs) (hb : Below W.heap.size W W') : GoneV W' N v n vs := by
  obtain ⟨h0, h | ⟨g, o, cap, A, hv, h1, h2, h3, h4, h5⟩⟩ := h
  · exact ⟨h0, .inl h⟩
  · exact ⟨h0, .inr ⟨g, o, cap, A, hv, h1, h2, h3, Grd.carry h4 hb, h5⟩⟩
theorem GoneV.apart {W W' : World} {N p : Nat} {t : TypeId} {v : Value} {n : Nat} {vs : List Value} {A : Array Value} {f : Nat × Nat} (h : GoneV W N v n vs) (hp : W.heap[p]? = some (.cells A t f)) (ht : t ≠ 22) (ho : ∀ k, k ≠ p → W'.heap[k]? = W.heap[k]?) : GoneV W' N v n vs := by
  obtain ⟨h0, h | ⟨g, o, cap, B, hv, h1, h2, h3, h4, h5⟩⟩ := h
  · exact ⟨h0, .inl h⟩
  · refine ⟨h0, .inr ⟨g, o, cap, B, hv, h1, h2, h3, (ho g fun e => ?_).trans h4, h5⟩⟩
    rw [e, hp] at h4
    injection h4 with h4
    injection h4 with _ h4 _
    exact ht h4
theorem GoneV.rowsV {W : World} {N : Nat} {v : Value} {rows : List (List C)} {vs : List Value} (h : GoneV W N v rows.length vs) (hr : RowsL W vs rows) : RowsV W v rows := by
  obtain ⟨h0, ⟨hn, a, c, hv⟩ | ⟨g, o, cap, A, hv, h1, h2, h3, h4, h5⟩⟩ := h
  · exact .inl ⟨List.eq_nil_of_length_eq_zero hn, a, c, hv⟩
  · refine .inr ⟨g, o, cap, hv, h2, h3, fun j hj => ⟨vs.getD j nilV, ?_, hr.2 j hj⟩⟩
    simp only [World.cell?, h4]
    rw [h5 j hj]
    rfl
end Put
end Go.Proofs.YtmeeojgjboppoaaDoor

/- A screen's grid, read out of the screen's block; lists of rows; a screen that is kept. -/
namespace Go.Proofs.YtmeeojgjboppoaaDoor
open Go.ChangeShapes Go.WideShapes Go.ChangeAt Go.RowKit
namespace Put
open Grd (C SliceAt CellsAt gridErr z0 nilV rowsL RowsAt RowB flat)
def Ptr3 (W : World) (v : Value) : Prop := ∃ R o cs t fr, v = .pointer (some ⟨R, o, none⟩) ∧ W.heap[R]? = some (.cells cs t fr) ∧ o + 3 ≤ cs.size
def at3 (W : World) (v : Value) : Array Value := match v with
  | .pointer (some a) => (match W.heap[a.block]? with
    | some (.cells cs _ _) => cs.extract a.off (a.off + 3)
    | _ => #[])
  | _ => #[]
theorem info_grid3 : (Tryd.prog.info? 24).map (·.size) = some 3 := by kernel_rfl
theorem load_grd (a : Act) (dst : Option Tmp) (x : Operand) (ty : TypeId) (pos : String) (after : Array Edge) (guard : Option (Nat × Bool)) (W : World) (h : Ptr3 W (a.eval x)) :
    (execOp a.eval { dst, op := .load 24 x, type := ty, pos, after, guard }).run Tryd.prog W = .ok (.value (.agg (at3 W (a.eval x)))) W := by
  obtain ⟨R, o, cs, t, fr, h0, h1, h2⟩ := h
  have e : at3 W (a.eval x) = cs.extract o (o + 3) := by rw [h0]; unfold at3; simp only []; rw [h1]
  rw [e]
  have hr := run_loadVar_mid (P := Tryd.prog) W R o 24 (cs.extract o (o + 3)).toList _ (World.rangeAt_of_block h1 o 3) Tryd.underlying24 rfl (by rw [info_grid3]; simp; omega)
  unfold execOp
  simp only [h0, Instr.loadAt, Instr.sureAddr, Sem.run_bind, Sem.run_pure, Result.andThen_ok, hr]
theorem scr_grd {W : World} {R : Nat} {t : TypeId} {s : Scr} {cv tv gv : Value} (h : W.heap[R]? = some (.cells (scrA s cv tv gv) t (0, 0))) : Ptr3 W (.pointer (some ⟨R, 0, none⟩)) ∧ at3 W (.pointer (some ⟨R, 0, none⟩)) = #[.int .i64 s.w, .int .i64 s.h, cv] := by
  refine ⟨⟨_, _, _, _, _, rfl, h, by show 3 ≤ 22; omega⟩, ?_⟩
  unfold at3
  simp only []
  rw [h]
  rfl
theorem getD_app {α : Type} (l l' : List α) (d : α) (i : Nat) : (l ++ l').getD i d = if i < l.length then l.getD i d else l'.getD (i - l.length) d := by
  by_cases h : i < l.length
  · rw [if_pos h]
    simp [List.getD, List.getElem?_append_left h]
  · rw [if_neg h]
    simp [List.getD, List.getElem?_append_right (Nat.le_of_not_lt h)]
theorem RowsL.app {W : World} {vs vs' : List Value} {l l' : List (List C)} (h : RowsL W vs l) (h' : RowsL W vs' l') : RowsL W (vs ++ vs') (l ++ l') := by
  refine ⟨by rw [List.length_append, List.length_append, h.1, h'.1], fun i hi => ?_⟩
  rw [List.length_append] at hi
  rw [getD_app, getD_app, h.1]
  split
  · exact h.2 i (by assumption)
  · exact h'.2 _ (by omega)
theorem getD_take' {α : Type} (l : List α) (d : α) (k i : Nat) (h : i < k) : (l.take k).getD i d = l.getD i d := by simp [List.getD, List.getElem?_take_of_lt h]
theorem RowsL.take {W : World} {vs : List Value} {l : List (List C)} (h : RowsL W vs l) (k : Nat) : RowsL W (vs.take k) (l.take k) := by
  refine ⟨by rw [List.length_take, List.length_take, h.1], fun i hi => ?_⟩
  rw [List.length_take] at hi
  rw [getD_take' _ _ _ _ (by omega), getD_take' _ _ _ _ (by omega)]
  exact h.2 i (by omega)
theorem rowsAt_list {W : World} {N : Nat} {vs : List Value} {gs : List Nat} {rows : List (List C)} (h : RowsAt W N vs gs rows) : RowsL W vs rows := ⟨h.1, fun i hi => (rowIn_rowB (N := 0) (h.2.2.2 i hi).2).cells⟩
/-- The rest of a list of rows. -/
theorem rowsV_drop {W : World} {g c L : Nat} {vs : List Value} {l : List (List C)} (hc1 : L ≤ c) (hc2 : c ≤ 9223372036854775807) (hcell : ∀ j, j < L → W.cell? ⟨g, j, none⟩ = some (vs.getD j nilV)) (hr : RowsL W vs l) (hl : l.length = L) (d : Nat) (hd : d < L) : RowsV W (.slice (some ⟨g, d, none⟩) (L - d) (c - d)) (l.drop d) := by
  refine .inr ⟨g, d, c - d, by rw [List.length_drop, hl], by rw [List.length_drop]; omega, by omega, fun j hj => ?_⟩
  rw [List.length_drop] at hj
  refine ⟨vs.getD (d + j) nilV, hcell _ (by omega), ?_⟩
  have e : (l.drop d).getD j [] = l.getD (d + j) [] := by simp [List.getD, List.getElem?_drop]
  rw [e]
  exact hr.2 _ (by omega)
theorem kept_g {w W : World} {A : Array Value} (hB : Below w.heap.size w W) :
    ((W.alloc (.cells #[.int .i64 0, .int .i64 0, .slice none 0 0, .int .i64 0, .int .i64 0, .bool false, .int .i64 0, .int .i64 0, .int .i64 0, .int .i64 0, .int .i64 0, .int .i64 0, .slice none 0 0, .int .i64 0, .int .i64 0, .int .i64 0, .int .i64 0, .int .i64 0, .int .i64 0, .int .i32 0, .string ⟨#[]⟩, .slice none 0 0] 32)).setRow W.heap.size A).heap[W.heap.size]? = some (.cells A 32 (0, 0)) ∧ Below W.heap.size W ((W.alloc (.cells #[.int .i64 0, .int .i64 0, .slice none 0 0, .int .i64 0, .int .i64 0, .bool false, .int .i64 0, .int .i64 0, .int .i64 0, .int .i64 0, .int .i64 0, .int .i64 0, .slice none 0 0, .int .i64 0, .int .i64 0, .int .i64 0, .int .i64 0, .int .i64 0, .int .i64 0, .int .i32 0, .string ⟨#[]⟩, .slice none 0 0] 32)).setRow W.heap.size A) ∧ Below w.heap.size w ((W.alloc (.cells #[.int .i64 0, .int .i64 0, .slice none 0 0, .int .i64 0, .int .i64 0, .bool false, .int .i64 0, .int .i64 0, .int .i64 0, .int .i64 0, .int .i64 0, .int .i64 0, .slice none 0 0, .int .i64 0, .int .i64 0, .int .i64 0, .int .i64 0, .int .i64 0, .int .i64 0, .int .i32 0, .string ⟨#[]⟩, .slice none 0 0] 32)).setRow W.heap.size A) ∧ (W.alloc (.cells #[.int .i64 0, .int .i64 0, .slice none 0 0, .int .i64 0, .int .i64 0, .bool false, .int .i64 0, .int .i64 0, .int .i64 0, .int .i64 0, .int .i64 0, .int .i64 0, .slice none 0 0, .int .i64 0, .int .i64 0, .int .i64 0, .int .i64 0, .int .i64 0, .int .i64 0, .int .i32 0, .string ⟨#[]⟩, .slice none 0 0] 32)).heap[W.heap.size]? = some (.cells #[.int .i64 0, .int .i64 0, .slice none 0 0, .int .i64 0, .int .i64 0, .bool false, .int .i64 0, .int .i64 0, .int .i64 0, .int .i64 0, .int .i64 0, .int .i64 0, .slice none 0 0, .int .i64 0, .int .i64 0, .int .i64 0, .int .i64 0, .int .i64 0, .int .i64 0, .int .i32 0, .string ⟨#[]⟩, .slice none 0 0] 32 (0, 0)) := by
  have h1 : Below W.heap.size W ((W.alloc (.cells #[.int .i64 0, .int .i64 0, .slice none 0 0, .int .i64 0, .int .i64 0, .bool false, .int .i64 0, .int .i64 0, .int .i64 0, .int .i64 0, .int .i64 0, .int .i64 0, .slice none 0 0, .int .i64 0, .int .i64 0, .int .i64 0, .int .i64 0, .int .i64 0, .int .i64 0, .int .i32 0, .string ⟨#[]⟩, .slice none 0 0] 32)).setRow W.heap.size A) := below_setRow ((Below.refl _ _).alloc (Nat.le_refl _) _) (Nat.le_refl _) _
  exact ⟨setRow_heap _ _ _ _ _ _ (heap_alloc_new W _), h1, hB.trans (h1.mono hB.size), heap_alloc_new W _⟩
end Put
end Go.Proofs.YtmeeojgjboppoaaDoor

/- The law PutRow. (Written by gen_putrow.py.) -/
namespace Go.Proofs.YtmeeojgjboppoaaDoor
open Go.ChangeShapes Go.WideShapes Go.ChangeAt Go.RowKit
namespace Put
open Grd (C SliceAt CellsAt gridErr z0 nilV rowsL RowsAt RowB flat)
theorem ptext_bad {w0 w : World} {s : Scr} {cv tv gv : Value} (h : Met w0 w s cv tv gv) (hz : scrErr s ≠ 0) (t : ByteArray) (ht : t.size ≤ 4000) : Calls Tryd.prog 7 #[.agg (scrA s cv tv gv), .string t] w (Made w0 w zScr (scrErr s)) :=
  putText_any s zScr cv tv gv t ht w0 w h.t h.v h.b h.f fun W _ _ _ => made_bad s cv tv gv (scrErr s) hz _ w0 W h.v
theorem ptext_good {w0 w : World} {s : Scr} {cv tv gv : Value} {n hh : Nat} (h : Met w0 w s cv tv gv) (hR : RightS s n hh) (t : ByteArray) (ht : t.size ≤ 4000) : Calls Tryd.prog 7 #[.agg (scrA s cv tv gv), .string t] w (Made w0 w (textS n hh t s) 0) := by
  have := (ptext_any h hR t ht).1
  rwa [textS_st] at this
theorem textS_right {s : Scr} {n hh : Nat} (hR : RightS s n hh) (t : ByteArray) : RightS (textS n hh t s) n hh := by
  have := ((PJ.start hR).text t (Txt.runes t).length).r
  rwa [textS_st] at this
theorem textS_title (n hh : Nat) (t : ByteArray) (s : Scr) : (textS n hh t s).title = s.title := by
  have h := stP_held n t s (rowsL n s.cs hh) (Txt.runes t).length
  rw [← textS_st]
  exact h.2.2.2.2.2.2.2.2.2.2.2.2.2.2.2
theorem fits_text {s : Scr} {n hh : Nat} (h : RightS s n hh) (ht : s.title.size ≤ 1048576) : Fits s := by
  have hk := h.looks
  simp only [looksOk, Bool.and_eq_true, decide_eq_true_eq] at hk
  have hm := hk.2.2.1
  have h4 : s.km = 0 ∨ s.km = 2 ∨ s.km = 4 ∨ s.km = 6 := by simpa [keptOk] using hk.2.2.2
  exact ⟨by omega, by omega, by omega, by omega, ht, by have := h.gl; omega, by have := h.tl; have := h.n2; omega⟩
set_option linter.unusedVariables false in
set_option maxHeartbeats 8000000 in
set_option maxRecDepth 100000 in
theorem row_a (s : Scr) (cv tv gv : Value) (a b : ByteArray) (w : World) (hT : Txt.Tab w) (hU : VTabs w) (hV : ScrV w s cv tv gv) (hF : Fits s) (ha : Lib.validD a.data.toList = false) (hs : a.size ≤ 1048576) :
    Calls Tryd.prog 3 #[.agg (scrA s cv tv gv), .string a, .string b] w fun e w' => e = .returned (.bool true) ∧ Below w.heap.size w w' := by
  have x0 := heap_alloc_new w (.cells (scrA s cv tv gv) 32)
  have kb : Below w.heap.size w (w.alloc (.cells (scrA s cv tv gv) 32)) := (Below.refl _ _).alloc (Nat.le_refl _) _
  have HP : Hid (∀ W, Below w.heap.size w W → Calls Tryd.prog 6 #[] W fun e w' => e = .returned (.bool true) ∧ Below W.heap.size W w') := fun W h => printed_any W (Grd.Tab.next hT h)
  have HVS : Hid (∀ W (t : ByteArray), Below w.heap.size w W → t.size ≤ 9223372036854775807 → Calls Tryd.prog 5 #[.string t] W fun e w' => e = .returned (.bool (Lib.validD t.data.toList)) ∧ Below W.heap.size W w') := fun W t h ht => valid_any t W ht (vtabs_next hU h)
  have HX0b : Hid _ := x0
  have HKB : Hid _ := kb
  clear x0 kb hT hV hF hU
  go_enter Tryd.func3, Tryd.ntmps3
  go_wp2_with fail
  refine (HVS.out _ a HKB.out (by omega)).mono ?_
  rintro e U1 ⟨rfl, b1⟩
  rw [ha]
  have HBU1 : Hid (Below w.heap.size w U1) := HKB.out.trans (b1.mono HKB.out.size)
  have HXU1 : Hid (U1.heap[w.heap.size]? = _) := Grd.carry HX0b.out b1
  clear b1
  go_wp2_with fail
  refine (HP.out _ HBU1.out).mono ?_
  rintro e V ⟨rfl, bp⟩
  have HBV : Hid (Below w.heap.size w V) := HBU1.out.trans (bp.mono HBU1.out.size)
  go_wp2_with fail
  go_ret
  exact ⟨rfl, HBV.out⟩
set_option linter.unusedVariables false in
set_option maxHeartbeats 8000000 in
set_option maxRecDepth 100000 in
theorem row_b (s : Scr) (cv tv gv : Value) (a b : ByteArray) (w : World) (hT : Txt.Tab w) (hU : VTabs w) (hV : ScrV w s cv tv gv) (hF : Fits s) (ha : Lib.validD a.data.toList = true) (hb : Lib.validD b.data.toList = false) (hs : a.size ≤ 1048576) (hs2 : b.size ≤ 1048576) :
    Calls Tryd.prog 3 #[.agg (scrA s cv tv gv), .string a, .string b] w fun e w' => e = .returned (.bool true) ∧ Below w.heap.size w w' := by
  have x0 := heap_alloc_new w (.cells (scrA s cv tv gv) 32)
  have kb : Below w.heap.size w (w.alloc (.cells (scrA s cv tv gv) 32)) := (Below.refl _ _).alloc (Nat.le_refl _) _
  have HP : Hid (∀ W, Below w.heap.size w W → Calls Tryd.prog 6 #[] W fun e w' => e = .returned (.bool true) ∧ Below W.heap.size W w') := fun W h => printed_any W (Grd.Tab.next hT h)
  have HVS : Hid (∀ W (t : ByteArray), Below w.heap.size w W → t.size ≤ 9223372036854775807 → Calls Tryd.prog 5 #[.string t] W fun e w' => e = .returned (.bool (Lib.validD t.data.toList)) ∧ Below W.heap.size W w') := fun W t h ht => valid_any t W ht (vtabs_next hU h)
  have HX0b : Hid _ := x0
  have HKB : Hid _ := kb
  clear x0 kb hT hV hF hU
  go_enter Tryd.func3, Tryd.ntmps3
  go_wp2_with fail
  refine (HVS.out _ a HKB.out (by omega)).mono ?_
  rintro e U1 ⟨rfl, b1⟩
  rw [ha]
  have HBU1 : Hid (Below w.heap.size w U1) := HKB.out.trans (b1.mono HKB.out.size)
  have HXU1 : Hid (U1.heap[w.heap.size]? = _) := Grd.carry HX0b.out b1
  clear b1
  go_wp2_with fail
  refine (HVS.out _ b HBU1.out (by omega)).mono ?_
  rintro e U2 ⟨rfl, b2⟩
  rw [hb]
  have HBU2 : Hid (Below w.heap.size w U2) := HBU1.out.trans (b2.mono HBU1.out.size)
  have HXU2 : Hid (U2.heap[w.heap.size]? = _) := Grd.carry HXU1.out b2
  clear b2
  go_wp2_with fail
  refine (HP.out _ HBU2.out).mono ?_
  rintro e V ⟨rfl, bp⟩
  have HBV : Hid (Below w.heap.size w V) := HBU2.out.trans (bp.mono HBU2.out.size)
  go_wp2_with fail
  go_ret
  exact ⟨rfl, HBV.out⟩
set_option linter.unusedVariables false in
set_option maxHeartbeats 8000000 in
set_option maxRecDepth 100000 in
theorem row_long (s : Scr) (cv tv gv : Value) (a b : ByteArray) (w : World) (hT : Txt.Tab w) (hU : VTabs w) (hV : ScrV w s cv tv gv) (hF : Fits s) (ha : Lib.validD a.data.toList = true) (hb : Lib.validD b.data.toList = true) (hs : a.size ≤ 1048576) (hs2 : b.size ≤ 1048576) (hl : 4000 < a.size + b.size) :
    Calls Tryd.prog 3 #[.agg (scrA s cv tv gv), .string a, .string b] w fun e w' => e = .returned (.bool true) ∧ Below w.heap.size w w' := by
  have x0 := heap_alloc_new w (.cells (scrA s cv tv gv) 32)
  have kb : Below w.heap.size w (w.alloc (.cells (scrA s cv tv gv) 32)) := (Below.refl _ _).alloc (Nat.le_refl _) _
  have HP : Hid (∀ W, Below w.heap.size w W → Calls Tryd.prog 6 #[] W fun e w' => e = .returned (.bool true) ∧ Below W.heap.size W w') := fun W h => printed_any W (Grd.Tab.next hT h)
  have HVS : Hid (∀ W (t : ByteArray), Below w.heap.size w W → t.size ≤ 9223372036854775807 → Calls Tryd.prog 5 #[.string t] W fun e w' => e = .returned (.bool (Lib.validD t.data.toList)) ∧ Below W.heap.size W w') := fun W t h ht => valid_any t W ht (vtabs_next hU h)
  have hlt : (4000 : Int) < (a.size : Int) + (b.size : Int) := by omega
  have HX0b : Hid _ := x0
  have HKB : Hid _ := kb
  clear x0 kb hT hV hF hU
  go_enter Tryd.func3, Tryd.ntmps3
  go_wp2_with fail
  refine (HVS.out _ a HKB.out (by omega)).mono ?_
  rintro e U1 ⟨rfl, b1⟩
  rw [ha]
  have HBU1 : Hid (Below w.heap.size w U1) := HKB.out.trans (b1.mono HKB.out.size)
  have HXU1 : Hid (U1.heap[w.heap.size]? = _) := Grd.carry HX0b.out b1
  clear b1
  go_wp2_with fail
  refine (HVS.out _ b HBU1.out (by omega)).mono ?_
  rintro e U2 ⟨rfl, b2⟩
  rw [hb]
  have HBU2 : Hid (Below w.heap.size w U2) := HBU1.out.trans (b2.mono HBU1.out.size)
  have HXU2 : Hid (U2.heap[w.heap.size]? = _) := Grd.carry HXU1.out b2
  clear b2
  go_wp2_with fail
  refine (HP.out _ HBU2.out).mono ?_
  rintro e V ⟨rfl, bp⟩
  have HBV : Hid (Below w.heap.size w V) := HBU2.out.trans (bp.mono HBU2.out.size)
  go_wp2_with fail
  go_ret
  exact ⟨rfl, HBV.out⟩
set_option linter.unusedVariables false in
set_option maxHeartbeats 8000000 in
set_option maxRecDepth 100000 in
theorem row_bad (s : Scr) (cv tv gv : Value) (a b : ByteArray) (w : World) (hT : Txt.Tab w) (hU : VTabs w) (hV : ScrV w s cv tv gv) (hF : Fits s) (ha : Lib.validD a.data.toList = true) (hb : Lib.validD b.data.toList = true) (hs : a.size ≤ 1048576) (hs2 : b.size ≤ 1048576) (hl : a.size + b.size ≤ 4000) (hz : scrErr s ≠ 0) :
    Calls Tryd.prog 3 #[.agg (scrA s cv tv gv), .string a, .string b] w fun e w' => e = .returned (.bool true) ∧ Below w.heap.size w w' := by
  have x0 := heap_alloc_new w (.cells (scrA s cv tv gv) 32)
  have kb : Below w.heap.size w (w.alloc (.cells (scrA s cv tv gv) 32)) := (Below.refl _ _).alloc (Nat.le_refl _) _
  have HP : Hid (∀ W, Below w.heap.size w W → Calls Tryd.prog 6 #[] W fun e w' => e = .returned (.bool true) ∧ Below W.heap.size W w') := fun W h => printed_any W (Grd.Tab.next hT h)
  have HVS : Hid (∀ W (t : ByteArray), Below w.heap.size w W → t.size ≤ 9223372036854775807 → Calls Tryd.prog 5 #[.string t] W fun e w' => e = .returned (.bool (Lib.validD t.data.toList)) ∧ Below W.heap.size W w') := fun W t h ht => valid_any t W ht (vtabs_next hU h)
  have hlt : ¬ ((4000 : Int) < (a.size : Int) + (b.size : Int)) := by omega
  have HC1 : Hid (∀ W, Below w.heap.size w W → Calls Tryd.prog 7 #[.agg (scrA s cv tv gv), .string a] W (Made w W zScr (scrErr s))) := fun W h => ptext_bad (w0 := w) ⟨Grd.Tab.next hT h, hV, h, hF⟩ hz a (by omega)
  have hzb : (scrErr s != 0) = true := by simp [bne, hz]
  clear hz
  generalize scrErr s = er at *
  have HX0b : Hid _ := x0
  have HKB : Hid _ := kb
  clear x0 kb hT hV hF hU
  go_enter Tryd.func3, Tryd.ntmps3
  go_wp2_with fail
  refine (HVS.out _ a HKB.out (by omega)).mono ?_
  rintro e U1 ⟨rfl, b1⟩
  rw [ha]
  have HBU1 : Hid (Below w.heap.size w U1) := HKB.out.trans (b1.mono HKB.out.size)
  have HXU1 : Hid (U1.heap[w.heap.size]? = _) := Grd.carry HX0b.out b1
  clear b1
  go_wp2_with fail
  refine (HVS.out _ b HBU1.out (by omega)).mono ?_
  rintro e U2 ⟨rfl, b2⟩
  rw [hb]
  have HBU2 : Hid (Below w.heap.size w U2) := HBU1.out.trans (b2.mono HBU1.out.size)
  have HXU2 : Hid (U2.heap[w.heap.size]? = _) := Grd.carry HXU1.out b2
  clear b2
  go_wp2_with (refine wpList_load_row rfl 32 (.tmp 3) rfl w.heap.size rfl _ _ _ _ HXU2.out Tryd.underlying32 rfl (by kernel_rfl) ?_)
  refine (HC1.out _ HBU2.out).mono ?_
  rintro e V1 ⟨cv1, tv1, gv1, rfl, hO, b1⟩
  have hv1 := hO.scr
  obtain ⟨d11, m11, e11, d12, m12, e12, d13, m13, e13, rfl, rfl, rfl⟩ := hO.shapes
  have HB1 : Hid (Below w.heap.size w V1) := HBU2.out.trans (b1.mono HBU2.out.size)
  have HX1 : Hid (V1.heap[w.heap.size]? = _) := Grd.carry HXU2.out b1
  obtain ⟨k1, k2, k3, k4⟩ := kept_g (A := (scrA zScr (.slice d11 m11 e11) (.slice d12 m12 e12) (.slice d13 m13 e13))) HB1.out
  have HM1 : Hid _ := k1
  have HN1 : Hid _ := k3
  have HL1 : Hid _ := k4
  have HK1 : Hid _ := b1.trans (k2.mono b1.size)
  have HX1b : Hid _ := Grd.carry HX1.out k2
  have HV1 : Hid (ScrV _ zScr _ _ _) := hv1.next k2
  clear hO b1 k1 k2 k3 k4 hv1 HX1
  go_upto_region 4 with (refine wpList_store_row rfl 32 (.tmp 7) _ rfl V1.heap.size (scrA zScr (.slice d11 m11 e11) (.slice d12 m12 e12) (.slice d13 m13 e13)) rfl rfl _ _ HL1.out (by kernel_rfl) rfl (scr_one _ _ _ _ _ _ _ _ _ _) ?_)
  clear HL1 HB1
  generalize ((V1.alloc (.cells #[.int .i64 0, .int .i64 0, .slice none 0 0, .int .i64 0, .int .i64 0, .bool false, .int .i64 0, .int .i64 0, .int .i64 0, .int .i64 0, .int .i64 0, .int .i64 0, .slice none 0 0, .int .i64 0, .int .i64 0, .int .i64 0, .int .i64 0, .int .i64 0, .int .i64 0, .int .i32 0, .string ⟨#[]⟩, .slice none 0 0] 32)).setRow V1.heap.size (scrA zScr (.slice d11 m11 e11) (.slice d12 m12 e12) (.slice d13 m13 e13))) = X1 at *
  go_wp2_with fail
  refine (HP.out _ HN1.out).mono ?_
  rintro e Y ⟨rfl, bp⟩
  have HBY : Hid (Below w.heap.size w Y) := HN1.out.trans (bp.mono HN1.out.size)
  clear bp
  go_wp2_with fail
  refine (HP.out _ HBY.out).mono ?_
  rintro e V ⟨rfl, bp⟩
  have HBV : Hid (Below w.heap.size w V) := HBY.out.trans (bp.mono HBY.out.size)
  go_wp2_with fail
  go_ret
  exact ⟨rfl, HBV.out⟩
set_option linter.unusedVariables false in
set_option maxHeartbeats 8000000 in
set_option maxRecDepth 100000 in
theorem row_good (s : Scr) (cv tv gv : Value) (a b : ByteArray) (w : World) (hT : Txt.Tab w) (hU : VTabs w) (hV : ScrV w s cv tv gv) (hF : Fits s) (ha : Lib.validD a.data.toList = true) (hb : Lib.validD b.data.toList = true) (hs : a.size ≤ 1048576) (hs2 : b.size ≤ 1048576) (hl : a.size + b.size ≤ 4000) (n hh : Nat) (hR : RightS s n hh) :
    Calls Tryd.prog 3 #[.agg (scrA s cv tv gv), .string a, .string b] w fun e w' => e = .returned (.bool true) ∧ Below w.heap.size w w' := by
  have x0 := heap_alloc_new w (.cells (scrA s cv tv gv) 32)
  have kb : Below w.heap.size w (w.alloc (.cells (scrA s cv tv gv) 32)) := (Below.refl _ _).alloc (Nat.le_refl _) _
  have HP : Hid (∀ W, Below w.heap.size w W → Calls Tryd.prog 6 #[] W fun e w' => e = .returned (.bool true) ∧ Below W.heap.size W w') := fun W h => printed_any W (Grd.Tab.next hT h)
  have HVS : Hid (∀ W (t : ByteArray), Below w.heap.size w W → t.size ≤ 9223372036854775807 → Calls Tryd.prog 5 #[.string t] W fun e w' => e = .returned (.bool (Lib.validD t.data.toList)) ∧ Below W.heap.size W w') := fun W t h ht => valid_any t W ht (vtabs_next hU h)
  have hlt : ¬ ((4000 : Int) < (a.size : Int) + (b.size : Int)) := by omega
  have hab : (a ++ b).size ≤ 4000 := by rw [ByteArray.size_append]; exact hl
  have hrow := textS_row hR a b ha
  have HC1 : Hid (∀ W, Below w.heap.size w W → Calls Tryd.prog 7 #[.agg (scrA s cv tv gv), .string a] W (Made w W (textS n hh a s) 0)) := fun W h => ptext_good (w0 := w) ⟨Grd.Tab.next hT h, hV, h, hF⟩ hR a (by omega)
  have HC3 : Hid (∀ W, Below w.heap.size w W → Calls Tryd.prog 7 #[.agg (scrA s cv tv gv), .string (a ++ b)] W (Made w W (textS n hh (a ++ b) s) 0)) := fun W h => ptext_good (w0 := w) ⟨Grd.Tab.next hT h, hV, h, hF⟩ hR (a ++ b) hab
  rw [← hrow] at HC3
  have hR1 := textS_right hR a
  have hF1 := fits_text hR1 (by rw [textS_title]; exact hF.tl)
  have hR2 := textS_right hR1 b
  have HSM : Hid (Small (textS n hh b (textS n hh a s))) := smallOf hR2
  generalize textS n hh a s = s1 at *
  have HC2 : Hid (∀ W cv' tv' gv', Below w.heap.size w W → ScrV W s1 cv' tv' gv' → Calls Tryd.prog 7 #[.agg (scrA s1 cv' tv' gv'), .string b] W (Made W W (textS n hh b s1) 0)) := fun W cv' tv' gv' h hv => ptext_good (w0 := W) ⟨Grd.Tab.next hT h, hv, Below.refl _ _, hF1⟩ hR1 b (by omega)
  generalize textS n hh b s1 = s2 at *
  clear hrow hR1 hF1 hR2 hR hab
  have HX0b : Hid _ := x0
  have HKB : Hid _ := kb
  clear x0 kb hT hV hF hU
  go_enter Tryd.func3, Tryd.ntmps3
  go_wp2_with fail
  refine (HVS.out _ a HKB.out (by omega)).mono ?_
  rintro e U1 ⟨rfl, b1⟩
  rw [ha]
  have HBU1 : Hid (Below w.heap.size w U1) := HKB.out.trans (b1.mono HKB.out.size)
  have HXU1 : Hid (U1.heap[w.heap.size]? = _) := Grd.carry HX0b.out b1
  clear b1
  go_wp2_with fail
  refine (HVS.out _ b HBU1.out (by omega)).mono ?_
  rintro e U2 ⟨rfl, b2⟩
  rw [hb]
  have HBU2 : Hid (Below w.heap.size w U2) := HBU1.out.trans (b2.mono HBU1.out.size)
  have HXU2 : Hid (U2.heap[w.heap.size]? = _) := Grd.carry HXU1.out b2
  clear b2
  go_wp2_with (refine wpList_load_row rfl 32 (.tmp 3) rfl w.heap.size rfl _ _ _ _ HXU2.out Tryd.underlying32 rfl (by kernel_rfl) ?_)
  refine (HC1.out _ HBU2.out).mono ?_
  rintro e V1 ⟨cv1, tv1, gv1, rfl, hO, b1⟩
  have hv1 := hO.scr
  obtain ⟨d11, m11, e11, d12, m12, e12, d13, m13, e13, rfl, rfl, rfl⟩ := hO.shapes
  have HB1 : Hid (Below w.heap.size w V1) := HBU2.out.trans (b1.mono HBU2.out.size)
  have HX1 : Hid (V1.heap[w.heap.size]? = _) := Grd.carry HXU2.out b1
  obtain ⟨k1, k2, k3, k4⟩ := kept_g (A := (scrA s1 (.slice d11 m11 e11) (.slice d12 m12 e12) (.slice d13 m13 e13))) HB1.out
  have HM1 : Hid _ := k1
  have HN1 : Hid _ := k3
  have HL1 : Hid _ := k4
  have HK1 : Hid _ := b1.trans (k2.mono b1.size)
  have HX1b : Hid _ := Grd.carry HX1.out k2
  have HV1 : Hid (ScrV _ s1 _ _ _) := hv1.next k2
  clear hO b1 k1 k2 k3 k4 hv1 HX1
  go_upto_region 4 with (refine wpList_store_row rfl 32 (.tmp 7) _ rfl V1.heap.size (scrA s1 (.slice d11 m11 e11) (.slice d12 m12 e12) (.slice d13 m13 e13)) rfl rfl _ _ HL1.out (by kernel_rfl) rfl (scr_one _ _ _ _ _ _ _ _ _ _) ?_)
  clear HL1 HB1
  generalize ((V1.alloc (.cells #[.int .i64 0, .int .i64 0, .slice none 0 0, .int .i64 0, .int .i64 0, .bool false, .int .i64 0, .int .i64 0, .int .i64 0, .int .i64 0, .int .i64 0, .int .i64 0, .slice none 0 0, .int .i64 0, .int .i64 0, .int .i64 0, .int .i64 0, .int .i64 0, .int .i64 0, .int .i32 0, .string ⟨#[]⟩, .slice none 0 0] 32)).setRow V1.heap.size (scrA s1 (.slice d11 m11 e11) (.slice d12 m12 e12) (.slice d13 m13 e13))) = X1 at *
  go_wp2_with fail
  refine (HP.out _ HN1.out).mono ?_
  rintro e Y ⟨rfl, bp⟩
  have HBY : Hid (Below w.heap.size w Y) := HN1.out.trans (bp.mono HN1.out.size)
  have HVY : Hid (ScrV Y s1 _ _ _) := HV1.out.next bp
  have HMY : Hid (Y.heap[V1.heap.size]? = _) := Grd.carry HM1.out bp
  have HXY : Hid (Y.heap[w.heap.size]? = _) := Grd.carry HX1b.out bp
  clear bp HV1 HM1 HX1b HN1 HK1 HBU1 HXU1 HXU2 HBU2 HP HVS
  go_wp2_with (refine wpList_load_row rfl 32 (.tmp 7) rfl V1.heap.size rfl _ _ _ _ HMY.out Tryd.underlying32 rfl (by kernel_rfl) ?_)
  refine (HC2.out Y _ _ _ HBY.out HVY.out).mono ?_
  rintro e V2 ⟨cv2, tv2, gv2, rfl, hO, b1⟩
  have hv2 := hO.scr
  obtain ⟨d21, m21, e21, d22, m22, e22, d23, m23, e23, rfl, rfl, rfl⟩ := hO.shapes
  have HB2 : Hid (Below w.heap.size w V2) := HBY.out.trans (b1.mono HBY.out.size)
  have HX2 : Hid (V2.heap[w.heap.size]? = _) := Grd.carry HXY.out b1
  obtain ⟨k1, k2, k3, k4⟩ := kept_g (A := (scrA s2 (.slice d21 m21 e21) (.slice d22 m22 e22) (.slice d23 m23 e23))) HB2.out
  have HM2 : Hid _ := k1
  have HN2 : Hid _ := k3
  have HL2 : Hid _ := k4
  have HK2 : Hid _ := b1.trans (k2.mono b1.size)
  have HX2b : Hid _ := Grd.carry HX2.out k2
  have HV2 : Hid (ScrV _ s2 _ _ _) := hv2.next k2
  clear hO b1 k1 k2 k3 k4 hv2 HX2
  go_upto_region 7 with (refine wpList_store_row rfl 32 (.tmp 9) _ rfl V2.heap.size (scrA s2 (.slice d21 m21 e21) (.slice d22 m22 e22) (.slice d23 m23 e23)) rfl rfl _ _ HL2.out (by kernel_rfl) rfl (scr_one _ _ _ _ _ _ _ _ _ _) ?_)
  clear HL2 HB2
  generalize ((V2.alloc (.cells #[.int .i64 0, .int .i64 0, .slice none 0 0, .int .i64 0, .int .i64 0, .bool false, .int .i64 0, .int .i64 0, .int .i64 0, .int .i64 0, .int .i64 0, .int .i64 0, .slice none 0 0, .int .i64 0, .int .i64 0, .int .i64 0, .int .i64 0, .int .i64 0, .int .i64 0, .int .i32 0, .string ⟨#[]⟩, .slice none 0 0] 32)).setRow V2.heap.size (scrA s2 (.slice d21 m21 e21) (.slice d22 m22 e22) (.slice d23 m23 e23))) = X2 at *
  clear HVY HMY HBY HXY HK2 HC1 HC2
  go_wp2_with (refine wpList_load_row rfl 32 (.tmp 3) rfl w.heap.size rfl _ _ _ _ HX2b.out Tryd.underlying32 rfl (by kernel_rfl) ?_)
  refine (HC3.out _ HN2.out).mono ?_
  rintro e V3 ⟨cv3, tv3, gv3, rfl, hO, b1⟩
  have hv3 := hO.scr
  obtain ⟨d31, m31, e31, d32, m32, e32, d33, m33, e33, rfl, rfl, rfl⟩ := hO.shapes
  have HB3 : Hid (Below w.heap.size w V3) := HN2.out.trans (b1.mono HN2.out.size)
  have HX3 : Hid (V3.heap[w.heap.size]? = _) := Grd.carry HX2b.out b1
  obtain ⟨k1, k2, k3, k4⟩ := kept_g (A := (scrA s2 (.slice d31 m31 e31) (.slice d32 m32 e32) (.slice d33 m33 e33))) HB3.out
  have HM3 : Hid _ := k1
  have HN3 : Hid _ := k3
  have HL3 : Hid _ := k4
  have HK3 : Hid _ := b1.trans (k2.mono b1.size)
  have HX3b : Hid _ := Grd.carry HX3.out k2
  have HV3 : Hid (ScrV _ s2 _ _ _) := hv3.next k2
  clear hO b1 k1 k2 k3 k4 hv3 HX3
  go_upto_region 8 with (refine wpList_store_row rfl 32 (.tmp 10) _ rfl V3.heap.size (scrA s2 (.slice d31 m31 e31) (.slice d32 m32 e32) (.slice d33 m33 e33)) rfl rfl _ _ HL3.out (by kernel_rfl) rfl (scr_one _ _ _ _ _ _ _ _ _ _) ?_)
  clear HL3 HB3
  generalize ((V3.alloc (.cells #[.int .i64 0, .int .i64 0, .slice none 0 0, .int .i64 0, .int .i64 0, .bool false, .int .i64 0, .int .i64 0, .int .i64 0, .int .i64 0, .int .i64 0, .int .i64 0, .slice none 0 0, .int .i64 0, .int .i64 0, .int .i64 0, .int .i64 0, .int .i64 0, .int .i64 0, .int .i32 0, .string ⟨#[]⟩, .slice none 0 0] 32)).setRow V3.heap.size (scrA s2 (.slice d31 m31 e31) (.slice d32 m32 e32) (.slice d33 m33 e33))) = X3 at *
  have HQ : Hid (ScrV X3 s2 _ _ _) := HV2.out.next HK3.out
  have HR : Hid (X3.heap[V2.heap.size]? = _) := Grd.carry HM2.out HK3.out
  clear HV2 HM2 HN2 HX2b HX3b HK3 HC3
  go_wp2_with (first
    | (refine BigFrame.wpList_want rfl fun K hK => wp_load_row 32 (.tmp 9) rfl V2.heap.size rfl _ _ _ _ HR.out Tryd.underlying32 rfl (by kernel_rfl) (hK _ _ ?_))
    | (refine BigFrame.wpList_want rfl fun K hK => wp_load_row 32 (.tmp 10) rfl V3.heap.size rfl _ _ _ _ HM3.out Tryd.underlying32 rfl (by kernel_rfl) (hK _ _ ?_)))
  refine (sameScreen_any s2 _ _ _ _ _ _ X3 HQ.out HV3.out HSM.out).mono ?_
  rintro e V6 ⟨rfl, b6⟩
  have HBV6 : Hid (Below w.heap.size w V6) := HN3.out.trans (b6.mono HN3.out.size)
  clear b6
  go_wp2_with fail
  go_ret
  exact ⟨rfl, HBV6.out⟩
theorem putRow_walk (s : Scr) (cv tv gv : Value) (a b : ByteArray) (w : World) (hT : Txt.Tab w) (hU : VTabs w) (hV : ScrV w s cv tv gv) (hF : Fits s) (hs : a.size ≤ 1048576) (hs2 : b.size ≤ 1048576) :
    Calls Tryd.prog 3 #[.agg (scrA s cv tv gv), .string a, .string b] w fun e w' => e = .returned (.bool true) ∧ Below w.heap.size w w' := by
  cases ha : Lib.validD a.data.toList with
  | false => exact row_a s cv tv gv a b w hT hU hV hF ha hs
  | true =>
    cases hb : Lib.validD b.data.toList with
    | false => exact row_b s cv tv gv a b w hT hU hV hF ha hb hs hs2
    | true =>
      by_cases hl : a.size + b.size ≤ 4000
      · by_cases hz : scrErr s = 0
        · obtain ⟨n, hh, hR⟩ := right_of s hz
          exact row_good s cv tv gv a b w hT hU hV hF ha hb hs hs2 hl n hh hR
        · exact row_bad s cv tv gv a b w hT hU hV hF ha hb hs hs2 hl hz
      · exact row_long s cv tv gv a b w hT hU hV hF ha hb hs hs2 (by omega)
end Put
end Go.Proofs.YtmeeojgjboppoaaDoor
