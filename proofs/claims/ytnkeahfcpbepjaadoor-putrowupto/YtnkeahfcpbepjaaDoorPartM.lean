/- put.printRune: any rune, on a sheet that is right. -/
import Derived.Test.YtnkeahfcpbepjaaDoorPartL
import Derived.Test.YtnkeahfcpbepjaaDoorPartK
import Derived.Test.YtnkeahfcpbepjaaDoorPartE
import Derived.Test.YtnkeahfcpbepjaaDoorPartI
import Derived.Test.YtnkeahfcpbepjaaDoorPartH
import Derived.Test.YtnkeahfcpbepjaaDoorPartJ
import Derived.Lib.ValidLaws
import Derived.Lib.MapLaws
import Derived.Lib.TrimUEq
import Derived.Shelf.Unicode.ValidAny
import Derived.Lib.LaidU8T
import Derived.Test.YtnkeahfcpbepjaaDoorRows
import Derived.Test.YtnkeahfcpbepjaaDoorPartD
import Derived.Below
import Derived.Test.YtnkeahfcpbepjaaDoorPartF
import Derived.BigRegion
import Derived.Deep.Cut
import Derived.Deep.CutRange
namespace Go.Proofs.YtnkeahfcpbepjaaDoor
open Go.ChangeShapes Go.WideShapes Go.ChangeAt Go.RowKit
namespace Put
open Grd (C SliceAt CellsAt gridErr z0 nilV flat rowsL RightRow mendL)
open Sty (isSt)
open Txt (wd)
/-- A sheet that is right, as far as printing goes. -/
structure PI (n hh : Nat) (s : Scr) (rows : List (List C)) : Prop where
  w : s.w = n
  h : s.h = hh
  n1 : 1 ≤ n
  n2 : n ≤ 120
  h1 : 1 ≤ hh
  h2 : hh ≤ 60
  x0 : 0 ≤ s.x
  x1 : s.x < n
  y0 : 0 ≤ s.y
  y1 : s.y < hh
  t0 : 0 ≤ s.top
  t1 : s.top ≤ s.bot
  t2 : s.bot < hh
  look : isSt (s.sf, s.sb, s.sx) = true
  rl : rows.length = hh
  rr : RowsRt n rows
  gl : s.gone.length ≤ 50
theorem PI.back {n hh : Nat} {s : Scr} {rows : List (List C)} (h : PI n hh s rows) : isSt (0, s.sb, 0) = true := by
  have h2 := h.look
  simp only [isSt, decide_eq_true_eq] at h2 ⊢
  omega
/-- To the next row, at its beginning. -/
def fedP (n : Nat) (s : Scr) (rows : List (List C)) : Scr × List (List C) :=
  if s.y = s.bot then (upS { s with x := 0, late := false } rows s.top.toNat, replR rows n s.sb s.top.toNat s.bot.toNat) else (feedS { s with x := 0 }, rows)
theorem upS_same (s : Scr) (rows : List (List C)) (top : Nat) : (upS s rows top) = { s with gone := (upS s rows top).gone } := by
  unfold upS
  split <;> rfl
theorem upS_gl (s : Scr) (rows : List (List C)) (top : Nat) (h : s.gone.length ≤ 50) : (upS s rows top).gone.length ≤ 50 := by
  unfold upS
  split
  · exact keepG_len _ _ h
  · exact h
theorem PI.fed {n hh : Nat} {s : Scr} {rows : List (List C)} (h : PI n hh s rows) : PI n hh (fedP n s rows).1 (fedP n s rows).2 := by
  have n1 := h.n1
  have y0 := h.y0
  have y1 := h.y1
  have t0 := h.t0
  have t1 := h.t1
  have t2 := h.t2
  have rl := h.rl
  have eh := h.h
  unfold fedP
  by_cases hq : s.y = s.bot
  · rw [if_pos hq]
    have e := upS_same { s with x := 0, late := false } rows s.top.toNat
    have g := upS_gl { s with x := 0, late := false } rows s.top.toNat h.gl
    have hr := RowsRt.up h.rr s.sb h.back s.top.toNat s.bot.toNat (by omega) (by omega)
    have hl : (replR rows n s.sb s.top.toNat s.bot.toNat).length = hh := by rw [replR_len _ _ _ _ _ (by omega) (by omega), rl]
    generalize upS { s with x := 0, late := false } rows s.top.toNat = u at *
    dsimp only
    rw [e]
    exact ⟨h.w, h.h, h.n1, h.n2, h.h1, h.h2, by show (0 : Int) ≤ 0; omega, by show (0 : Int) < n; omega, h.y0, h.y1, h.t0, h.t1, h.t2, h.look, hl, hr, g⟩
  · rw [if_neg hq]
    unfold feedS
    dsimp only
    split
    · rename_i hlt
      exact ⟨h.w, h.h, h.n1, h.n2, h.h1, h.h2, by show (0 : Int) ≤ 0; omega, by show (0 : Int) < n; omega, by show 0 ≤ s.y + 1; omega, by show s.y + 1 < hh; omega, h.t0, h.t1, h.t2, h.look, rl, h.rr, h.gl⟩
    · exact ⟨h.w, h.h, h.n1, h.n2, h.h1, h.h2, by show (0 : Int) ≤ 0; omega, by show (0 : Int) < n; omega, h.y0, h.y1, h.t0, h.t1, h.t2, h.look, rl, h.rr, h.gl⟩
theorem fedP_x (n : Nat) (s : Scr) (rows : List (List C)) : (fedP n s rows).1.x = 0 := by
  unfold fedP
  split
  · dsimp only
    rw [upS_same]
  · unfold feedS
    dsimp only
    split <;> rfl
theorem fed_any {n hh : Nat} {s : Scr} {rows : List (List C)} (h : PI n hh s rows) (X : World) (M N p : Nat) (hS : ShAt 109 X M N p { s with x := 0 } rows) :
    Calls Tryd.prog 103 #[.pointer (some ⟨p, 0, none⟩)] X (Ran X M N p (fedP n s rows).1 (fedP n s rows).2) := by
  have y0 := h.y0
  have y1 := h.y1
  have t0 := h.t0
  have t1 := h.t1
  have t2 := h.t2
  have rl := h.rl
  have eh := h.h
  have h1 := h.h1
  have h2 := h.h2
  unfold fedP
  by_cases hq : s.y = s.bot
  · rw [if_pos hq]
    exact feed_roll X M N p n { s with x := 0 } rows hS s.top.toNat s.bot.toNat (by show s.top = _; omega) (by show s.bot = _; omega) hq h.w h.n1 h.n2 (by omega) (by omega) (by omega) h.gl
  · rw [if_neg hq]
    exact feed_plain X M N p { s with x := 0 } rows hS y0 (by show s.y ≤ 60; omega) (by show 1 ≤ s.h; omega) (by show s.h ≤ 60; omega) hq
def turnP (n : Nat) (s : Scr) (rows : List (List C)) (r : Int) : Scr × List (List C) := if brkB s (wd r) = true then fedP n s rows else (s, rows)
theorem PI.turn {n hh : Nat} {s : Scr} {rows : List (List C)} (h : PI n hh s rows) (r : Int) : PI n hh (turnP n s rows r).1 (turnP n s rows r).2 := by
  unfold turnP
  split
  · exact h.fed
  · exact h
theorem turn_fed {n hh : Nat} {s : Scr} {rows : List (List C)} (h : PI n hh s rows) (r : Int) (W : World) (M N p : Nat) : Fed W M N p (wd r) s (turnP n s rows r).1 rows (turnP n s rows r).2 := by
  have ht := h.turn r
  have n2 := h.n2
  refine ⟨fun hb X _ hX => ?_, fun hb => ?_, ht.w.trans h.w.symm, ht.x0, by have := ht.x1; omega⟩
  · unfold turnP
    rw [if_pos hb]
    exact fed_any h X M N p hX
  · unfold turnP
    rw [if_neg (by rw [hb]; simp)]
    exact ⟨rfl, rfl⟩
/-- Blanks are put in, where the mode says so. -/
def roomP (s : Scr) (rows : List (List C)) (r : Int) : List (List C) := if hasB s.modes 1 = true then rows.set s.y.toNat (mendL (insR (rows.getD s.y.toNat []) s.x.toNat (wd r).toNat s.sb)) else rows
/-- A rune is printed. -/
def prnP (n : Nat) (s : Scr) (rows : List (List C)) (r : Int) : Scr × List (List C) :=
  if wd r = 0 ∨ s.w < wd r then (s, rows)
  else if fitsB (turnP n s rows r).1 (wd r) = false then turnP n s rows r
  else ({ advS (turnP n s rows r).1 (wd r) with last := r }, (roomP (turnP n s rows r).1 (turnP n s rows r).2 r).set (turnP n s rows r).1.y.toNat (putRune ((turnP n s rows r).1.sf, (turnP n s rows r).1.sb, (turnP n s rows r).1.sx) ((roomP (turnP n s rows r).1 (turnP n s rows r).2 r).getD (turnP n s rows r).1.y.toNat []) (turnP n s rows r).1.x.toNat r))
theorem rowsRt_set {n : Nat} {rows : List (List C)} (h : RowsRt n rows) (y : Nat) (row : List C) (hl : row.length = n) (hr : RightRow row) : RowsRt n (rows.set y row) := fun i hi => by
  rw [List.length_set] at hi
  by_cases e : y = i
  · subst e
    have e2 : (rows.set y row).getD y [] = row := by simp [List.getD, hi]
    rw [e2]
    exact ⟨hl, hr⟩
  · have e2 : (rows.set y row).getD i [] = rows.getD i [] := by simp [List.getD, List.getElem?_set_ne e]
    rw [e2]
    exact h i hi
theorem room_rt {n hh : Nat} {s : Scr} {rows : List (List C)} (h : PI n hh s rows) (r : Int) (hr : wd r ≠ 0) (hf : fitsB s (wd r) = true) : RowsRt n (roomP s rows r) ∧ (roomP s rows r).length = hh := by
  have hk := Txt.wd_range r
  have x0 := h.x0
  have y0 := h.y0
  have y1 := h.y1
  have rl := h.rl
  have ew := h.w
  have hf' : wd r ≤ s.w - s.x := by simpa [fitsB] using hf
  have hrow := h.rr s.y.toNat (by omega)
  unfold roomP
  split
  · have hm := ins_meant hrow.2.1 s.x.toNat (wd r).toNat s.sb (by omega) (by rw [hrow.1]; omega) h.back
    exact ⟨rowsRt_set h.rr _ _ (by rw [Grd.mendL_len, insR_len _ _ _ _ (by rw [hrow.1]; omega), hrow.1]) (Grd.mend_right _ hm), by rw [List.length_set, rl]⟩
  · exact ⟨h.rr, rl⟩
theorem advS_same (s : Scr) (k : Int) : (advS s k).w = s.w ∧ (advS s k).h = s.h ∧ (advS s k).y = s.y ∧ (advS s k).top = s.top ∧ (advS s k).bot = s.bot ∧ (advS s k).sf = s.sf ∧ (advS s k).sb = s.sb ∧ (advS s k).sx = s.sx ∧ (advS s k).gone = s.gone := by
  unfold advS
  split <;> exact ⟨rfl, rfl, rfl, rfl, rfl, rfl, rfl, rfl, rfl⟩
theorem PI.print {n hh : Nat} {s : Scr} {rows : List (List C)} (h0 : PI n hh s rows) (r : Int) : PI n hh (prnP n s rows r).1 (prnP n s rows r).2 := by
  unfold prnP
  split
  · exact h0
  · rename_i hsk
    have h := h0.turn r
    generalize turnP n s rows r = t at *
    obtain ⟨s1, rows1⟩ := t
    dsimp only at h ⊢
    split
    · exact h
    · rename_i hft
      have hf : fitsB s1 (wd r) = true := by simpa using hft
      have hf' : wd r ≤ s1.w - s1.x := by simpa [fitsB] using hf
      have hw0 : wd r ≠ 0 := fun e => hsk (.inl e)
      have hk := Txt.wd_range r
      have hq := room_rt h r hw0 hf
      have n1 := h.n1
      have x0 := h.x0
      have x1 := h.x1
      have y0 := h.y0
      have y1 := h.y1
      have ew := h.w
      have hrow := hq.1 s1.y.toNat (by rw [hq.2]; omega)
      obtain ⟨a1, a2, a3, a4, a5, a6, a7, a8, a9⟩ := advS_same s1 (wd r)
      have ax : 0 ≤ (advS s1 (wd r)).x ∧ (advS s1 (wd r)).x < n := by
        unfold advS
        split
        · exact ⟨by show 0 ≤ s1.w - 1; omega, by show s1.w - 1 < n; omega⟩
        · exact ⟨by show 0 ≤ s1.x + wd r; omega, by show s1.x + wd r < n; omega⟩
      have hmn := Grd.meant_one (s1.sf, s1.sb, s1.sx) ((roomP s1 rows1 r).getD s1.y.toNat []) s1.x.toNat r hrow.2.1 h.look (by rw [hrow.1]; omega)
      refine ⟨a1.trans h.w, a2.trans h.h, h.n1, h.n2, h.h1, h.h2, ax.1, ax.2, by rw [← a3] at y0; exact y0, by rw [← a3] at y1; exact y1, by have := h.t0; rw [← a4] at this; exact this, by have := h.t1; rw [← a4, ← a5] at this; exact this, by have := h.t2; rw [← a5] at this; exact this, by have := h.look; rw [← a6, ← a7, ← a8] at this; exact this, by rw [List.length_set, hq.2], ?_, by have := h.gl; rw [← a9] at this; exact this⟩
      exact rowsRt_set hq.1 _ _ (by rw [putRune_len, hrow.1]) (Grd.mend_right _ hmn)
theorem print_any {n hh : Nat} {s : Scr} {rows : List (List C)} (h0 : PI n hh s rows) (r : Int) (W : World) (M N p : Nat) (hT : Txt.Tab W) (hTN : 2 < N) (hS : ShAt 109 W M N p s rows) :
    Calls Tryd.prog 59 #[.pointer (some ⟨p, 0, none⟩), .int .i32 r] W (Ran W M N p (prnP n s rows r).1 (prnP n s rows r).2) := by
  have hx0 := h0.x0
  have hx1 := h0.x1
  have hn1 := h0.n1
  have hn2 := h0.n2
  have hew := h0.w
  unfold prnP
  by_cases hsk : wd r = 0 ∨ s.w < wd r
  · rw [if_pos hsk]
    exact print_skip W M N p s rows r hT hS hsk
  · rw [if_neg hsk]
    have h := h0.turn r
    have hF := turn_fed h0 r W M N p
    generalize turnP n s rows r = t at *
    obtain ⟨s1, rows1⟩ := t
    dsimp only at h hF ⊢
    have hw0 : wd r ≠ 0 := fun e => hsk (.inl e)
    have hww : wd r ≤ s.w := by
      have : ¬ s.w < wd r := fun e => hsk (.inr e)
      omega
    by_cases hft : fitsB s1 (wd r) = false
    · rw [if_pos hft]
      exact print_stay W M N p s s1 rows rows1 r hT hS hw0 hww hx0 (by omega) (by omega) (by omega) hF hft
    · rw [if_neg hft]
      have hf : fitsB s1 (wd r) = true := by simpa using hft
      have hf' : wd r ≤ s1.w - s1.x := by simpa [fitsB] using hf
      have hk := Txt.wd_range r
      have hq := room_rt h r hw0 hf
      have x0 := h.x0
      have x1 := h.x1
      have y0 := h.y0
      have y1 := h.y1
      have ew := h.w
      have rl := h.rl
      have hrow := h.rr s1.y.toNat (by omega)
      have hrow2 := hq.1 s1.y.toNat (by rw [hq.2]; omega)
      have htab : ∀ X, Below N W X → Txt.Tab X := fun X hb => hT.below hb hTN
      have ek : wd r = ((wd r).toNat : Int) := by omega
      refine print_main W M N p s s1 rows rows1 (roomP s1 rows1 r) _ r hT hS hw0 hww hx0 (by omega) (by omega) (by omega) hF hf (fun hi X hX hSX => ?_) (fun hi => ?_) (fun X hX hSX => ?_)
      · have := insert_any X M N p s1 rows1 hSX (htab X hX) s1.y.toNat s1.x.toNat (wd r).toNat (by omega) (by omega) (by omega) (by omega) (by rw [hrow.1]; omega) (by rw [hrow.1]; omega) hrow.2.1 h.back
        rw [← ek] at this
        unfold roomP
        rw [if_pos hi]
        exact this
      · unfold roomP
        rw [if_neg (by rw [hi]; simp)]
      · exact write_any X M N p s1 (roomP s1 rows1 r) (htab X hX) hSX r n s1.x.toNat s1.y.toNat (by rw [hq.2]; omega) _ rfl h.w (by omega) (by omega) (by omega) hrow2.1 (roll_one n _ h.n1 h.n2 hrow2.1 hrow2.2) h.look hw0 (by omega)
end Put
end Go.Proofs.YtnkeahfcpbepjaaDoor

/- put.Text's closure: rune by rune. -/
namespace Go.Proofs.YtnkeahfcpbepjaaDoor
open Go.ChangeShapes Go.WideShapes Go.ChangeAt Go.RowKit
namespace Put
open Grd (C)
/-- A string's iterator goes on. -/
theorem ShAt.iter {t : TypeId} {W W' : World} {M N p k pos : Nat} {s : Scr} {rows : List (List C)} {str : ByteArray} (h : ShAt t W M N p s rows) (hk : W.heap[k]? = some (.stringIter str pos)) (hM : N ≤ k) (hoff : ∀ j, j ≠ k → W'.heap[j]? = W.heap[j]?) : ShAt t W' M N p s rows := by
  obtain ⟨cv, tv, gv, rv, gvs, vs, h⟩ := h
  have hne : ∀ {j : Nat} {A : Array Value} {u : TypeId} {f : Nat × Nat}, W.heap[j]? = some (.cells A u f) → W'.heap[j]? = W.heap[j]? := fun hj => hoff _ fun e => by
    rw [e, hk] at hj
    cases hj
  have how : ∀ {e : TypeId} {v : Value} {n : Nat} {xs : List Value}, W.ownsRow N e 1 v n xs → W'.ownsRow N e 1 v n xs := fun hw => owns_kept hw fun g hg => by
    obtain ⟨-, A, f, hA⟩ := owns_block hw g hg
    exact hne hA
  have hK : Kept M W W' := fun j _ hS => by
    rcases hS with hS | ⟨A, f, hS⟩
    · have := h.ml
      exact hoff j (by omega)
    · exact hne hS
  exact ⟨cv, tv, gv, rv, gvs, vs, (hne h.blk).trans h.blk, h.lo, h.ml, h.cvs, how h.tabs, how h.gone, h.gin.keep hK, how h.rws, h.rin.keep hK, h.two⟩
theorem iter_off (W : World) (k j : Nat) (t : ByteArray) (pos : Nat) (h : j ≠ k) : (W.iterAt k t pos).heap[j]? = W.heap[j]? := by
  unfold World.iterAt
  simp [Ne.symm h]
theorem other_iter (t : ByteArray) (pos : Nat) : OtherO (.stringIter t pos) := fun A u f e => by cases e
set_option maxHeartbeats 2000000 in
theorem text1_does (t : ByteArray) (B M : Nat) (w : World) (st : Nat → Scr × List (List C)) (hB : w.cell? ⟨B, 0, none⟩ = some (.string t))
    (hstep : ∀ i, i < (Txt.runes t).length → ∀ X p, Below w.heap.size w X → ShAt 109 X M w.heap.size p (st i).1 (st i).2 → Calls Tryd.prog 59 #[.pointer (some ⟨p, 0, none⟩), .int .i32 ((Txt.runes t).getD i (0, 0)).1] X (Ran X M w.heap.size p (st (i + 1)).1 (st (i + 1)).2)) :
    Does 58 #[.pointer (some ⟨B, 0, none⟩)] M w (st 0).1 (st (Txt.runes t).length).1 (st 0).2 (st (Txt.runes t).length).2 := by
  intro W p hb hS
  have q0 := cell_stay hb hB
  have HS : Hid (ShAt 109 W M w.heap.size p (st 0).1 (st 0).2) := hS
  have HB : Hid (Below w.heap.size w W) := hb
  have HST : Hid (∀ i, i < (Txt.runes t).length → ∀ X p, Below w.heap.size w X → ShAt 109 X M w.heap.size p (st i).1 (st i).2 → Calls Tryd.prog 59 #[.pointer (some ⟨p, 0, none⟩), .int .i32 ((Txt.runes t).getD i (0, 0)).1] X (Ran X M w.heap.size p (st (i + 1)).1 (st (i + 1)).2)) := hstep
  have hNW : w.heap.size ≤ W.heap.size := hb.size
  have HRL : Hid (Txt.runes t = Txt.rs t t.size 0) := rfl
  clear hS hb hB hstep
  go_enter Tryd.func58, Tryd.ntmps58
  go_wp2
  go_loopw [] (fun wr => ∃ (pos f i : Nat), wr.heap[W.heap.size]? = some (.stringIter t pos) ∧ Below w.heap.size W wr ∧ ShAt 109 wr M w.heap.size p (st i).1 (st i).2 ∧ (Txt.runes t).drop i = Txt.rs t f pos ∧ t.size ≤ pos + f ∧ pos ≤ t.size ∧ i ≤ (Txt.runes t).length) (fun wr => t.size - wr.iterPos W.heap.size)
  case atStart =>
    exact ⟨0, t.size, 0, World.iter_heap W t 0, ((Below.refl _ W).alloc (Nat.le_refl _) _).mono hNW, HS.out.next ((Below.refl _ W).alloc (Nat.le_refl _) _), HRL.out, by omega, by omega, by omega⟩
  case round =>
    obtain ⟨pos, f, i, hit, hbw, hSi, hdr, hf, hps, hil⟩ := hrel
    have HDR : Hid ((Txt.runes t).drop i = Txt.rs t f pos) := hdr
    have HSI : Hid (ShAt 109 wr M w.heap.size p (st i).1 (st i).2) := hSi
    have HBW : Hid (Below w.heap.size W wr) := hbw
    clear hdr hSi hbw
    by_cases hp : pos < t.size
    · have hnx : ∀ ty, (Instr.next (.pointer (some ⟨W.heap.size, 0, none⟩)) true ty).run Tryd.prog wr = _ := fun ty => Lib.run_next_any_at wr W.heap.size t pos ty hit hp
      have hwd := Txt.width_pos t pos hp
      have hfit := Txt.decode_fits t pos hp
      obtain ⟨f, rfl⟩ : ∃ g, f = g + 1 := ⟨f - 1, by omega⟩
      have HR : Hid (Txt.rs t (f + 1) pos = (((Utf8.decode t pos).1 : Int), (Utf8.decode t pos).2) :: Txt.rs t f (pos + (Utf8.decode t pos).2)) := Txt.rs_step t f pos hp
      have hlt : i < (Txt.runes t).length := by
        have h := HDR.out
        rw [HR.out] at h
        have h2 := congrArg List.length h
        rw [List.length_drop, List.length_cons] at h2
        omega
      have hget : ((Txt.runes t).getD i (0, 0)) = (((Utf8.decode t pos).1 : Int), (Utf8.decode t pos).2) := by
        have h := HDR.out
        rw [HR.out, List.drop_eq_getElem_cons hlt] at h
        injection h with h _
        simp [List.getD, hlt, h]
      have hdr2 : (Txt.runes t).drop (i + 1) = Txt.rs t f (pos + (Utf8.decode t pos).2) := by
        have h := HDR.out
        rw [HR.out, List.drop_eq_getElem_cons hlt] at h
        injection h
      have HDR2 : Hid _ := hdr2
      have hbit := Lib.below_iterAt (Below.refl W.heap.size wr) (k := W.heap.size) (Nat.le_refl _) t (pos + (Utf8.decode t pos).2)
      have hit2 := Lib.iterAt_heap wr W.heap.size t pos (pos + (Utf8.decode t pos).2) hit
      have hS2 : ShAt 109 (wr.iterAt W.heap.size t (pos + (Utf8.decode t pos).2)) M w.heap.size p (st i).1 (st i).2 := HSI.out.iter hit hNW (fun j hj => iter_off wr _ j t _ hj)
      have hB2 : Below w.heap.size W (wr.iterAt W.heap.size t (pos + (Utf8.decode t pos).2)) := HBW.out.trans (hbit.mono hNW)
      have HI : Hid (wr.iterPos W.heap.size = pos) := by simp only [Hid, World.iterPos, hit]
      have HP := HST.out i hlt _ p (HB.out.trans hB2) hS2
      rw [hget] at HP
      have HIT2 : Hid _ := hit2
      have HB2 : Hid _ := hB2
      clear hit hS2 hB2 hbit hit2 hget hdr2
      generalize Utf8.decode t pos = d at *
      generalize wr.iterAt W.heap.size t (pos + d.2) = Y at *
      go_wp2_with fail
      refine HP.mono ?_
      rintro e V hran
      have hrn := hran
      obtain ⟨rfl, hSV, hBV, hFV⟩ := hrn
      have HITV : Hid (V.heap[W.heap.size]? = some (.stringIter t (pos + d.2))) := hFV _ _ HIT2.out (other_iter _ _)
      have HSV : Hid _ := hSV
      have HBV : Hid (Below w.heap.size W V) := HB2.out.trans hBV
      clear hran hSV hBV hFV HP
      go_wp2_with fail
      go_roundw
      case rel => exact ⟨pos + d.2, f, i + 1, HITV.out, HBV.out, HSV.out, HDR2.out, by omega, by omega, by omega⟩
      case measure =>
        rw [HI.out]
        simp only [World.iterPos, HITV.out]
        omega
    · have hnx : ∀ ty, (Instr.next (.pointer (some ⟨W.heap.size, 0, none⟩)) true ty).run Tryd.prog wr = _ := fun ty => Lib.run_next_end_at wr W.heap.size t pos ty hit hp
      have hend : i = (Txt.runes t).length := by
        have h := HDR.out
        rw [Txt.rs_end t f pos hp] at h
        have h2 := congrArg List.length h
        rw [List.length_drop, List.length_nil] at h2
        omega
      go_wp2_with fail
      go_end0
      rw [← hend]
      exact ⟨rfl, HSI.out, HBW.out⟩
end Put
end Go.Proofs.YtnkeahfcpbepjaaDoor

/- put.Text: a screen is checked, and printed on. -/
namespace Go.Proofs.YtnkeahfcpbepjaaDoor
set_option linter.unusedVariables false
open Go.ChangeShapes Go.WideShapes Go.ChangeAt Go.RowKit
namespace Put
open Grd (C SliceAt CellsAt gridErr z0 nilV flat rowsL)
theorem cell_one2 {W : World} {R : Nat} {v : Value} {t : TypeId} (h : W.heap[R]? = some (.cells #[v] t (0, 0))) : W.cell? ⟨R, 0, none⟩ = some v := by simp [World.cell?, h]
theorem kf2_of {w V : World} {s : Scr} {cv tv gv : Value} {A : Array Value} {t t' : TypeId} (hb : Below w.heap.size w V) (h0 : V.heap[w.heap.size]? = some (.cells (scrA s cv tv gv) t (0, 0))) (h1 : V.heap[w.heap.size + 2]? = some (.cells A t' (0, 0))) {s' : Scr} {cv' tv' gv' : Value} :
    Below w.heap.size w (V.setRow (w.heap.size + 2) (scrA s' cv' tv' gv')) ∧ ScrPtr (V.setRow (w.heap.size + 2) (scrA s' cv' tv' gv')) (.pointer (some ⟨w.heap.size, 0, none⟩)) ∧ blkAt (V.setRow (w.heap.size + 2) (scrA s' cv' tv' gv')) (.pointer (some ⟨w.heap.size, 0, none⟩)) = scrA s cv tv gv ∧ ScrPtr0 (V.setRow (w.heap.size + 2) (scrA s' cv' tv' gv')) (.pointer (some ⟨w.heap.size + 2, 0, none⟩)) := by
  have h2 : (V.setRow (w.heap.size + 2) (scrA s' cv' tv' gv')).heap[w.heap.size]? = _ := (setRow_other _ _ _ _ (by omega)).trans h0
  have h3 := setRow_heap V (w.heap.size + 2) A (scrA s' cv' tv' gv') t' _ h1
  exact ⟨below_setRow hb (by omega) _, (scrPtr_of h2).1, (scrPtr_of h2).2, scrPtr0_of h3 rfl⟩
section
attribute [local go_sem ↓] load_scr store_scr
attribute [local go_sem] isScrS ptrBlk_at aggOf_agg
set_option maxHeartbeats 4000000 in
set_option maxRecDepth 100000 in
theorem putText_any (s s' : Scr) (cv tv gv : Value) (t : ByteArray) (hlen : t.size ≤ 4000) (w0 w : World) (hT : Txt.Tab w) (hV : ScrV w0 s cv tv gv) (hb0 : Below w0.heap.size w0 w) (hF : Fits s)
    (hCH : ∀ W B, Below w.heap.size w W → W.cell? ⟨B, 0, none⟩ = some (.string t) → Calls Tryd.prog 57 #[.agg (scrA s cv tv gv), .int .i64 (scrErr s), .func (.func 58) #[] #[.pointer (some ⟨B, 0, none⟩)]] W (Made w0 W s' (scrErr s))) :
    Calls Tryd.prog 18 #[.agg (scrA s cv tv gv), .string t] w (Made w0 w s' (scrErr s)) := by
  obtain ⟨ca, cc, rfl⟩ := hV.c.shape
  obtain ⟨ta, tc, rfl⟩ := hV.t.slice
  obtain ⟨ga, gc, rfl⟩ := hV.g.slice
  have hx0 : (((w.alloc (.cells (scrA s (.slice ca s.cs.length cc) (.slice ta s.tabs.length tc) (.slice ga s.gone.length gc)) 32)).alloc (.cells #[.string t] 9)).alloc (.cells #[.int .i64 0, .int .i64 0, .slice none 0 0, .int .i64 0, .int .i64 0, .bool false, .int .i64 0, .int .i64 0, .int .i64 0, .int .i64 0, .int .i64 0, .int .i64 0, .slice none 0 0, .int .i64 0, .int .i64 0, .int .i64 0, .int .i64 0, .int .i64 0, .int .i64 0, .int .i32 0, .string ⟨#[]⟩, .slice none 0 0] 32)).heap[w.heap.size]? = some (.cells (scrA s (.slice ca s.cs.length cc) (.slice ta s.tabs.length tc) (.slice ga s.gone.length gc)) 32 (0, 0)) := (Below.heap_alloc _ _ _ (by simp; omega)).trans ((Below.heap_alloc _ _ _ (by simp)).trans (heap_alloc_new _ _))
  have hxt : (((w.alloc (.cells (scrA s (.slice ca s.cs.length cc) (.slice ta s.tabs.length tc) (.slice ga s.gone.length gc)) 32)).alloc (.cells #[.string t] 9)).alloc (.cells #[.int .i64 0, .int .i64 0, .slice none 0 0, .int .i64 0, .int .i64 0, .bool false, .int .i64 0, .int .i64 0, .int .i64 0, .int .i64 0, .int .i64 0, .int .i64 0, .slice none 0 0, .int .i64 0, .int .i64 0, .int .i64 0, .int .i64 0, .int .i64 0, .int .i64 0, .int .i32 0, .string ⟨#[]⟩, .slice none 0 0] 32)).heap[w.heap.size + 1]? = some (.cells #[.string t] 9 (0, 0)) := (Below.heap_alloc _ _ _ (by simp)).trans (heap_alloc2_new w _ _)
  have hx1 : (((w.alloc (.cells (scrA s (.slice ca s.cs.length cc) (.slice ta s.tabs.length tc) (.slice ga s.gone.length gc)) 32)).alloc (.cells #[.string t] 9)).alloc (.cells #[.int .i64 0, .int .i64 0, .slice none 0 0, .int .i64 0, .int .i64 0, .bool false, .int .i64 0, .int .i64 0, .int .i64 0, .int .i64 0, .int .i64 0, .int .i64 0, .slice none 0 0, .int .i64 0, .int .i64 0, .int .i64 0, .int .i64 0, .int .i64 0, .int .i64 0, .int .i32 0, .string ⟨#[]⟩, .slice none 0 0] 32)).heap[w.heap.size + 2]? = some (.cells #[.int .i64 0, .int .i64 0, .slice none 0 0, .int .i64 0, .int .i64 0, .bool false, .int .i64 0, .int .i64 0, .int .i64 0, .int .i64 0, .int .i64 0, .int .i64 0, .slice none 0 0, .int .i64 0, .int .i64 0, .int .i64 0, .int .i64 0, .int .i64 0, .int .i64 0, .int .i32 0, .string ⟨#[]⟩, .slice none 0 0] 32 (0, 0)) := by
    have h := heap_alloc_new ((w.alloc (.cells (scrA s (.slice ca s.cs.length cc) (.slice ta s.tabs.length tc) (.slice ga s.gone.length gc)) 32)).alloc (.cells #[.string t] 9)) (.cells #[.int .i64 0, .int .i64 0, .slice none 0 0, .int .i64 0, .int .i64 0, .bool false, .int .i64 0, .int .i64 0, .int .i64 0, .int .i64 0, .int .i64 0, .int .i64 0, .slice none 0 0, .int .i64 0, .int .i64 0, .int .i64 0, .int .i64 0, .int .i64 0, .int .i64 0, .int .i32 0, .string ⟨#[]⟩, .slice none 0 0] 32)
    have e : ((w.alloc (.cells (scrA s (.slice ca s.cs.length cc) (.slice ta s.tabs.length tc) (.slice ga s.gone.length gc)) 32)).alloc (.cells #[.string t] 9)).heap.size = w.heap.size + 2 := by simp
    rw [e] at h
    exact h
  have hkb : Below w.heap.size w (((w.alloc (.cells (scrA s (.slice ca s.cs.length cc) (.slice ta s.tabs.length tc) (.slice ga s.gone.length gc)) 32)).alloc (.cells #[.string t] 9)).alloc (.cells #[.int .i64 0, .int .i64 0, .slice none 0 0, .int .i64 0, .int .i64 0, .bool false, .int .i64 0, .int .i64 0, .int .i64 0, .int .i64 0, .int .i64 0, .int .i64 0, .slice none 0 0, .int .i64 0, .int .i64 0, .int .i64 0, .int .i64 0, .int .i64 0, .int .i64 0, .int .i32 0, .string ⟨#[]⟩, .slice none 0 0] 32)) := (((Below.refl _ _).alloc (Nat.le_refl _) _).alloc (by simp) _).alloc (by simp; omega) _
  have HX0 : Hid _ := hx0
  have HX1 : Hid _ := hx1
  have HKB : Hid _ := hkb
  have HXT : Hid _ := hxt
  have HCK : Hid (∀ W, Below w.heap.size w W → Calls Tryd.prog 12 #[.agg (scrA s (.slice ca s.cs.length cc) (.slice ta s.tabs.length tc) (.slice ga s.gone.length gc))] W fun e w' => e = .returned (.int .i64 (scrErr s)) ∧ Below W.heap.size W w') := fun W hW => putCheck_any s _ _ _ W (Grd.Tab.next hT hW) (hV.next (hb0.trans (hW.mono hb0.size))) hF
  have HCH : Hid (∀ W, Below w.heap.size w W → W.cell? ⟨w.heap.size + 1, 0, none⟩ = some (.string t) → Calls Tryd.prog 57 #[.agg (scrA s (.slice ca s.cs.length cc) (.slice ta s.tabs.length tc) (.slice ga s.gone.length gc)), .int .i64 (scrErr s), .func (.func 58) #[] #[.pointer (some ⟨w.heap.size + 1, 0, none⟩)]] W (Made w0 W s' (scrErr s))) := fun W => hCH W _
  have hM := hb0.size
  have ct := cell_one2 hxt
  have hl1 : ¬ (4000 : Int) < (t.size : Int) := by omega
  clear hx0 hx1 hkb hV hF hT hCH hb0 hxt
  generalize scrErr s = er at *
  go_enter Tryd.func18, Tryd.ntmps18
  go_upto_region 3 with fail
  generalize (((w.alloc (.cells (scrA s (.slice ca s.cs.length cc) (.slice ta s.tabs.length tc) (.slice ga s.gone.length gc)) 32)).alloc (.cells #[.string t] 9)).alloc (.cells #[.int .i64 0, .int .i64 0, .slice none 0 0, .int .i64 0, .int .i64 0, .bool false, .int .i64 0, .int .i64 0, .int .i64 0, .int .i64 0, .int .i64 0, .int .i64 0, .slice none 0 0, .int .i64 0, .int .i64 0, .int .i64 0, .int .i64 0, .int .i64 0, .int .i64 0, .int .i32 0, .string ⟨#[]⟩, .slice none 0 0] 32)) = X at *
  have SK : Hid (∀ w', Below X.heap.size X w' → Below w.heap.size w w' ∧ ScrPtr w' (.pointer (some ⟨w.heap.size, 0, none⟩)) ∧ blkAt w' (.pointer (some ⟨w.heap.size, 0, none⟩)) = (scrA s (.slice ca s.cs.length cc) (.slice ta s.tabs.length tc) (.slice ga s.gone.length gc)) ∧ ScrPtr0 w' (.pointer (some ⟨w.heap.size + 2, 0, none⟩))) := fun w' hb => by
    have h0 := Grd.carry HX0.out hb
    exact ⟨HKB.out.trans (hb.mono HKB.out.size), (scrPtr_of h0).1, (scrPtr_of h0).2, scrPtr0_of (Grd.carry HX1.out hb) rfl⟩
  have b0 : Below X.heap.size X X.drew := (Below.refl _ _).drew
  go_region_held3 (fun w' => Below w.heap.size w w' ∧ ScrPtr w' (.pointer (some ⟨w.heap.size, 0, none⟩)) ∧ blkAt w' (.pointer (some ⟨w.heap.size, 0, none⟩)) = (scrA s (.slice ca s.cs.length cc) (.slice ta s.tabs.length tc) (.slice ga s.gone.length gc)) ∧ ScrPtr0 w' (.pointer (some ⟨w.heap.size + 2, 0, none⟩)))
    (first | exact KF.out | exact SK.out _ b2 | exact SK.out _ b1 | exact SK.out _ b0)
    (first | (go_at_call 12; refine (HCK.out _ (SK.out _ b0).1).mono ?_; rintro e V1 ⟨rfl, c1⟩; have b1 := b0.trans (c1.mono b0.size); clear c1) | (go_at_call 57; refine (HCH.out _ (SK.out _ b1).1 (cell_one2 (Grd.carry HXT.out b1))).mono ?_; rintro e V2 ⟨cv', tv', gv', rfl, hO, c2⟩; have b2 := b1.trans (c2.mono b1.size); obtain ⟨a1, n1, c1, a2, n2, c2', a3, n3, c3, rfl, rfl, rfl⟩ := hO.shapes; have HO : Hid (ScrO V2 0 _ s' _ _ _) := hO; clear c2 hO; have HR : Hid (V2.heap[w.heap.size + 2]? = _) := Grd.carry HX1.out b2; have KF : Hid (Below w.heap.size w (V2.setRow (w.heap.size + 2) (scrA s' (.slice a1 n1 c1) (.slice a2 n2 c2') (.slice a3 n3 c3))) ∧ ScrPtr (V2.setRow (w.heap.size + 2) (scrA s' (.slice a1 n1 c1) (.slice a2 n2 c2') (.slice a3 n3 c3))) (.pointer (some ⟨w.heap.size, 0, none⟩)) ∧ blkAt (V2.setRow (w.heap.size + 2) (scrA s' (.slice a1 n1 c1) (.slice a2 n2 c2') (.slice a3 n3 c3))) (.pointer (some ⟨w.heap.size, 0, none⟩)) = (scrA s (.slice ca s.cs.length cc) (.slice ta s.tabs.length tc) (.slice ga s.gone.length gc)) ∧ ScrPtr0 (V2.setRow (w.heap.size + 2) (scrA s' (.slice a1 n1 c1) (.slice a2 n2 c2') (.slice a3 n3 c3))) (.pointer (some ⟨w.heap.size + 2, 0, none⟩))) := kf2_of (SK.out _ b2).1 (Grd.carry HX0.out b2) HR.out))
  all_goals go_wp2_with fail
  all_goals (try simp only [Exit.inBlock, Exit.then])
  all_goals refine bodyPost_ret (v := .tuple #[.agg (scrA s' (.slice a1 n1 c1) (.slice a2 n2 c2') (.slice a3 n3 c3)), .int .i64 er]) ?_ rfl ⟨_, _, _, rfl, (ScrO.off HO.out HR.out screen_is (by omega) fun k hk => setRow_other _ _ _ _ hk).mono (SK.out _ b1).1.size, KF.out.1⟩
  all_goals exact Grd.results_row_tmp rfl _ _ (w.heap.size + 2) _ _ _ _ rfl (setRow_heap _ _ _ _ _ _ HR.out) Tryd.underlying32 rfl (by kernel_rfl) _ rfl
end
end Put
end Go.Proofs.YtnkeahfcpbepjaaDoor

/- put.Text in general: what is printed, rune by rune; the screen stays right. -/
namespace Go.Proofs.YtnkeahfcpbepjaaDoor
set_option linter.unusedVariables false
open Go.ChangeShapes Go.WideShapes Go.ChangeAt Go.RowKit
namespace Put
open Grd (C SliceAt CellsAt gridErr z0 nilV flat rowsL RightRow mendL)
open Sty (isSt)
open Txt (wd)
/-- A sheet whose screen is right. -/
structure PJ (n hh : Nat) (s : Scr) (rows : List (List C)) : Prop where
  r : RightS { s with cs := rows.flatten } n hh
  rl : rows.length = hh
  rr : RowsRt n rows
theorem PJ.start {s : Scr} {n hh : Nat} (h : RightS s n hh) : PJ n hh s (rowsL n s.cs hh) := by
  refine ⟨?_, Grd.rowsL_len _ _ _, rowsRt_of h⟩
  rw [h.flatten]
  exact h
theorem PJ.pi {n hh : Nat} {s : Scr} {rows : List (List C)} (h : PJ n hh s rows) : PI n hh s rows := by
  have hk := h.r.looks
  simp only [looksOk, Bool.and_eq_true] at hk
  exact ⟨h.r.w, h.r.h, h.r.n1, h.r.n2, h.r.h1, h.r.h2, h.r.x0, h.r.x1, h.r.y0, h.r.y1, h.r.t0, h.r.t1, h.r.t2, hk.1, h.rl, h.rr, h.r.gl⟩
/-- The cursor elsewhere, another last rune. -/
theorem RightS.at {s : Scr} {n hh : Nat} (h : RightS s n hh) (x y : Int) (late : Bool) (last : Int) (x0 : 0 ≤ x) (x1 : x < n) (y0 : 0 ≤ y) (y1 : y < hh) (hl : lateBad { s with x := x, y := y, late := late, last := last } = false) (ha : last = 0 ∨ wd last ≠ 0) : RightS { s with x := x, y := y, late := late, last := last } n hh :=
  ⟨h.w, h.h, h.n1, h.n2, h.h1, h.h2, h.cl, h.gz, x0, x1, y0, y1, h.kx0, h.kx1, h.ky0, h.ky1, h.t0, h.t1, h.t2, h.t3, hl, h.looks, h.tl, ha, h.ti, h.gl, h.gr⟩
theorem PJ.rows {n hh : Nat} {s : Scr} {rows rows' : List (List C)} (h : PJ n hh s rows) (hl : rows'.length = hh) (hr : RowsRt n rows') (g : List (List C)) (hg : g.length ≤ 50) (hg2 : ∀ row, row ∈ g → gridErr row.length 1 row = 0) : PJ n hh { s with gone := g } rows' :=
  ⟨(right_new h.r g rows' hl hr hg hg2).1, hl, hr⟩
theorem PJ.at {n hh : Nat} {s : Scr} {rows : List (List C)} (h : PJ n hh s rows) (x y : Int) (late : Bool) (last : Int) (x0 : 0 ≤ x) (x1 : x < n) (y0 : 0 ≤ y) (y1 : y < hh) (hl : lateBad { s with x := x, y := y, late := late, last := last } = false) (ha : last = 0 ∨ wd last ≠ 0) : PJ n hh { s with x := x, y := y, late := late, last := last } rows :=
  ⟨h.r.at x y late last x0 x1 y0 y1 hl ha, h.rl, h.rr⟩
theorem late_no (s : Scr) (h : s.late = false) : lateBad s = false := by
  unfold lateBad
  rw [h]
  rfl
theorem PJ.fed {n hh : Nat} {s : Scr} {rows : List (List C)} (h : PJ n hh s rows) : PJ n hh (fedP n s rows).1 (fedP n s rows).2 := by
  have hp := h.pi.fed
  have hi := h.pi
  have n1 := hi.n1
  have y0 := hi.y0
  have y1 := hi.y1
  have t0 := hi.t0
  have t1 := hi.t1
  have t2 := hi.t2
  have rl := hi.rl
  have eh := hi.h
  have hla := h.r.la
  unfold fedP at hp ⊢
  by_cases hq : s.y = s.bot
  · rw [if_pos hq] at hp ⊢
    have hgr : ∀ row, row ∈ (upS { s with x := 0, late := false } rows s.top.toNat).gone → gridErr row.length 1 row = 0 := fun row hrow => by
      unfold upS at hrow
      split at hrow
      · rcases keepG_mem hrow with q | q
        · exact h.r.gr row q
        · have h0 := h.rr 0 (by omega)
          rw [q, h0.1]
          exact roll_one n _ hi.n1 hi.n2 h0.1 h0.2
      · exact h.r.gr row hrow
    have hu := upS_same { s with x := 0, late := false } rows s.top.toNat
    have k := h.rows hp.rl hp.rr _ hp.gl hgr
    have k2 := k.at 0 s.y false s.last (by omega) (by omega) y0 y1 (late_no _ rfl) hla
    dsimp only at k2 ⊢
    rw [hu]
    exact k2
  · rw [if_neg hq]
    unfold feedS
    dsimp only
    split
    · exact h.at 0 (s.y + 1) false s.last (by omega) (by omega) (by omega) (by omega) (late_no _ rfl) hla
    · exact h.at 0 s.y false s.last (by omega) (by omega) y0 y1 (late_no _ rfl) hla
theorem PJ.turn {n hh : Nat} {s : Scr} {rows : List (List C)} (h : PJ n hh s rows) (r : Int) : PJ n hh (turnP n s rows r).1 (turnP n s rows r).2 := by
  unfold turnP
  split
  · exact h.fed
  · exact h
theorem fedP_late (n : Nat) (s : Scr) (rows : List (List C)) : (fedP n s rows).1.late = false := by
  unfold fedP
  split
  · dsimp only
    rw [upS_same]
  · unfold feedS
    dsimp only
    split <;> rfl
theorem turn_late (n : Nat) (s : Scr) (rows : List (List C)) (r : Int) : (turnP n s rows r).1.late = false := by
  unfold turnP
  by_cases hb : brkB s (wd r) = true
  · rw [if_pos hb]
    exact fedP_late n s rows
  · rw [if_neg hb]
    have h2 : brkB s (wd r) = false := by simpa using hb
    unfold brkB at h2
    simp only [Bool.or_eq_false_iff] at h2
    exact h2.1
theorem late_adv {s1 : Scr} {x : Int} {r : Int} (e : x = s1.w - 1) : lateBad { s1 with x := x, late := hasB s1.modes 4, last := r } = false := by
  unfold lateBad
  dsimp only
  cases hb : hasB s1.modes 4 with
  | false => rfl
  | true =>
    have h4 : bits .and .i64 s1.modes 4 = 4 := by simpa [hasB] using hb
    rw [h4]
    simp [e]
theorem PJ.print {n hh : Nat} {s : Scr} {rows : List (List C)} (h0 : PJ n hh s rows) (r : Int) : PJ n hh (prnP n s rows r).1 (prnP n s rows r).2 := by
  have hp := h0.pi.print r
  unfold prnP at hp ⊢
  by_cases hsk : wd r = 0 ∨ s.w < wd r
  · rw [if_pos hsk]
    exact h0
  · rw [if_neg hsk] at hp ⊢
    have h := h0.turn r
    have hlt := turn_late n s rows r
    generalize turnP n s rows r = t at *
    obtain ⟨s1, rows1⟩ := t
    dsimp only at h hlt hp ⊢
    by_cases hft : fitsB s1 (wd r) = false
    · rw [if_pos hft]
      exact h
    · rw [if_neg hft] at hp ⊢
      have hf : fitsB s1 (wd r) = true := by simpa using hft
      have hf' : wd r ≤ s1.w - s1.x := by simpa [fitsB] using hf
      have hw0 : wd r ≠ 0 := fun e => hsk (.inl e)
      have hk := Txt.wd_range r
      have n1 := h.pi.n1
      have x0 := h.pi.x0
      have ew := h.pi.w
      have k := h.rows hp.rl hp.rr s1.gone h.r.gl h.r.gr
      dsimp only at k ⊢
      by_cases hq : s1.x + wd r = s1.w
      · have ea : advS s1 (wd r) = { s1 with x := s1.w - 1, late := hasB s1.modes 4 } := by unfold advS; rw [if_pos hq]
        rw [ea]
        exact k.at (s1.w - 1) s1.y (hasB s1.modes 4) r (by omega) (by omega) h.pi.y0 h.pi.y1 (late_adv (s1 := s1) rfl) (.inr hw0)
      · have ea : advS s1 (wd r) = { s1 with x := s1.x + wd r } := by unfold advS; rw [if_neg hq]
        rw [ea]
        exact k.at (s1.x + wd r) s1.y s1.late r (by omega) (by omega) h.pi.y0 h.pi.y1 (late_no _ hlt) (.inr hw0)
/-- What printing leaves as it is. -/
def Held (a b : Scr) : Prop := a.w = b.w ∧ a.h = b.h ∧ a.sf = b.sf ∧ a.sb = b.sb ∧ a.sx = b.sx ∧ a.top = b.top ∧ a.bot = b.bot ∧ a.modes = b.modes ∧ a.tabs = b.tabs ∧ a.kx = b.kx ∧ a.ky = b.ky ∧ a.kf = b.kf ∧ a.kb = b.kb ∧ a.kbits = b.kbits ∧ a.km = b.km ∧ a.title = b.title
theorem Held.refl (a : Scr) : Held a a := ⟨rfl, rfl, rfl, rfl, rfl, rfl, rfl, rfl, rfl, rfl, rfl, rfl, rfl, rfl, rfl, rfl⟩
theorem Held.trans {a b c : Scr} (h : Held a b) (k : Held b c) : Held a c := by
  obtain ⟨h1, h2, h3, h4, h5, h6, h7, h8, h9, h10, h11, h12, h13, h14, h15, h16⟩ := h
  obtain ⟨k1, k2, k3, k4, k5, k6, k7, k8, k9, k10, k11, k12, k13, k14, k15, k16⟩ := k
  exact ⟨h1.trans k1, h2.trans k2, h3.trans k3, h4.trans k4, h5.trans k5, h6.trans k6, h7.trans k7, h8.trans k8, h9.trans k9, h10.trans k10, h11.trans k11, h12.trans k12, h13.trans k13, h14.trans k14, h15.trans k15, h16.trans k16⟩
theorem turn_held (n : Nat) (s : Scr) (rows : List (List C)) (r : Int) : Held (turnP n s rows r).1 s := by
  unfold turnP
  split
  · unfold fedP
    split
    · dsimp only
      rw [upS_same]
      exact Held.refl s
    · unfold feedS
      dsimp only
      split
      · exact Held.refl s
      · exact Held.refl s
  · exact Held.refl s
theorem prnP_held (n : Nat) (s : Scr) (rows : List (List C)) (r : Int) : Held (prnP n s rows r).1 s := by
  have h := turn_held n s rows r
  unfold prnP
  split
  · exact Held.refl s
  · split
    · exact h
    · refine Held.trans ?_ h
      generalize (turnP n s rows r).1 = s1
      unfold advS
      dsimp only
      split
      · exact Held.refl s1
      · exact Held.refl s1
/-- What is printed of a text, so many runes of it. -/
def stP (n : Nat) (t : ByteArray) (s : Scr) (rows : List (List C)) : Nat → Scr × List (List C)
  | 0 => (s, rows)
  | i + 1 => prnP n (stP n t s rows i).1 (stP n t s rows i).2 ((Txt.runes t).getD i (0, 0)).1
theorem PJ.text {n hh : Nat} {s : Scr} {rows : List (List C)} (h : PJ n hh s rows) (t : ByteArray) : ∀ i, PJ n hh (stP n t s rows i).1 (stP n t s rows i).2
  | 0 => h
  | i + 1 => (PJ.text h t i).print _
theorem stP_held (n : Nat) (t : ByteArray) (s : Scr) (rows : List (List C)) : ∀ i, Held (stP n t s rows i).1 s
  | 0 => Held.refl s
  | i + 1 => (prnP_held n _ _ _).trans (stP_held n t s rows i)
theorem text_does {n hh : Nat} {s : Scr} {rows : List (List C)} (h : PJ n hh s rows) (t : ByteArray) (B M : Nat) (w : World) (hT : Txt.Tab w) (hB : w.cell? ⟨B, 0, none⟩ = some (.string t)) :
    Does 58 #[.pointer (some ⟨B, 0, none⟩)] M w s (stP n t s rows (Txt.runes t).length).1 rows (stP n t s rows (Txt.runes t).length).2 :=
  text1_does t B M w (stP n t s rows) hB fun i _ X p hX hS => print_any (PJ.text h t i).pi _ X M w.heap.size p (Grd.Tab.next hT hX) hT.pos hS
theorem plain_textT : Plain 58 := by
  intro args W
  kernel_rfl
/-- Text, on a right screen. -/
theorem ptext_any {w0 w : World} {s : Scr} {cv tv gv : Value} {n hh : Nat} (h : Met w0 w s cv tv gv) (hR : RightS s n hh) (t : ByteArray) (ht : t.size ≤ 4000) :
    Calls Tryd.prog 18 #[.agg (scrA s cv tv gv), .string t] w (Made w0 w { (stP n t s (rowsL n s.cs hh) (Txt.runes t).length).1 with cs := (stP n t s (rowsL n s.cs hh) (Txt.runes t).length).2.flatten } 0) ∧ RightS { (stP n t s (rowsL n s.cs hh) (Txt.runes t).length).1 with cs := (stP n t s (rowsL n s.cs hh) (Txt.runes t).length).2.flatten } n hh := by
  have hj := PJ.start hR
  have he := hj.text t (Txt.runes t).length
  refine ⟨?_, he.r⟩
  have hz := rightErr hR
  have key := putText_any s { (stP n t s (rowsL n s.cs hh) (Txt.runes t).length).1 with cs := (stP n t s (rowsL n s.cs hh) (Txt.runes t).length).2.flatten } cv tv gv t ht w0 w h.t h.v h.b h.f
  rw [hz] at key
  refine key fun W B hW hB => ?_
  exact change_good n hh s _ _ cv tv gv _ plain_textT _ w0 W h.v (h.b.trans (hW.mono h.b.size)) h.f hR.w hR.h hR.gz (fun w1 hw1 => text_does hj t B _ w1 (Grd.Tab.next (Grd.Tab.next h.t hW) hw1) (cell_stay hw1 hB)) (rowsOk hR _ _ he.rl (fun i hi => (he.rr i hi).1) (by have := he.r.gl; show (stP n t s (rowsL n s.cs hh) (Txt.runes t).length).1.gone.length ≤ 51; exact Nat.le_succ_of_le this) (fun i hi => by have := he.r.gone_le i hi; exact Nat.le_trans this (by omega))) _ rfl
end Put
end Go.Proofs.YtnkeahfcpbepjaaDoor

/- What is printed of two texts, one behind the other. -/
namespace Go.Proofs.YtnkeahfcpbepjaaDoor
namespace Txt
theorem dec_L (l : List UInt8) : dec l = Lib.decodeL l := (Lib.decodeL_N l).symm
/-- Behind a valid text the runes of another one follow. -/
theorem rn_valid : ∀ (k : Nat) (a b : List UInt8), a.length ≤ k → Lib.validD a = true → rn (a ++ b) = rn a ++ rn b
  | 0, a, b, hk, _ => by
    have : a = [] := List.length_eq_zero_iff.1 (by omega)
    subst this
    rfl
  | k + 1, a, b, hk, hv => by
    by_cases ha : a = []
    · subst ha
      rfl
    · rw [Lib.validD_step a ha] at hv
      by_cases hb : (Lib.decodeL a).1 = 65533 ∧ (Lib.decodeL a).2 = 1
      · rw [if_pos hb] at hv
        cases hv
      · rw [if_neg hb] at hv
        have he := Lib.encode_decode a ha hb
        rw [← dec_L] at he hv
        have hok := dec_ok a
        have hp := dec_pos a
        have hsp : a = Lib.encodeRune ((dec a).1 : Int) ++ a.drop (dec a).2 := by rw [he, List.take_append_drop]
        have ih := rn_valid k (a.drop (dec a).2) b (by rw [List.length_drop]; omega) hv
        have h1 := rn_encode ((dec a).1 : Int) hok (a.drop (dec a).2)
        have h2 := rn_encode ((dec a).1 : Int) hok (a.drop (dec a).2 ++ b)
        rw [← hsp] at h1
        rw [← List.append_assoc, ← hsp] at h2
        rw [h1, h2, ih]
        rfl
theorem runes_valid (a b : ByteArray) (h : Lib.validD a.data.toList = true) : runes (a ++ b) = runes a ++ runes b := by
  rw [runes_rn, runes_rn, runes_rn]
  have e : (a ++ b).data.toList = a.data.toList ++ b.data.toList := by
    have := bs_append a.data.toList b.data.toList
    rw [bs_self, bs_self] at this
    rw [this, bs_data]
  rw [e]
  exact rn_valid _ _ _ (Nat.le_refl _) h
end Txt
namespace Put
open Grd (C SliceAt CellsAt gridErr z0 nilV flat rowsL)
open Txt (wd)
/-- Runes printed one after the other. -/
def prnF (n : Nat) (x : Scr × List (List C)) (l : List (Int × Nat)) : Scr × List (List C) := l.foldl (fun x r => prnP n x.1 x.2 r.1) x
theorem prnF_append (n : Nat) (x : Scr × List (List C)) (l l' : List (Int × Nat)) : prnF n x (l ++ l') = prnF n (prnF n x l) l' := by
  unfold prnF
  rw [List.foldl_append]
theorem stP_fold (n : Nat) (t : ByteArray) (s : Scr) (rows : List (List C)) : ∀ i, i ≤ (Txt.runes t).length → stP n t s rows i = prnF n (s, rows) ((Txt.runes t).take i)
  | 0, _ => by rw [List.take_zero]; rfl
  | i + 1, h => by
    have ih := stP_fold n t s rows i (by omega)
    have hi : i < (Txt.runes t).length := by omega
    have e : (Txt.runes t).getD i (0, 0) = (Txt.runes t)[i] := by simp [List.getD, hi]
    show prnP n (stP n t s rows i).1 (stP n t s rows i).2 ((Txt.runes t).getD i (0, 0)).1 = _
    rw [ih, e, List.take_add_one, List.getElem?_eq_getElem hi, Option.toList_some, prnF_append]
    rfl
theorem stP_all (n : Nat) (t : ByteArray) (s : Scr) (rows : List (List C)) : stP n t s rows (Txt.runes t).length = prnF n (s, rows) (Txt.runes t) := by
  rw [stP_fold n t s rows _ (Nat.le_refl _), List.take_length]
theorem turn_cs (n : Nat) (s : Scr) (rows : List (List C)) (r : Int) (c : List C) : turnP n { s with cs := c } rows r = ({ (turnP n s rows r).1 with cs := c }, (turnP n s rows r).2) := by
  unfold turnP
  by_cases h : brkB s (wd r) = true
  · have h' : brkB { s with cs := c } (wd r) = true := h
    rw [if_pos h, if_pos h']
    unfold fedP
    by_cases h2 : s.y = s.bot
    · rw [if_pos (show ({ s with cs := c } : Scr).y = ({ s with cs := c } : Scr).bot from h2), if_pos h2]
      unfold upS
      dsimp only
      split <;> rfl
    · rw [if_neg (show ¬ ({ s with cs := c } : Scr).y = ({ s with cs := c } : Scr).bot from h2), if_neg h2]
      unfold feedS
      dsimp only
      split <;> rfl
  · have h' : ¬ brkB { s with cs := c } (wd r) = true := h
    rw [if_neg h, if_neg h']
theorem prnP_cs (n : Nat) (s : Scr) (rows : List (List C)) (r : Int) (c : List C) : prnP n { s with cs := c } rows r = ({ (prnP n s rows r).1 with cs := c }, (prnP n s rows r).2) := by
  unfold prnP
  rw [turn_cs]
  generalize turnP n s rows r = q
  by_cases h1 : wd r = 0 ∨ s.w < wd r
  · rw [if_pos h1, if_pos (show wd r = 0 ∨ ({ s with cs := c } : Scr).w < wd r from h1)]
  · rw [if_neg h1, if_neg (show ¬ (wd r = 0 ∨ ({ s with cs := c } : Scr).w < wd r) from h1)]
    by_cases h2 : fitsB q.1 (wd r) = false
    · rw [if_pos h2, if_pos (show fitsB ({ q.1 with cs := c } : Scr) (wd r) = false from h2)]
    · rw [if_neg h2, if_neg (show ¬ fitsB ({ q.1 with cs := c } : Scr) (wd r) = false from h2)]
      unfold advS
      dsimp only
      split <;> rfl
theorem prnF_cs (n : Nat) (c : List C) : ∀ (l : List (Int × Nat)) (s : Scr) (rows : List (List C)), prnF n ({ s with cs := c }, rows) l = ({ (prnF n (s, rows) l).1 with cs := c }, (prnF n (s, rows) l).2)
  | [], s, rows => rfl
  | r :: l, s, rows => by
    have e : prnF n ({ s with cs := c }, rows) (r :: l) = prnF n (prnP n { s with cs := c } rows r.1) l := rfl
    have e2 : prnF n (s, rows) (r :: l) = prnF n (prnP n s rows r.1) l := rfl
    rw [e, e2, prnP_cs]
    exact prnF_cs n c l (prnP n s rows r.1).1 (prnP n s rows r.1).2
/-- What a text makes of a screen. -/
def textS (n hh : Nat) (t : ByteArray) (s : Scr) : Scr := { (prnF n (s, rowsL n s.cs hh) (Txt.runes t)).1 with cs := (prnF n (s, rowsL n s.cs hh) (Txt.runes t)).2.flatten }
theorem textS_st (n hh : Nat) (t : ByteArray) (s : Scr) : ({ (stP n t s (rowsL n s.cs hh) (Txt.runes t).length).1 with cs := (stP n t s (rowsL n s.cs hh) (Txt.runes t).length).2.flatten } : Scr) = textS n hh t s := by
  unfold textS
  rw [stP_all]
theorem PJ.fold {n hh : Nat} {s : Scr} {rows : List (List C)} (h : PJ n hh s rows) (t : ByteArray) : PJ n hh (prnF n (s, rows) (Txt.runes t)).1 (prnF n (s, rows) (Txt.runes t)).2 := by
  have := h.text t (Txt.runes t).length
  rwa [stP_all] at this
theorem PJ.back {n hh : Nat} {s : Scr} {rows : List (List C)} (h : PJ n hh s rows) : rowsL n rows.flatten hh = rows :=
  (right_new h.r s.gone rows h.rl h.rr h.r.gl h.r.gr).2
theorem textS_row {n hh : Nat} {s : Scr} (h : RightS s n hh) (a b : ByteArray) (hv : Lib.validD a.data.toList = true) : textS n hh b (textS n hh a s) = textS n hh (a ++ b) s := by
  have hj := (PJ.start h).fold a
  have e : rowsL n (textS n hh a s).cs hh = (prnF n (s, rowsL n s.cs hh) (Txt.runes a)).2 := hj.back
  have k : prnF n (textS n hh a s, rowsL n (textS n hh a s).cs hh) (Txt.runes b) = ({ (prnF n (s, rowsL n s.cs hh) (Txt.runes (a ++ b))).1 with cs := (prnF n (s, rowsL n s.cs hh) (Txt.runes a)).2.flatten }, (prnF n (s, rowsL n s.cs hh) (Txt.runes (a ++ b))).2) := by
    rw [e, Txt.runes_valid a b hv, prnF_append]
    exact prnF_cs n _ (Txt.runes b) _ _
  show ({ (prnF n (textS n hh a s, rowsL n (textS n hh a s).cs hh) (Txt.runes b)).1 with cs := (prnF n (textS n hh a s, rowsL n (textS n hh a s).cs hh) (Txt.runes b)).2.flatten } : Scr) = _
  rw [k]
  rfl
end Put
end Go.Proofs.YtnkeahfcpbepjaaDoor

/- put.Text on a right screen, and on another. -/
namespace Go.Proofs.YtnkeahfcpbepjaaDoor
set_option linter.unusedVariables false
open Go.ChangeShapes Go.WideShapes Go.ChangeAt Go.RowKit
namespace Put
open Grd (C SliceAt CellsAt gridErr z0 nilV rowsL RowsAt RowB flat)
theorem ptext_bad {w0 w : World} {s : Scr} {cv tv gv : Value} (h : Met w0 w s cv tv gv) (hz : scrErr s ≠ 0) (t : ByteArray) (ht : t.size ≤ 4000) : Calls Tryd.prog 18 #[.agg (scrA s cv tv gv), .string t] w (Made w0 w zScr (scrErr s)) :=
  putText_any s zScr cv tv gv t ht w0 w h.t h.v h.b h.f fun W _ _ _ => made_bad s cv tv gv (scrErr s) hz _ w0 W h.v
theorem ptext_good {w0 w : World} {s : Scr} {cv tv gv : Value} {n hh : Nat} (h : Met w0 w s cv tv gv) (hR : RightS s n hh) (t : ByteArray) (ht : t.size ≤ 4000) : Calls Tryd.prog 18 #[.agg (scrA s cv tv gv), .string t] w (Made w0 w (textS n hh t s) 0) := by
  have := (ptext_any h hR t ht).1
  rwa [textS_st] at this
theorem textS_right {s : Scr} {n hh : Nat} (hR : RightS s n hh) (t : ByteArray) : RightS (textS n hh t s) n hh := by
  have := ((PJ.start hR).text t (Txt.runes t).length).r
  rwa [textS_st] at this
theorem textS_title (n hh : Nat) (t : ByteArray) (s : Scr) : (textS n hh t s).title = s.title := by
  have h := stP_held n t s (rowsL n s.cs hh) (Txt.runes t).length
  rw [← textS_st]
  exact h.2.2.2.2.2.2.2.2.2.2.2.2.2.2.2
theorem fits_text {s : Scr} {n hh : Nat} (h : RightS s n hh) (ht : s.title.size ≤ 1048576) : Fits s := by
  have hk := h.looks
  simp only [looksOk, Bool.and_eq_true, decide_eq_true_eq] at hk
  have hm := hk.2.2.1
  have h4 : s.km = 0 ∨ s.km = 2 ∨ s.km = 4 ∨ s.km = 6 := by simpa [keptOk] using hk.2.2.2
  exact ⟨by omega, by omega, by omega, by omega, ht, by have := h.gl; omega, by have := h.tl; have := h.n2; omega⟩
end Put
end Go.Proofs.YtnkeahfcpbepjaaDoor

/- utf8.ValidString, and its tables. -/
namespace Go.Proofs.YtnkeahfcpbepjaaDoor
open Go.ChangeShapes Go.WideShapes Go.ChangeAt Go.RowKit
namespace Put
def vren : Go.Shelf.Ren := ⟨fun | 196 => 23 | 259 => 66 | n => n, fun | 0 => 0 | 3 => 3 | 4 => 4 | 5 => 5 | 9 => 9 | 12 => 12 | 46 => 96 | 53 => 132 | 119 => 92 | 138 => 94 | 139 => 95 | n => n, fun | 3 => 0 | 4 => 1 | n => n⟩
theorem vlays : Go.Proofs.Lays.n196 Tryd.prog vren := {
  mixed := by kernel_rfl
  f196 := Tryd.func23.trans (congrArg some (by kernel_rfl))
  f259 := Tryd.func66.trans (congrArg some (by kernel_rfl))
  t0 := Tryd.underlying0
  a0 := Tryd.isAgg0
  z0 := Tryd.sizeOf0
  v0 := Tryd.zeroValue0
  t3 := Tryd.underlying3
  a3 := Tryd.isAgg3
  z3 := Tryd.sizeOf3
  v3 := Tryd.zeroValue3
  t4 := Tryd.underlying4
  a4 := Tryd.isAgg4
  z4 := Tryd.sizeOf4
  v4 := Tryd.zeroValue4
  t5 := Tryd.underlying5
  a5 := Tryd.isAgg5
  z5 := Tryd.sizeOf5
  v5 := Tryd.zeroValue5
  t9 := Tryd.underlying9
  a9 := Tryd.isAgg9
  z9 := Tryd.sizeOf9
  v9 := Tryd.zeroValue9
  t12 := Tryd.underlying12
  a12 := Tryd.isAgg12
  z12 := Tryd.sizeOf12
  v12 := Tryd.zeroValue12
  t46 := Tryd.underlying96
  a46 := Tryd.isAgg96
  z46 := Tryd.sizeOf96
  v46 := Tryd.zeroValue96
  t53 := Tryd.underlying132
  a53 := Tryd.isAgg132
  z53 := Tryd.sizeOf132
  v53 := Tryd.zeroValue132
  t119 := Tryd.underlying92
  a119 := Tryd.isAgg92
  z119 := Tryd.sizeOf92
  t138 := Tryd.underlying94
  a138 := Tryd.isAgg94
  z138 := Tryd.sizeOf94
  v138 := Tryd.zeroValue94
  t139 := Tryd.underlying95
  a139 := Tryd.isAgg95
  z139 := Tryd.sizeOf95
  v139 := Tryd.zeroValue95
  g3 := by kernel_rfl
  g4 := by kernel_rfl }
/-- The tables of package utf8 lie as its text lays them. -/
def VTabs (w : World) : Prop := Lib.Utf8Tabs 0 1 w
theorem vtabs_next {w w' : World} (h : VTabs w) (hb : Below w.heap.size w w') : VTabs w' := Utf8Tabs_below h hb
theorem valid_any (s : ByteArray) (w : World) (hs : s.size ≤ 9223372036854775807) (hT : VTabs w) : Calls Tryd.prog 23 #[.string s] w fun e w' => e = .returned (.bool (Lib.validD s.data.toList)) ∧ Below w.heap.size w w' := Any.utf8_ValidString vlays s w hs hT
theorem u8xv : U8Extra Tryd.prog vren := { n3 := by kernel_rfl, n4 := by kernel_rfl, y3 := by kernel_rfl, y4 := by kernel_rfl, c5 := by kernel_rfl, c119 := by kernel_rfl, c138 := by kernel_rfl }
theorem firstV_eq : Lib.firstData = Rows.laid_unicode_utf8_first := by kernel_rfl
theorem acceptV_eq : Lib.acceptData = Rows.laid_unicode_utf8_acceptRanges := by kernel_rfl
def firstCellsV : Array Value := (Go.Pinned.utf8FirstZ.map fun (z : Nat) => Value.int .u8 (z : Int)).toArray
def acceptCellsV : Array Value := ((List.range 16).flatMap fun i => [Value.int .u8 (Lib.accLo i : Int), Value.int .u8 (Lib.accHi i : Int)]).toArray
theorem vtabs_of {W : World} (h3 : Lib.VarReads Tryd.prog W "unicode/utf8.first" Rows.laid_unicode_utf8_first) (h4 : Lib.VarReads Tryd.prog W "unicode/utf8.acceptRanges" Rows.laid_unicode_utf8_acceptRanges) : VTabs W := by
  rw [← firstV_eq] at h3
  rw [← acceptV_eq] at h4
  exact utf8Tabs_of_readsT (U8Types.of196 vlays) u8xv h3 h4
end Put
end Go.Proofs.YtnkeahfcpbepjaaDoor

/- put.New. -/
namespace Go.Proofs.YtnkeahfcpbepjaaDoor
open Go.ChangeShapes Go.WideShapes Go.ChangeAt Go.RowKit
namespace Put
open Grd (C SliceAt CellsAt gridErr z0 nilV flat rowsL OwnG isSize)
/-- The tabs of a new screen. -/
def newTabs (n : Nat) : List Bool := (List.range n).map fun x => decide (0 < x ∧ x % 8 = 0)
/-- A new screen. -/
def newScr (n hh : Nat) : Scr := ⟨n, hh, List.replicate (n * hh) (32, 0, 0, 0), 0, 0, false, 0, 0, 0, 0, (hh : Int) - 1, 4, newTabs n, 0, 0, 0, 0, 0, 4, 0, ⟨#[]⟩, []⟩
def preScr (a b y : Int) : Scr := ⟨a, b, [], 0, 0, false, 0, 0, 0, 0, y, 4, [], 0, 0, 0, 0, 0, 4, 0, ⟨#[]⟩, []⟩
def IsGridV (v : Value) : Prop := ∃ a b q l c, v = .agg #[.int .i64 a, .int .i64 b, .slice q l c]
theorem isGridV (a b : Int) (q : Option Addr) (l c : Nat) : IsGridV (.agg #[.int .i64 a, .int .i64 b, .slice q l c]) := ⟨a, b, q, l, c, rfl⟩
def IsIntV (v : Value) : Prop := ∃ a, v = .int .i64 a
theorem isIntV (a : Int) : IsIntV (.int .i64 a) := ⟨a, rfl⟩
def IsKeptV (v : Value) : Prop := v = .agg #[.int .i64 0, .int .i64 0, .int .i64 0, .int .i64 0, .int .i64 0, .int .i64 4]
theorem isKeptV : IsKeptV (.agg #[.int .i64 0, .int .i64 0, .int .i64 0, .int .i64 0, .int .i64 0, .int .i64 4]) := rfl
def newArr (x y u : Value) : Array Value := #[(aggOf x).getD 0 undef, (aggOf x).getD 1 undef, (aggOf x).getD 2 undef, .int .i64 0, .int .i64 0, .bool false, .int .i64 0, .int .i64 0, .int .i64 0, .int .i64 0, y, .int .i64 4, u, .int .i64 0, .int .i64 0, .int .i64 0, .int .i64 0, .int .i64 0, .int .i64 4, .int .i32 0, .string ⟨#[]⟩, .slice none 0 0]
theorem newArr_scr (a b y : Int) (cv tv : Value) : newArr (.agg #[.int .i64 a, .int .i64 b, cv]) (.int .i64 y) tv = scrA (preScr a b y) cv tv (.slice none 0 0) := rfl
theorem build_new_run (W : World) (a b y : Int) (q : Option Addr) (l c : Nat) (q' : Option Addr) (l' c' : Nat) : (Instr.build 32 #[(0, .agg #[.int .i64 a, .int .i64 b, .slice q l c]), (6, .int .i64 y), (7, .int .i64 4), (9, .agg #[.int .i64 0, .int .i64 0, .int .i64 0, .int .i64 0, .int .i64 0, .int .i64 4]), (8, .slice q' l' c')]).run Tryd.prog W = .ok (.agg (scrA (preScr a b y) (.slice q l c) (.slice q' l' c') (.slice none 0 0))) W := by kernel_rfl
theorem build_new (a : Act) (dst : Option Tmp) (x y z u : Operand) (ty : TypeId) (pos : String) (after : Array Edge) (guard : Option (Nat × Bool)) (W : World) (hx : IsGridV (a.eval x)) (hy : IsIntV (a.eval y)) (hz : IsKeptV (a.eval z)) (hu : IsSliceV (a.eval u)) :
    (execOp a.eval { dst, op := .build 32 #[(0, x), (6, y), (7, Operand.const (.int .i64 4)), (9, z), (8, u)], type := ty, pos, after, guard }).run Tryd.prog W = .ok (.value (.agg (newArr (a.eval x) (a.eval y) (a.eval u)))) W := by
  obtain ⟨a1, b1, q, l, c, hx⟩ := hx
  obtain ⟨y1, hy⟩ := hy
  unfold IsKeptV at hz
  obtain ⟨q', l', c', hu⟩ := hu
  have e4 : a.eval (Operand.const (.int .i64 4)) = .int .i64 4 := rfl
  unfold execOp
  simp only [List.map_toArray, List.map_cons, List.map_nil, hx, hy, hz, hu, e4, newArr_scr, Sem.run_bind, build_new_run, Sem.run_pure, Result.andThen_ok]
/-- The tabs that are set up to x. -/
def tabsL (n x : Nat) : List Bool := (List.range n).map fun j => decide (0 < j ∧ j % 8 = 0 ∧ j < x)
def tabsA (n x : Nat) : Array Value := ((tabsL n x).map Value.bool).toArray
theorem tabsL_all (n x : Nat) (h : n ≤ x) : tabsL n x = newTabs n := by
  unfold tabsL newTabs
  apply List.map_congr_left
  intro j hj
  rw [List.mem_range] at hj
  rw [decide_eq_decide]
  omega
theorem tabsA_cell {W : World} {T n x : Nat} (h : W.heap[T]? = some (.cells (tabsA n x) 4 (0, 0))) (hx : x < n) : W.cell? ⟨T, x, none⟩ = some (.bool false) := by
  simp [World.cell?, h, tabsA, tabsL, hx]
theorem tabsA_set (n x : Nat) (h8 : x % 8 = 0) (h0 : 0 < x) : (tabsA n x).setIfInBounds x (.bool true) = tabsA n (x + 8) := by
  unfold tabsA tabsL
  apply Array.ext
  · simp
  · intro i h1 h2
    simp only [Array.size_setIfInBounds, List.size_toArray, List.length_map, List.length_range] at h1
    rw [Array.getElem_setIfInBounds (by simpa using h1)]
    by_cases e : x = i
    · subst e
      simp [h8]
      omega
    · have h3 : decide (0 < i ∧ i % 8 = 0 ∧ i < x) = decide (0 < i ∧ i % 8 = 0 ∧ i < x + 8) := by rw [decide_eq_decide]; omega
      simp only [if_neg e, List.getElem_toArray, List.getElem_map, List.getElem_range, h3]
/-- Tabs, none set. -/
def falses (n : Nat) : Array Value := (List.replicate n (Value.bool false)).toArray
theorem tabsA_start (n : Nat) : tabsA n 8 = falses n := by
  unfold tabsA tabsL falses
  apply Array.ext
  · simp
  · intro i h1 h2
    simp
    omega
theorem made_falses (n : Nat) : madeCells (Value.bool false).cells (n * 1) = falses n := by
  unfold madeCells falses
  apply Array.ext
  · simp
  · intro i h1 h2
    have e : i % 1 = 0 := by omega
    simp [Value.cells, e]
theorem makeTabs (n : Nat) (hn : n ≤ 120) (W : World) : (Instr.makeSlice 27 (.int .i64 (n : Int)) (.int .i64 (n : Int))).run Tryd.prog W = .ok (.slice (some ⟨W.heap.size, 0, none⟩) n n) (W.alloc (.cells (falses n) 4)) := by
  obtain ⟨i0, hi, hzz⟩ := Option.map_eq_some_iff.1 info_bool
  simp only [Prod.mk.injEq] at hzz
  obtain ⟨hz0, hz1, hz2⟩ := hzz
  have h := run_makeSlice (P := Tryd.prog) (w := W) 27 4 i0 (.bool false) und_bools hi hz0 .i64 .i64 (n : Int) (n : Int) (by omega) (by omega) (by rw [hz1]; simp; omega) (by rw [hz2]; simp; omega) (by omega)
  rw [h, hz1, Int.toNat_natCast, made_falses]
section
attribute [local go_sem ↓] build_new store_scr
attribute [local go_sem] isGridV isIntV isKeptV isSliceV isScrS newArr_scr ptrBlk_at aggOf_agg
set_option maxHeartbeats 4000000 in
set_option maxRecDepth 100000 in
theorem new_good' (n hh : Nat) (w : World) (hs : isSize n hh = true) : Calls Tryd.prog 10 #[.int .i64 (n : Int), .int .i64 (hh : Int)] w (Made w w (newScr n hh) 0) := by
  have hsz : 1 ≤ (n : Int) ∧ (n : Int) ≤ 120 ∧ 1 ≤ (hh : Int) ∧ (hh : Int) ≤ 60 := by simpa [Grd.isSize] using hs
  obtain ⟨w1, w2, w3, w4⟩ := hsz
  have HN : Hid (∀ W, Calls Tryd.prog 40 #[.int .i64 (n : Int), .int .i64 (hh : Int)] W fun e w' => ∃ v, e = .returned (.tuple #[.agg #[.int .i64 (n : Int), .int .i64 (hh : Int), v], .int .i64 0]) ∧ OwnG w' W.heap.size v (List.replicate (n * hh) (32, 0, 0, 0)) ∧ Below W.heap.size W w') := fun W => by
    have h := Grd.new_good (n : Int) (hh : Int) W hs
    have e : ((n : Int) * (hh : Int)).toNat = n * hh := by rw [← Int.natCast_mul, Int.toNat_natCast]
    rw [e] at h
    exact h
  have hx0 := heap_alloc_new w (.cells #[.int .i64 0, .int .i64 0, .slice none 0 0, .int .i64 0, .int .i64 0, .bool false, .int .i64 0, .int .i64 0, .int .i64 0, .int .i64 0, .int .i64 0, .int .i64 0, .slice none 0 0, .int .i64 0, .int .i64 0, .int .i64 0, .int .i64 0, .int .i64 0, .int .i64 0, .int .i32 0, .string ⟨#[]⟩, .slice none 0 0] 32)
  have kb : Below w.heap.size w (w.alloc (.cells #[.int .i64 0, .int .i64 0, .slice none 0 0, .int .i64 0, .int .i64 0, .bool false, .int .i64 0, .int .i64 0, .int .i64 0, .int .i64 0, .int .i64 0, .int .i64 0, .slice none 0 0, .int .i64 0, .int .i64 0, .int .i64 0, .int .i64 0, .int .i64 0, .int .i64 0, .int .i32 0, .string ⟨#[]⟩, .slice none 0 0] 32)) := (Below.refl _ _).alloc (Nat.le_refl _) _
  have HX0 : Hid _ := hx0
  have HKB : Hid _ := kb
  clear hs hx0 kb
  go_enter Tryd.func10, Tryd.ntmps10
  go_wp2_with fail
  refine (HN.out _).mono ?_
  rintro e W1 ⟨v, rfl, ho, b1⟩
  have HO : Hid (OwnG W1 _ v (List.replicate (n * hh) (32, 0, 0, 0))) := ho
  obtain ⟨g, cap, rest, t, hv, -, -, -, -⟩ := ho
  rw [List.length_replicate] at hv
  subst hv
  go_upto_region 4 with fail
  have hL : n * hh ≤ 7200 := by have := Nat.mul_le_mul (show n ≤ 120 by omega) (show hh ≤ 60 by omega); omega
  generalize hLL : n * hh = L at *
  have HLL : Hid (n * hh = L) := hLL
  clear hLL
  have HX1 : Hid (W1.heap[w.heap.size]? = _) := Grd.carry HX0.out b1
  have hb1 : Below w.heap.size w W1 := HKB.out.trans (b1.mono HKB.out.size)
  have xg := heap_alloc_new W1 (.cells #[.int .i64 (n : Int), .int .i64 (hh : Int), .slice (some ⟨g, 0, none⟩) L cap] 24)
  have bg : Below W1.heap.size W1 (W1.alloc (.cells #[.int .i64 (n : Int), .int .i64 (hh : Int), .slice (some ⟨g, 0, none⟩) L cap] 24)) := (Below.refl _ _).alloc (Nat.le_refl _) _
  obtain ⟨g0, g1, g2, -⟩ := Grd.cells3 xg
  have HX2 : Hid _ := Grd.carry HX1.out bg
  have HBG : Hid _ := bg
  clear HX0 HKB b1 bg
  generalize (W1.alloc (.cells #[.int .i64 (n : Int), .int .i64 (hh : Int), .slice (some ⟨g, 0, none⟩) L cap] 24)) = X at *
  have hwr : IntKind.i64.wrap ((hh : Int) - 1) = (hh : Int) - 1 := by rw [IntKind.wrap_i64]; omega
  have hms := makeTabs n (by omega)
  have p1 : ScrPtr0 ((X.alloc (.cells (falses n) 4)).alloc (.cells #[.int .i64 0, .int .i64 0, .slice none 0 0, .int .i64 0, .int .i64 0, .bool false, .int .i64 0, .int .i64 0, .int .i64 0, .int .i64 0, .int .i64 0, .int .i64 0, .slice none 0 0, .int .i64 0, .int .i64 0, .int .i64 0, .int .i64 0, .int .i64 0, .int .i64 0, .int .i32 0, .string ⟨#[]⟩, .slice none 0 0] 32)).drew (.pointer (some ⟨X.heap.size + 1, 0, none⟩)) := scrPtr0_of (show ((X.alloc (.cells (falses n) 4)).alloc (.cells #[.int .i64 0, .int .i64 0, .slice none 0 0, .int .i64 0, .int .i64 0, .bool false, .int .i64 0, .int .i64 0, .int .i64 0, .int .i64 0, .int .i64 0, .int .i64 0, .slice none 0 0, .int .i64 0, .int .i64 0, .int .i64 0, .int .i64 0, .int .i64 0, .int .i64 0, .int .i32 0, .string ⟨#[]⟩, .slice none 0 0] 32)).heap[X.heap.size + 1]? = _ from heap_alloc2_new X _ _) rfl
  have p2 : ScrPtr0 ((X.alloc (.cells #[.int .i64 0, .int .i64 0, .slice none 0 0, .int .i64 0, .int .i64 0, .bool false, .int .i64 0, .int .i64 0, .int .i64 0, .int .i64 0, .int .i64 0, .int .i64 0, .slice none 0 0, .int .i64 0, .int .i64 0, .int .i64 0, .int .i64 0, .int .i64 0, .int .i64 0, .int .i32 0, .string ⟨#[]⟩, .slice none 0 0] 32)).alloc (.cells (falses n) 4)).drew (.pointer (some ⟨X.heap.size, 0, none⟩)) := scrPtr0_of (show ((X.alloc (.cells #[.int .i64 0, .int .i64 0, .slice none 0 0, .int .i64 0, .int .i64 0, .bool false, .int .i64 0, .int .i64 0, .int .i64 0, .int .i64 0, .int .i64 0, .int .i64 0, .slice none 0 0, .int .i64 0, .int .i64 0, .int .i64 0, .int .i64 0, .int .i64 0, .int .i64 0, .int .i32 0, .string ⟨#[]⟩, .slice none 0 0] 32)).alloc (.cells (falses n) 4)).heap[X.heap.size]? = _ from (Below.heap_alloc _ _ _ (by simp)).trans (heap_alloc_new _ _)) rfl
  have SK : Hid (∀ w', Below X.heap.size X w' → w'.cell? ⟨W1.heap.size, 0, none⟩ = some (.int .i64 (n : Int)) ∧ w'.cell? ⟨W1.heap.size, 1, none⟩ = some (.int .i64 (hh : Int)) ∧ w'.cell? ⟨W1.heap.size, 2, none⟩ = some (.slice (some ⟨g, 0, none⟩) L cap)) := fun w' h => ⟨cell_stay h g0, cell_stay h g1, cell_stay h g2⟩
  have b0 : Below X.heap.size X X.drew := (Below.refl _ _).drew
  have bF : Below X.heap.size X (X.alloc (.cells (falses n) 4)).drew := ((Below.refl _ _).alloc (Nat.le_refl _) _).drew
  have bZ : Below X.heap.size X (X.alloc (.cells #[.int .i64 0, .int .i64 0, .slice none 0 0, .int .i64 0, .int .i64 0, .bool false, .int .i64 0, .int .i64 0, .int .i64 0, .int .i64 0, .int .i64 0, .int .i64 0, .slice none 0 0, .int .i64 0, .int .i64 0, .int .i64 0, .int .i64 0, .int .i64 0, .int .i64 0, .int .i32 0, .string ⟨#[]⟩, .slice none 0 0] 32)).drew := ((Below.refl _ _).alloc (Nat.le_refl _) _).drew
  have bFZ : Below X.heap.size X ((X.alloc (.cells (falses n) 4)).alloc (.cells #[.int .i64 0, .int .i64 0, .slice none 0 0, .int .i64 0, .int .i64 0, .bool false, .int .i64 0, .int .i64 0, .int .i64 0, .int .i64 0, .int .i64 0, .int .i64 0, .slice none 0 0, .int .i64 0, .int .i64 0, .int .i64 0, .int .i64 0, .int .i64 0, .int .i64 0, .int .i32 0, .string ⟨#[]⟩, .slice none 0 0] 32)).drew := (((Below.refl _ _).alloc (Nat.le_refl _) _).alloc (by simp) _).drew
  have bZF : Below X.heap.size X ((X.alloc (.cells #[.int .i64 0, .int .i64 0, .slice none 0 0, .int .i64 0, .int .i64 0, .bool false, .int .i64 0, .int .i64 0, .int .i64 0, .int .i64 0, .int .i64 0, .int .i64 0, .slice none 0 0, .int .i64 0, .int .i64 0, .int .i64 0, .int .i64 0, .int .i64 0, .int .i64 0, .int .i32 0, .string ⟨#[]⟩, .slice none 0 0] 32)).alloc (.cells (falses n) 4)).drew := (((Below.refl _ _).alloc (Nat.le_refl _) _).alloc (by simp) _).drew
  go_cut [8] from 20 to 26 (fun c wx => ∃ R T, c = .pointer (some ⟨R, 0, none⟩) ∧ X.heap.size ≤ R ∧ X.heap.size ≤ T ∧ R ≠ T ∧ wx.heap[R]? = some (.cells (scrA (preScr (n : Int) (hh : Int) ((hh : Int) - 1)) (.slice (some ⟨g, 0, none⟩) L cap) (.slice (some ⟨T, 0, none⟩) n n) (.slice none 0 0)) 32 (0, 0)) ∧ wx.heap[T]? = some (.cells (falses n) 4 (0, 0)) ∧ Below X.heap.size X wx)
  case first =>
    go_region_held3 (fun w' => w'.cell? ⟨W1.heap.size, 0, none⟩ = some (.int .i64 (n : Int)) ∧ w'.cell? ⟨W1.heap.size, 1, none⟩ = some (.int .i64 (hh : Int)) ∧ w'.cell? ⟨W1.heap.size, 2, none⟩ = some (.slice (some ⟨g, 0, none⟩) L cap))
      (first | exact SK.out _ b0 | exact SK.out _ bF | exact SK.out _ bZ | exact SK.out _ bFZ | exact SK.out _ bZF | exact SK.out _ (below_setRow bFZ (Nat.le_succ _) _) | exact SK.out _ (below_setRow bZF (Nat.le_refl _) _)) (fail)
    all_goals go_wp2_with fail
    all_goals go_meet
    all_goals first
      | exact ⟨X.heap.size + 1, X.heap.size, rfl, Nat.le_succ _, Nat.le_refl _, Nat.succ_ne_self _, setRow_heap _ _ _ _ _ _ (show ((X.alloc (.cells (falses n) 4)).alloc (.cells #[.int .i64 0, .int .i64 0, .slice none 0 0, .int .i64 0, .int .i64 0, .bool false, .int .i64 0, .int .i64 0, .int .i64 0, .int .i64 0, .int .i64 0, .int .i64 0, .slice none 0 0, .int .i64 0, .int .i64 0, .int .i64 0, .int .i64 0, .int .i64 0, .int .i64 0, .int .i32 0, .string ⟨#[]⟩, .slice none 0 0] 32)).heap[X.heap.size + 1]? = _ from heap_alloc2_new X _ _), (setRow_other _ _ _ _ (Nat.ne_of_lt (Nat.lt_succ_self _))).trans (show ((X.alloc (.cells (falses n) 4)).alloc (.cells #[.int .i64 0, .int .i64 0, .slice none 0 0, .int .i64 0, .int .i64 0, .bool false, .int .i64 0, .int .i64 0, .int .i64 0, .int .i64 0, .int .i64 0, .int .i64 0, .slice none 0 0, .int .i64 0, .int .i64 0, .int .i64 0, .int .i64 0, .int .i64 0, .int .i64 0, .int .i32 0, .string ⟨#[]⟩, .slice none 0 0] 32)).heap[X.heap.size]? = _ from (Below.heap_alloc _ _ _ (by simp)).trans (heap_alloc_new _ _)), below_setRow bFZ (Nat.le_succ _) _⟩
      | exact ⟨X.heap.size, X.heap.size + 1, rfl, Nat.le_refl _, Nat.le_succ _, Nat.ne_of_lt (Nat.lt_succ_self _), setRow_heap _ _ _ _ _ _ (show ((X.alloc (.cells #[.int .i64 0, .int .i64 0, .slice none 0 0, .int .i64 0, .int .i64 0, .bool false, .int .i64 0, .int .i64 0, .int .i64 0, .int .i64 0, .int .i64 0, .int .i64 0, .slice none 0 0, .int .i64 0, .int .i64 0, .int .i64 0, .int .i64 0, .int .i64 0, .int .i64 0, .int .i32 0, .string ⟨#[]⟩, .slice none 0 0] 32)).alloc (.cells (falses n) 4)).heap[X.heap.size]? = _ from (Below.heap_alloc _ _ _ (by simp)).trans (heap_alloc_new _ _)), (setRow_other _ _ _ _ (Nat.succ_ne_self _)).trans (show ((X.alloc (.cells #[.int .i64 0, .int .i64 0, .slice none 0 0, .int .i64 0, .int .i64 0, .bool false, .int .i64 0, .int .i64 0, .int .i64 0, .int .i64 0, .int .i64 0, .int .i64 0, .slice none 0 0, .int .i64 0, .int .i64 0, .int .i64 0, .int .i64 0, .int .i64 0, .int .i64 0, .int .i32 0, .string ⟨#[]⟩, .slice none 0 0] 32)).alloc (.cells (falses n) 4)).heap[X.heap.size + 1]? = _ from heap_alloc2_new X _ _), below_setRow bZF (Nat.le_refl _) _⟩
  case rest =>
    obtain ⟨R, T, rfl, hR, hTT, hne, hxR, hxT, hbx⟩ := hcut
    have HXR : Hid _ := hxR
    have HXT : Hid (wc.heap[T]? = some (.cells (falses n) 4 (0, 0))) := hxT
    have HBX : Hid (Below X.heap.size X wc) := hbx
    clear p1 p2 b0 bF bZ bFZ bZF SK g0 g1 g2 hxR hxT hbx hms
    go_wp2_with fail
    go_loopg [9] (n + 8) (fun q i wr => ∃ x : Nat, i = .int .i64 (x : Int) ∧ x % 8 = 0 ∧ 8 ≤ x ∧ x ≤ n + 8 ∧ n + 8 - x ≤ q ∧ wr.heap[R]? = some (.cells (scrA (preScr (n : Int) (hh : Int) ((hh : Int) - 1)) (.slice (some ⟨g, 0, none⟩) L cap) (.slice (some ⟨T, 0, none⟩) n n) (.slice none 0 0)) 32 (0, 0)) ∧ wr.heap[T]? = some (.cells (tabsA n x) 4 (0, 0)) ∧ Below X.heap.size X wr)
    case atStart => exact ⟨8, rfl, by omega, by omega, by omega, by omega, HXR.out, by rw [tabsA_start]; exact HXT.out, HBX.out⟩
    case round =>
      obtain ⟨x, rfl, hx8, hx9, hx10, hq, hyR, hyT, hby⟩ := hrel
      have HYR : Hid (wr.heap[R]? = _) := hyR
      have HYT : Hid (wr.heap[T]? = some (.cells (tabsA n x) 4 (0, 0))) := hyT
      have HBY : Hid (Below X.heap.size X wr) := hby
      clear HXR HXT HBX
      by_cases hlt : x < n
      · have lt1 : ((x : Int) < (n : Int)) := by omega
        have c12 := (scr_cells hyR).2.1.2.1
        have d1 := tabsA_cell hyT hlt
        have f1 := frozen_cells hyT x
        clear hyR hyT hby
        go_wp2_with fail
        go_roundg (n + 8 - (x + 8))
        case measure => omega
        case rel => exact ⟨x + 8, by go_num, by omega, by omega, by omega, by omega, (store_off hne).trans HYR.out, store_at HYT.out (tabsA_set n x hx8 (by omega)), HBY.out.setCell hTT _⟩
      · have lt1 : ¬ ((x : Int) < (n : Int)) := by omega
        clear hyR hyT hby
        have hyZ : wr.heap[w.heap.size]? = _ := Grd.carry HX2.out HBY.out
        have HYZ : Hid _ := hyZ
        clear hyZ
        go_wp2_with (first
          | (refine wpList_load_row rfl 32 (.tmp 8) rfl R rfl _ _ _ _ HYR.out Tryd.underlying32 rfl (by kernel_rfl) ?_)
          | (refine wpList_store_row rfl 32 (.tmp 4) _ rfl w.heap.size (scrA (preScr (n : Int) (hh : Int) ((hh : Int) - 1)) (.slice (some ⟨g, 0, none⟩) L cap) (.slice (some ⟨T, 0, none⟩) n n) (.slice none 0 0)) rfl rfl _ _ HYZ.out (by kernel_rfl) rfl (scr_one _ _ _ _ _ _ _ _ _ _) ?_))
        (try simp only [Exit.inBlock, Exit.then])
        refine bodyPost_ret (v := .tuple #[.agg (scrA (preScr (n : Int) (hh : Int) ((hh : Int) - 1)) (.slice (some ⟨g, 0, none⟩) L cap) (.slice (some ⟨T, 0, none⟩) n n) (.slice none 0 0)), .int .i64 0]) ?_ rfl ⟨.slice (some ⟨g, 0, none⟩) L cap, .slice (some ⟨T, 0, none⟩) n n, .slice none 0 0, rfl, ?_, ?_⟩
        · exact Grd.results_row_tmp rfl _ _ w.heap.size _ _ _ _ rfl (setRow_heap _ _ _ _ _ _ HYZ.out) Tryd.underlying32 rfl (by kernel_rfl) _ rfl
        · have hw1 := hb1.size
          have hw2 := HBG.out.size
          have hw3 := heap_lt HX2.out
          have hbA : Below W1.heap.size W1 wr := HBG.out.trans (HBY.out.mono hw2)
          obtain ⟨g', cap', rest', t', hv', hg', hl', hm', hh'⟩ := HO.out
          injection hv' with hv1 hv2 hv3
          injection hv1 with hv1
          injection hv1 with hv1
          subst hv1 hv3
          have hg2 : w.heap.size < g := by simp at hg'; omega
          refine ⟨.inr ⟨g, cap, rest', t', ?_, by omega, ?_, hm', ?_⟩, ?_, [], World.ownsRow_nil _ _ _ _, rfl, fun i hi => absurd hi (by simp [newScr])⟩
          · show _ = Value.slice _ (List.replicate (n * hh) _).length _
            rw [List.length_replicate, HLL.out]
          · show (List.replicate (n * hh) _).length ≤ _
            rw [HLL.out]
            exact hl'
          · show _ = some (Obj.cells (flat (List.replicate (n * hh) _) ++ rest').toArray _ _)
            rw [HLL.out, setRow_other _ _ _ _ (by omega)]
            exact Grd.carry hh' hbA
          · show (wr.setRow _ _).ownsRow _ _ _ _ (newTabs n).length ((newTabs n).map Value.bool)
            have e := tabsL_all n x (by omega)
            have hlen : (newTabs n).length = n := by simp [newTabs]
            rw [hlen]
            refine ⟨by rw [List.length_map, hlen, Nat.mul_one], .inr ⟨T, n, tabsA n x, rfl, by omega, ?_, Nat.le_refl _, by unfold maxLen; omega, by simp [tabsA, tabsL], ?_⟩⟩
            · rw [setRow_other _ _ _ _ (by omega)]
              exact HYT.out
            · unfold tabsA
              rw [e]
              show List.take (n * 1) ((newTabs n).map Value.bool) = _
              rw [List.take_of_length_le (by rw [List.length_map, hlen, Nat.mul_one]; exact Nat.le_refl _)]
        · exact below_setRow (hb1.trans ((HBG.out.trans (HBY.out.mono HBG.out.size)).mono hb1.size)) (Nat.le_refl _) _
end
end Put
end Go.Proofs.YtnkeahfcpbepjaaDoor

/- One rune, where nothing rolls and nothing is moved to make room. -/
namespace Go.Proofs.YtnkeahfcpbepjaaDoor
open Go.ChangeShapes Go.WideShapes Go.ChangeAt Go.RowKit
namespace Put
open Grd (C SliceAt CellsAt gridErr z0 nilV flat rowsL)
open Sty (isSt)
open Txt (wd)
/-- Where a rune of k cells begins. -/
def startS (s : Scr) (k : Int) : Scr := if brkB s k then feedS { s with x := 0 } else s
def printP (q : Scr × List (List C)) (r : Int) : Scr × List (List C) :=
  ({ advS (startS q.1 (wd r)) (wd r) with last := r }, q.2.set (startS q.1 (wd r)).y.toNat (putRune ((startS q.1 (wd r)).sf, (startS q.1 (wd r)).sb, (startS q.1 (wd r)).sx) (q.2.getD (startS q.1 (wd r)).y.toNat []) (startS q.1 (wd r)).x.toNat r))
def stepOk (q : Scr × List (List C)) (r : Int) : Bool :=
  decide (wd r ≠ 0 ∧ wd r ≤ q.1.w ∧ 0 ≤ q.1.x ∧ q.1.x ≤ 120 ∧ 1 ≤ q.1.w ∧ q.1.w ≤ 120 ∧ 1 ≤ q.1.h ∧ q.1.h ≤ 60 ∧ 0 ≤ q.1.y ∧ q.1.y ≤ 60 ∧ (brkB q.1 (wd r) = true → q.1.y ≠ q.1.bot)) &&
  decide ((startS q.1 (wd r)).w = q.1.w ∧ 0 ≤ (startS q.1 (wd r)).x ∧ (startS q.1 (wd r)).x < q.1.w ∧ 0 ≤ (startS q.1 (wd r)).y ∧ (startS q.1 (wd r)).y.toNat < q.2.length ∧ fitsB (startS q.1 (wd r)) (wd r) = true ∧ hasB (startS q.1 (wd r)).modes 1 = false ∧
    ((q.2.getD (startS q.1 (wd r)).y.toNat []).length : Int) = q.1.w ∧ gridErr q.1.w 1 (q.2.getD (startS q.1 (wd r)).y.toNat []) = 0 ∧ isSt ((startS q.1 (wd r)).sf, (startS q.1 (wd r)).sb, (startS q.1 (wd r)).sx) = true)
theorem print_step (W : World) (M N p : Nat) (q : Scr × List (List C)) (r : Int) (hT : Txt.Tab W) (hN : ∀ X, Below N W X → Txt.Tab X) (hS : ShAt 109 W M N p q.1 q.2) (hok : stepOk q r = true) :
    Calls Tryd.prog 59 #[.pointer (some ⟨p, 0, none⟩), .int .i32 r] W (Ran W M N p (printP q r).1 (printP q r).2) := by
  unfold stepOk at hok
  rw [Bool.and_eq_true, decide_eq_true_eq, decide_eq_true_eq] at hok
  obtain ⟨⟨a1, a2, a3, a4, a5, a6, a7, a8, a9, a10, a11⟩, b1, b2, b3, b4, b5, b6, b7, b8, b9, b10⟩ := hok
  unfold printP
  obtain ⟨s1, hs1⟩ : ∃ s1, s1 = startS q.1 (wd r) := ⟨_, rfl⟩
  rw [← hs1] at b1 b2 b3 b4 b5 b6 b7 b8 b9 b10 ⊢
  refine print_main W M N p q.1 s1 q.2 q.2 q.2 _ r hT hS a1 a2 a3 a4 a5 a6 ⟨?_, ?_, b1, b2, by omega⟩ b6 (fun h => by rw [b7] at h; cases h) (fun _ => rfl) ?_
  · intro hb X _ hX
    have h := feed_plain X M N p { q.1 with x := 0 } q.2 hX a9 a10 a7 a8 (a11 hb)
    rw [hs1]
    unfold startS
    rw [hb]
    exact h
  · intro hb
    rw [hs1]
    unfold startS
    rw [hb]
    exact ⟨rfl, rfl⟩
  · intro X hX hSX
    exact write_any X M N p s1 q.2 (hN X hX) hSX r q.1.w.toNat s1.x.toNat s1.y.toNat b5 _ rfl (by omega) (by omega) (by omega) (by omega) (by omega) (by rw [Int.toNat_of_nonneg (by omega)]; exact b9) b10 a1 (by
      have h : wd r ≤ s1.w - s1.x := by simpa [fitsB] using b6
      omega)
end Put
end Go.Proofs.YtnkeahfcpbepjaaDoor

/- The closed fact of the laws on screens: three runes on two columns. -/
namespace Go.Proofs.YtnkeahfcpbepjaaDoor
set_option linter.unusedVariables false
open Go.ChangeShapes Go.WideShapes Go.ChangeAt Go.RowKit
namespace Put
open Grd (C SliceAt CellsAt gridErr z0 nilV flat rowsL)
open Txt (wd)
def abc : ByteArray := ⟨#[97, 98, 99]⟩
def stq : Nat → Scr × List (List C)
  | 0 => (newScr 2 2, rowsL 2 (newScr 2 2).cs 2)
  | 1 => printP (newScr 2 2, rowsL 2 (newScr 2 2).cs 2) 97
  | 2 => printP (printP (newScr 2 2, rowsL 2 (newScr 2 2).cs 2) 97) 98
  | _ => printP (printP (printP (newScr 2 2, rowsL 2 (newScr 2 2).cs 2) 97) 98) 99
theorem abc_runes : Txt.runes abc = [(97, 1), (98, 1), (99, 1)] := by decide +kernel
theorem ok0 : stepOk (stq 0) 97 = true := by decide +kernel
theorem ok1 : stepOk (stq 1) 98 = true := by decide +kernel
theorem ok2 : stepOk (stq 2) 99 = true := by decide +kernel
theorem new22_ok : scrErr (newScr 2 2) = 0 := by decide +kernel
theorem new22_grid : gridErr (2 : Nat) (2 : Nat) (newScr 2 2).cs = 0 := by decide +kernel
theorem new22_fits : Fits (newScr 2 2) := ⟨by decide, by decide, by decide, by decide, by decide, by decide, by decide +kernel⟩
theorem end_x : (stq 3).1.x = 1 := by decide +kernel
theorem end_y : (stq 3).1.y = 1 := by decide +kernel
theorem end_late : (stq 3).1.late = false := by decide +kernel
theorem end_last : (stq 3).1.last = 99 := by decide +kernel
def abcCs : List C := [(97, 0, 0, 0), (98, 0, 0, 0), (99, 0, 0, 0), (32, 0, 0, 0)]
theorem end_cs : (stq 3).2.flatten = abcCs := by decide +kernel
theorem end_rows : RowsOk (stq 3).1 (stq 3).2 := by
  have hl : (stq 3).2.length = 2 := by decide +kernel
  have hg : (stq 3).1.gone = [] := by decide +kernel
  have h0 : (stq 3).2.getD 0 [] ≠ [] := by decide +kernel
  have h1 : (stq 3).2.getD 1 [] ≠ [] := by decide +kernel
  refine ⟨by rw [hl]; omega, by rw [hl]; omega, fun i hi => ?_, by rw [end_cs]; decide, by rw [hg]; decide, fun i hi => by rw [hg] at hi; exact absurd hi (by simp)⟩
  rw [hl] at hi
  match i, hi with
  | 0, _ => exact h0
  | 1, _ => exact h1
theorem plain_text : Plain 58 := by
  intro args W
  kernel_rfl
theorem abc_does (B M : Nat) (w : World) (hT : Txt.Tab w) (hB : w.cell? ⟨B, 0, none⟩ = some (.string abc)) : Does 58 #[.pointer (some ⟨B, 0, none⟩)] M w (stq 0).1 (stq 3).1 (stq 0).2 (stq 3).2 := by
  have h := text1_does abc B M w stq hB
  rw [abc_runes] at h
  refine h ?_
  intro i hi X p hb hS
  have hTX := Grd.Tab.next hT hb
  have hN : ∀ Y, Below w.heap.size X Y → Txt.Tab Y := fun Y hY => Grd.Tab.next hT (hb.trans hY)
  match i, hi with
  | 0, _ => exact print_step X M w.heap.size p (stq 0) 97 hTX hN hS ok0
  | 1, _ => exact print_step X M w.heap.size p (stq 1) 98 hTX hN hS ok1
  | 2, _ => exact print_step X M w.heap.size p (stq 2) 99 hTX hN hS ok2
theorem abc_text (cv tv gv : Value) (w0 w : World) (hT : Txt.Tab w) (hV : ScrV w0 (newScr 2 2) cv tv gv) (hb0 : Below w0.heap.size w0 w) : Calls Tryd.prog 18 #[.agg (scrA (newScr 2 2) cv tv gv), .string abc] w (Made w0 w { (stq 3).1 with cs := abcCs } 0) := by
  have h := putText_any (newScr 2 2) { (stq 3).1 with cs := abcCs } cv tv gv abc (by decide) w0 w hT hV hb0 new22_fits
  rw [new22_ok] at h
  refine h fun W B hW hB => ?_
  exact change_good 2 2 (newScr 2 2) (stq 3).1 (stq 3).2 cv tv gv _ plain_text _ w0 W hV (hb0.trans (hW.mono hb0.size)) new22_fits rfl rfl new22_grid (fun w1 hw1 => abc_does B _ w1 (Grd.Tab.next (Grd.Tab.next hT hW) hw1) (cell_stay hw1 hB)) end_rows abcCs end_cs
set_option maxHeartbeats 4000000 in
set_option maxRecDepth 100000 in
theorem printed_any (w : World) (hT : Txt.Tab w) : Calls Tryd.prog 11 #[] w fun e w' => e = .returned (.bool true) ∧ Below w.heap.size w w' := by
  have HN := new_good' 2 2 w (by decide)
  have HT : Hid (∀ W, Below w.heap.size w W → Txt.Tab W) := fun W h => Grd.Tab.next hT h
  clear hT
  go_enter Tryd.func11, Tryd.ntmps11
  go_wp2_with fail
  refine HN.mono ?_
  rintro e W1 ⟨cv, tv, gv, rfl, hO, b1⟩
  obtain ⟨a1, n1, c1, a2, n2, c2, a3, n3, c3, rfl, rfl, rfl⟩ := hO.shapes
  generalize hs : newScr 2 2 = s at *
  have x1 := heap_alloc_new W1 (.cells #[.int .i64 0, .int .i64 0, .slice none 0 0, .int .i64 0, .int .i64 0, .bool false, .int .i64 0, .int .i64 0, .int .i64 0, .int .i64 0, .int .i64 0, .int .i64 0, .slice none 0 0, .int .i64 0, .int .i64 0, .int .i64 0, .int .i64 0, .int .i64 0, .int .i64 0, .int .i32 0, .string ⟨#[]⟩, .slice none 0 0] 32)
  have HX1 : Hid ((W1.alloc (.cells #[.int .i64 0, .int .i64 0, .slice none 0 0, .int .i64 0, .int .i64 0, .bool false, .int .i64 0, .int .i64 0, .int .i64 0, .int .i64 0, .int .i64 0, .int .i64 0, .slice none 0 0, .int .i64 0, .int .i64 0, .int .i64 0, .int .i64 0, .int .i64 0, .int .i64 0, .int .i32 0, .string ⟨#[]⟩, .slice none 0 0] 32)).heap[W1.heap.size]? = _) := x1
  have HV : Hid (ScrV W1 s _ _ _) := hO.scr
  have HB1 : Hid (Below w.heap.size w W1) := b1
  clear HN hO b1 x1
  go_upto_region 2 with (refine wpList_store_row rfl 32 (.tmp 1) _ rfl W1.heap.size (scrA s (.slice a1 n1 c1) (.slice a2 n2 c2) (.slice a3 n3 c3)) rfl rfl _ _ HX1.out (by kernel_rfl) rfl (scr_one _ _ _ _ _ _ _ _ _ _) ?_)
  have HX2 : Hid (((W1.alloc (.cells #[.int .i64 0, .int .i64 0, .slice none 0 0, .int .i64 0, .int .i64 0, .bool false, .int .i64 0, .int .i64 0, .int .i64 0, .int .i64 0, .int .i64 0, .int .i64 0, .slice none 0 0, .int .i64 0, .int .i64 0, .int .i64 0, .int .i64 0, .int .i64 0, .int .i64 0, .int .i32 0, .string ⟨#[]⟩, .slice none 0 0] 32)).setRow W1.heap.size (scrA s (.slice a1 n1 c1) (.slice a2 n2 c2) (.slice a3 n3 c3))).heap[W1.heap.size]? = some (.cells (scrA s (.slice a1 n1 c1) (.slice a2 n2 c2) (.slice a3 n3 c3)) 32 (0, 0))) := setRow_heap _ _ _ _ _ _ HX1.out
  have HBX : Hid (Below W1.heap.size W1 ((W1.alloc (.cells #[.int .i64 0, .int .i64 0, .slice none 0 0, .int .i64 0, .int .i64 0, .bool false, .int .i64 0, .int .i64 0, .int .i64 0, .int .i64 0, .int .i64 0, .int .i64 0, .slice none 0 0, .int .i64 0, .int .i64 0, .int .i64 0, .int .i64 0, .int .i64 0, .int .i64 0, .int .i32 0, .string ⟨#[]⟩, .slice none 0 0] 32)).setRow W1.heap.size (scrA s (.slice a1 n1 c1) (.slice a2 n2 c2) (.slice a3 n3 c3)))) := below_setRow ((Below.refl _ _).alloc (Nat.le_refl _) _) (Nat.le_refl _) _
  have HHS : Hid (newScr 2 2 = s) := hs
  clear HX1 hs
  generalize ((W1.alloc (.cells #[.int .i64 0, .int .i64 0, .slice none 0 0, .int .i64 0, .int .i64 0, .bool false, .int .i64 0, .int .i64 0, .int .i64 0, .int .i64 0, .int .i64 0, .int .i64 0, .slice none 0 0, .int .i64 0, .int .i64 0, .int .i64 0, .int .i64 0, .int .i64 0, .int .i64 0, .int .i32 0, .string ⟨#[]⟩, .slice none 0 0] 32)).setRow W1.heap.size (scrA s (.slice a1 n1 c1) (.slice a2 n2 c2) (.slice a3 n3 c3))) = X at *
  have HTX : Calls Tryd.prog 18 #[.agg (scrA s (.slice a1 n1 c1) (.slice a2 n2 c2) (.slice a3 n3 c3)), .string ⟨#[97, 98, 99]⟩] X (Made W1 X { (stq 3).1 with cs := abcCs } 0) := by
    have hv := HV.out
    rw [← HHS.out] at hv ⊢
    exact abc_text _ _ _ W1 X (HT.out X (HB1.out.trans (HBX.out.mono HB1.out.size))) hv HBX.out
  have h1 := end_x
  have h2 := end_y
  have h3 := end_late
  have h4 := end_last
  obtain ⟨s2, hs2⟩ : ∃ s2 : Scr, s2 = { (stq 3).1 with cs := abcCs } := ⟨_, rfl⟩
  have k1 : s2.x = 1 := by rw [hs2]; exact h1
  have k2 : s2.y = 1 := by rw [hs2]; exact h2
  have k3 : s2.late = false := by rw [hs2]; exact h3
  have k4 : s2.last = 99 := by rw [hs2]; exact h4
  have k5 : s2.cs = abcCs := by rw [hs2]
  rw [← hs2] at HTX
  have K : Hid (s2.x = 1 ∧ s2.y = 1 ∧ s2.late = false ∧ s2.last = 99 ∧ s2.cs = abcCs) := ⟨k1, k2, k3, k4, k5⟩
  clear h1 h2 h3 h4 hs2 k1 k2 k3 k4 k5
  go_wp2_with (refine wpList_load_row rfl 32 (.tmp 1) rfl W1.heap.size rfl _ _ _ _ HX2.out Tryd.underlying32 rfl (by kernel_rfl) ?_)
  refine HTX.mono ?_
  rintro e W2 ⟨cv', tv', gv', rfl, hO, b2⟩
  obtain ⟨a4, n4, c4, a5, n5, c5, a6, n6, c6, -, rfl, rfl⟩ := hO.shapes
  have hc := hO.c
  rw [K.out.2.2.2.2] at hc
  rcases hc with ⟨he, -⟩ | ⟨g, cap, rest, t, hv, hg, hl, hm, hh⟩
  · exact absurd he (by decide)
  subst hv
  have x2 := heap_alloc_new W2 (.cells #[.int .i64 0, .int .i64 0, .slice none 0 0, .int .i64 0, .int .i64 0, .bool false, .int .i64 0, .int .i64 0, .int .i64 0, .int .i64 0, .int .i64 0, .int .i64 0, .slice none 0 0, .int .i64 0, .int .i64 0, .int .i64 0, .int .i64 0, .int .i64 0, .int .i64 0, .int .i32 0, .string ⟨#[]⟩, .slice none 0 0] 32)
  have HX3 : Hid ((W2.alloc (.cells #[.int .i64 0, .int .i64 0, .slice none 0 0, .int .i64 0, .int .i64 0, .bool false, .int .i64 0, .int .i64 0, .int .i64 0, .int .i64 0, .int .i64 0, .int .i64 0, .slice none 0 0, .int .i64 0, .int .i64 0, .int .i64 0, .int .i64 0, .int .i64 0, .int .i64 0, .int .i32 0, .string ⟨#[]⟩, .slice none 0 0] 32)).heap[W2.heap.size]? = _) := x2
  have HX4 : Hid (((W2.alloc (.cells #[.int .i64 0, .int .i64 0, .slice none 0 0, .int .i64 0, .int .i64 0, .bool false, .int .i64 0, .int .i64 0, .int .i64 0, .int .i64 0, .int .i64 0, .int .i64 0, .slice none 0 0, .int .i64 0, .int .i64 0, .int .i64 0, .int .i64 0, .int .i64 0, .int .i64 0, .int .i32 0, .string ⟨#[]⟩, .slice none 0 0] 32)).setRow W2.heap.size (scrA s2 (.slice (some ⟨g, 0, none⟩) 4 cap) (.slice a5 n5 c5) (.slice a6 n6 c6))).heap[W2.heap.size]? = some (.cells (scrA s2 (.slice (some ⟨g, 0, none⟩) 4 cap) (.slice a5 n5 c5) (.slice a6 n6 c6)) 32 (0, 0))) := setRow_heap _ _ _ _ _ _ HX3.out
  have hb2 : Below w.heap.size w W2 := (HB1.out.trans (HBX.out.mono HB1.out.size)).trans (b2.mono (HB1.out.trans (HBX.out.mono HB1.out.size)).size)
  have HBY : Hid (Below w.heap.size w ((W2.alloc (.cells #[.int .i64 0, .int .i64 0, .slice none 0 0, .int .i64 0, .int .i64 0, .bool false, .int .i64 0, .int .i64 0, .int .i64 0, .int .i64 0, .int .i64 0, .int .i64 0, .slice none 0 0, .int .i64 0, .int .i64 0, .int .i64 0, .int .i64 0, .int .i64 0, .int .i64 0, .int .i32 0, .string ⟨#[]⟩, .slice none 0 0] 32)).setRow W2.heap.size (scrA s2 (.slice (some ⟨g, 0, none⟩) 4 cap) (.slice a5 n5 c5) (.slice a6 n6 c6)))) := below_setRow (hb2.alloc hb2.size _) hb2.size _
  have HG : Hid (CellsAt ((W2.alloc (.cells #[.int .i64 0, .int .i64 0, .slice none 0 0, .int .i64 0, .int .i64 0, .bool false, .int .i64 0, .int .i64 0, .int .i64 0, .int .i64 0, .int .i64 0, .int .i64 0, .slice none 0 0, .int .i64 0, .int .i64 0, .int .i64 0, .int .i64 0, .int .i64 0, .int .i64 0, .int .i32 0, .string ⟨#[]⟩, .slice none 0 0] 32)).setRow W2.heap.size (scrA s2 (.slice (some ⟨g, 0, none⟩) 4 cap) (.slice a5 n5 c5) (.slice a6 n6 c6))) g 0 abcCs) := by
    refine Grd.cellsAt_flat (t := t) (rest := rest) ?_
    rw [setRow_other _ _ _ _ (Nat.ne_of_lt (heap_lt hh)), Below.heap_alloc _ _ _ (heap_lt hh)]
    exact hh
  clear HTX hO b2 x2 hh hb2 HX2 HBX HB1 HV
  go_upto_region 3 with (refine wpList_store_row rfl 32 (.tmp 3) _ rfl W2.heap.size (scrA s2 (.slice (some ⟨g, 0, none⟩) 4 cap) (.slice a5 n5 c5) (.slice a6 n6 c6)) rfl rfl _ _ HX3.out (by kernel_rfl) rfl (scr_one _ _ _ _ _ _ _ _ _ _) ?_)
  clear HX3
  generalize ((W2.alloc (.cells #[.int .i64 0, .int .i64 0, .slice none 0 0, .int .i64 0, .int .i64 0, .bool false, .int .i64 0, .int .i64 0, .int .i64 0, .int .i64 0, .int .i64 0, .int .i64 0, .slice none 0 0, .int .i64 0, .int .i64 0, .int .i64 0, .int .i64 0, .int .i64 0, .int .i64 0, .int .i32 0, .string ⟨#[]⟩, .slice none 0 0] 32)).setRow W2.heap.size (scrA s2 (.slice (some ⟨g, 0, none⟩) 4 cap) (.slice a5 n5 c5) (.slice a6 n6 c6))) = Y at *
  obtain ⟨⟨-, -, d2, d3, d4, d5, -⟩, ⟨-, -, -, -, -, -, -, -, d19, -⟩, -⟩ := scr_cells HX4.out
  rw [K.out.1] at d3
  rw [K.out.2.1] at d4
  rw [K.out.2.2.1] at d5
  rw [K.out.2.2.2.1] at d19
  obtain ⟨e8, -⟩ := HG.out 2 (by decide)
  have e8' : Y.cell? ⟨g, 8, none⟩ = some (.int .i32 99) := e8
  clear e8
  go_wp2_with fail
  go_ret
  exact ⟨rfl, HBY.out⟩
end Put
end Go.Proofs.YtnkeahfcpbepjaaDoor
