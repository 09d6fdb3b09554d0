/- The law ShiftLines. (Written by gen_shiftlines.py.) -/
import Derived.Test.YtjmiifegjghliaaGreatDoorPartQ
namespace Go.Proofs.YtjmiifegjghliaaGreatDoor
open Go.ChangeShapes Go.WideShapes Go.ChangeAt Go.RowKit
namespace Put
open Grd (C SliceAt CellsAt gridErr z0 nilV flat rowsL)
/-- What rows that move leave as it is. -/
structure KeepsR (s : Scr) (n hh : Nat) (x : Scr × List (List C)) : Prop where
  w : x.1.w = s.w
  h : x.1.h = s.h
  t : x.1.tabs = s.tabs
  g : x.1.gone.length ≤ 50
  gr : ∀ r, r ∈ x.1.gone → r.length ≤ 120
  r : x.2.length = hh
  rn : ∀ i, i < x.2.length → (x.2.getD i []).length = n
theorem KeepsR.up {s : Scr} {n hh : Nat} {x : Scr × List (List C)} (h : KeepsR s n hh x) (hn : n ≤ 120) (top bot : Nat) (keep : Bool) (ht : top < hh) (hb : bot < hh) : KeepsR s n hh (rUp n top bot keep x) := by
  have hr := h.r
  have e1 : (replR x.2 n x.1.sb top bot).length = hh := by rw [replR_len _ _ _ _ _ (by omega) (by omega), hr]
  have e2 : ∀ i, i < (replR x.2 n x.1.sb top bot).length → ((replR x.2 n x.1.sb top bot).getD i []).length = n := fun i hi => replR_row _ _ _ _ _ (by omega) (by omega) h.rn i (by omega)
  unfold rUp
  split
  · refine ⟨h.w, h.h, h.t, keepG_len _ _ h.g, fun r hm => ?_, e1, e2⟩
    rcases keepG_mem hm with q | q
    · exact h.gr r q
    · rw [q, h.rn 0 (by omega)]
      exact hn
  · exact ⟨h.w, h.h, h.t, h.g, h.gr, e1, e2⟩
theorem KeepsR.dn {s : Scr} {n hh : Nat} {x : Scr × List (List C)} (h : KeepsR s n hh x) (top bot : Nat) (ht : top < hh) (hb : bot < hh) : KeepsR s n hh (rDn n top bot x) := by
  have hr := h.r
  exact ⟨h.w, h.h, h.t, h.g, h.gr, by show (replR x.2 n x.1.sb bot top).length = hh; rw [replR_len _ _ _ _ _ (by omega) (by omega), hr], fun i hi => replR_row _ _ _ _ _ (by omega) (by omega) h.rn i (by have : (replR x.2 n x.1.sb bot top).length = x.2.length := replR_len _ _ _ _ _ (by omega) (by omega); have hi : i < (replR x.2 n x.1.sb bot top).length := hi; omega)⟩
theorem KeepsR.iter {s : Scr} {n hh : Nat} {f : Scr × List (List C) → Scr × List (List C)} (hf : ∀ x, KeepsR s n hh x → KeepsR s n hh (f x)) (x : Scr × List (List C)) (h : KeepsR s n hh x) : ∀ j, KeepsR s n hh (iterN f j x)
  | 0 => h
  | j + 1 => hf _ (KeepsR.iter hf x h j)
theorem KeepsR.start {s s1 : Scr} {n hh : Nat} (hR : RightS s n hh) (hw : s1.w = s.w) (hh' : s1.h = s.h) (ht : s1.tabs = s.tabs) (hg : s1.gone = s.gone) : KeepsR s n hh (s1, rowsL n s.cs hh) :=
  ⟨hw, hh', ht, by show s1.gone.length ≤ 50; rw [hg]; exact hR.gl, by show ∀ r, r ∈ s1.gone → r.length ≤ 120; rw [hg]; exact gone_le120 hR, Grd.rowsL_len _ _ _, rowsL_row hR⟩
theorem KeepsR.ok {s : Scr} {n hh : Nat} {x : Scr × List (List C)} (h : KeepsR s n hh x) (hR : RightS s n hh) : RowsOk x.1 x.2 := rowsOk hR _ _ h.r h.rn (by have := h.g; omega) (rows_le h.gr)
theorem KeepsR.agree {s : Scr} {n hh : Nat} {x : Scr × List (List C)} (h : KeepsR s n hh x) (hR : RightS s n hh) {what : ByteArray} {a b : Int} (hA : ActMakes what a b s x.1 (rowsL n s.cs hh) x.2) : Agrees what a b s { x.1 with cs := x.2.flatten } n hh := by
  refine ⟨smallNew hR _ h.r h.rn h.t rfl h.g h.gr, _, _, hA, h.r, h.rn, ?_⟩
  have q1 : (n : Int) = x.1.w := by rw [h.w, hR.w]
  have q2 : (hh : Int) = x.1.h := by rw [h.h, hR.h]
  rw [q1, q2]
theorem rolls_of {s : Scr} {n hh bot : Nat} (hR : RightS s n hh) (hb : s.bot = bot) : Rolls n bot hh s.sb (s, rowsL n s.cs hh) := ⟨hR.w, hb, rfl, Grd.rowsL_len _ _ _, hR.gl⟩
theorem plain_supc : Plain 39 := by
  intro args W
  kernel_rfl
theorem plainF_sup : Plain 16 := by
  intro args W
  kernel_rfl
theorem sup_any {w0 w : World} {s : Scr} {cv tv gv : Value} {n hh : Nat} (h : Met w0 w s cv tv gv) (hR : RightS s n hh) (top bot : Nat) (ht : s.top = top) (hb : s.bot = bot) (k : Int) : Calls Tryz.prog 16 #[.agg (scrA s cv tv gv), .int .i64 k] w (Made w0 w { (iterN (rUp n top bot true) (oftK k top bot) (s, rowsL n s.cs hh)).1 with cs := (iterN (rUp n top bot true) (oftK k top bot) (s, rowsL n s.cs hh)).2.flatten } 0) := by
  have n1 := hR.n1
  have n2 := hR.n2
  have h2 := hR.h2
  have t1 := hR.t1
  have t2 := hR.t2
  have hK := KeepsR.iter (f := rUp n top bot true) (fun x hx => hx.up hR.n2 top bot true (by omega) (by omega)) (s, rowsL n s.cs hh) (KeepsR.start hR rfl rfl rfl rfl) (oftK k top bot)
  exact shiftUp_calls s _ cv tv gv k 0 w0 w h.v h.b.size fun _ B hW hB => sc_good (h.next hW) hR _ plain_supc _ _ _ (fun w1 hw1 => upc_does k B _ w1 s _ n top bot hh (cell_stay hw1 hB) (rolls_of hR hb) ht n1 n2 (by omega) (by omega) h2) (hK.ok hR) rfl
theorem sup_bad {w0 w : World} {s : Scr} {cv tv gv : Value} (h : Met w0 w s cv tv gv) (hz : scrErr s ≠ 0) (k : Int) : Calls Tryz.prog 16 #[.agg (scrA s cv tv gv), .int .i64 k] w (Made w0 w zScr (scrErr s)) :=
  shiftUp_calls s zScr cv tv gv k (scrErr s) w0 w h.v h.b.size fun _ _ hW _ => sc_bad (h.next hW) hz _ _
theorem sup_law (s : Scr) (cv tv gv : Value) (k : Int) (w : World) (hT : Txt.Tab w) (hV : ScrV w s cv tv gv) (hB : Bulk s) :
    Calls Tryz.prog 13 #[.agg (scrA s cv tv gv), .func (.func 16) #[] #[], .string ⟨#[114, 111, 108, 108, 117, 112]⟩, .int .i64 k] w fun e w' => e = .returned (.bool true) ∧ Below w.heap.size w w' :=
  one_any s cv tv gv _ plainF_sup _ k w hT hV hB { (iterN (rUp s.w.toNat s.top.toNat s.bot.toNat true) (oftK k s.top.toNat s.bot.toNat) (s, rowsL s.w.toNat s.cs s.h.toNat)).1 with cs := (iterN (rUp s.w.toNat s.top.toNat s.bot.toNat true) (oftK k s.top.toNat s.bot.toNat) (s, rowsL s.w.toNat s.cs s.h.toNat)).2.flatten } (fun hz _ _ _ _ _ hm => sup_bad hm hz k) fun n hh hR => by
    have e1 : s.w.toNat = n := by rw [hR.w]; rfl
    have e2 : s.h.toNat = hh := by rw [hR.h]; rfl
    have t0 := hR.t0
    have t1 := hR.t1
    have t2 := hR.t2
    have n1 := hR.n1
    have n2 := hR.n2
    have h2 := hR.h2
    have ht : s.top = (s.top.toNat : Int) := by omega
    have hb : s.bot = (s.bot.toNat : Int) := by omega
    rw [e1, e2]
    generalize s.top.toNat = top at *
    generalize s.bot.toNat = bot at *
    exact ⟨fun _ _ _ _ _ hm => sup_any hm hR _ _ ht hb k, (KeepsR.iter (f := rUp n top bot true) (fun x hx => hx.up hR.n2 top bot true (by omega) (by omega)) (s, rowsL n s.cs hh) (KeepsR.start hR rfl rfl rfl rfl) (oftK k top bot)).agree hR (act_rollup k 0 s _ n top bot hh (rolls_of hR hb) ht n1 n2 (by omega) (by omega) h2)⟩
theorem plain_sdownc : Plain 42 := by
  intro args W
  kernel_rfl
theorem plainF_sdown : Plain 17 := by
  intro args W
  kernel_rfl
theorem sdown_any {w0 w : World} {s : Scr} {cv tv gv : Value} {n hh : Nat} (h : Met w0 w s cv tv gv) (hR : RightS s n hh) (top bot : Nat) (ht : s.top = top) (hb : s.bot = bot) (k : Int) : Calls Tryz.prog 17 #[.agg (scrA s cv tv gv), .int .i64 k] w (Made w0 w { (iterN (rDn n top bot) (oftK k top bot) (s, rowsL n s.cs hh)).1 with cs := (iterN (rDn n top bot) (oftK k top bot) (s, rowsL n s.cs hh)).2.flatten } 0) := by
  have n1 := hR.n1
  have n2 := hR.n2
  have h2 := hR.h2
  have t1 := hR.t1
  have t2 := hR.t2
  have hK := KeepsR.iter (f := rDn n top bot) (fun x hx => hx.dn top bot (by omega) (by omega)) (s, rowsL n s.cs hh) (KeepsR.start hR rfl rfl rfl rfl) (oftK k top bot)
  exact shiftDown_calls s _ cv tv gv k 0 w0 w h.v h.b.size fun _ B hW hB => sc_good (h.next hW) hR _ plain_sdownc _ _ _ (fun w1 hw1 => downc_does k B _ w1 s _ n top bot hh (cell_stay hw1 hB) (rolls_of hR hb) ht n1 n2 (by omega) (by omega) h2) (hK.ok hR) rfl
theorem sdown_bad {w0 w : World} {s : Scr} {cv tv gv : Value} (h : Met w0 w s cv tv gv) (hz : scrErr s ≠ 0) (k : Int) : Calls Tryz.prog 17 #[.agg (scrA s cv tv gv), .int .i64 k] w (Made w0 w zScr (scrErr s)) :=
  shiftDown_calls s zScr cv tv gv k (scrErr s) w0 w h.v h.b.size fun _ _ hW _ => sc_bad (h.next hW) hz _ _
theorem sdown_law (s : Scr) (cv tv gv : Value) (k : Int) (w : World) (hT : Txt.Tab w) (hV : ScrV w s cv tv gv) (hB : Bulk s) :
    Calls Tryz.prog 13 #[.agg (scrA s cv tv gv), .func (.func 17) #[] #[], .string ⟨#[114, 111, 108, 108, 100, 111, 119, 110]⟩, .int .i64 k] w fun e w' => e = .returned (.bool true) ∧ Below w.heap.size w w' :=
  one_any s cv tv gv _ plainF_sdown _ k w hT hV hB { (iterN (rDn s.w.toNat s.top.toNat s.bot.toNat) (oftK k s.top.toNat s.bot.toNat) (s, rowsL s.w.toNat s.cs s.h.toNat)).1 with cs := (iterN (rDn s.w.toNat s.top.toNat s.bot.toNat) (oftK k s.top.toNat s.bot.toNat) (s, rowsL s.w.toNat s.cs s.h.toNat)).2.flatten } (fun hz _ _ _ _ _ hm => sdown_bad hm hz k) fun n hh hR => by
    have e1 : s.w.toNat = n := by rw [hR.w]; rfl
    have e2 : s.h.toNat = hh := by rw [hR.h]; rfl
    have t0 := hR.t0
    have t1 := hR.t1
    have t2 := hR.t2
    have n1 := hR.n1
    have n2 := hR.n2
    have h2 := hR.h2
    have ht : s.top = (s.top.toNat : Int) := by omega
    have hb : s.bot = (s.bot.toNat : Int) := by omega
    rw [e1, e2]
    generalize s.top.toNat = top at *
    generalize s.bot.toNat = bot at *
    exact ⟨fun _ _ _ _ _ hm => sdown_any hm hR _ _ ht hb k, (KeepsR.iter (f := rDn n top bot) (fun x hx => hx.dn top bot (by omega) (by omega)) (s, rowsL n s.cs hh) (KeepsR.start hR rfl rfl rfl rfl) (oftK k top bot)).agree hR (act_rolldown k 0 s _ n top bot hh (rolls_of hR hb) ht n1 n2 (by omega) (by omega) h2)⟩
theorem plain_lines : Plain 69 := by
  intro args W
  kernel_rfl
def insZ (s : Scr) (k : Int) (n hh bot : Nat) : Scr × List (List C) := (if s.top ≤ s.y ∧ s.y ≤ s.bot then iterN (rDn n s.y.toNat bot) (oftK k s.y.toNat bot) ({ s with x := 0, late := false }, rowsL n s.cs hh) else (s, rowsL n s.cs hh))
theorem insZ_eq (s : Scr) (k : Int) (n hh bot : Nat) : (insZ s k n hh bot).1 = (if s.top ≤ s.y ∧ s.y ≤ s.bot then (iterN (rDn n s.y.toNat bot) (oftK k s.y.toNat bot) ({ s with x := 0, late := false }, rowsL n s.cs hh)).1 else s) ∧ (insZ s k n hh bot).2 = (if s.top ≤ s.y ∧ s.y ≤ s.bot then (iterN (rDn n s.y.toNat bot) (oftK k s.y.toNat bot) ({ s with x := 0, late := false }, rowsL n s.cs hh)).2 else rowsL n s.cs hh) := by
  unfold insZ
  split <;> exact ⟨rfl, rfl⟩
theorem insZ_keeps {s : Scr} {n hh : Nat} (hR : RightS s n hh) (k : Int) (bot : Nat) (hb : s.bot = bot) : KeepsR s n hh (insZ s k n hh bot) := by
  have t2 := hR.t2
  have y0 := hR.y0
  have y1 := hR.y1
  unfold insZ
  split
  · exact KeepsR.iter (f := rDn n s.y.toNat bot) (fun x hx => hx.dn s.y.toNat bot (by omega) (by omega)) ({ s with x := 0, late := false }, rowsL n s.cs hh) (KeepsR.start hR rfl rfl rfl rfl) _
  · exact KeepsR.start hR rfl rfl rfl rfl
theorem plainF_ins : Plain 14 := by
  intro args W
  kernel_rfl
theorem ins_any {w0 w : World} {s : Scr} {cv tv gv : Value} {n hh : Nat} (h : Met w0 w s cv tv gv) (hR : RightS s n hh) (bot : Nat) (hb : s.bot = bot) (k : Int) : Calls Tryz.prog 14 #[.agg (scrA s cv tv gv), .int .i64 k] w (Made w0 w { (insZ s k n hh bot).1 with cs := (insZ s k n hh bot).2.flatten } 0) := by
  have n1 := hR.n1
  have n2 := hR.n2
  have h2 := hR.h2
  have t2 := hR.t2
  have y0 := hR.y0
  have y1 := hR.y1
  have hbh : bot < hh := by omega
  have hK := insZ_keeps hR k bot hb
  refine insl_calls s _ cv tv gv k 0 w0 w h.v h.b.size fun W hW => ?_
  refine lines_calls s _ cv tv gv k _ 0 w0 W h.v (Nat.le_trans h.b.size hW.size) fun V B1 B2 hV hB1 hB2 => ?_
  refine sc_good ((h.next hW).next hV) hR _ plain_lines _ _ _ (fun w1 hw1 => ?_) (hK.ok hR) rfl
  rw [(insZ_eq s k n hh bot).1, (insZ_eq s k n hh bot).2]
  exact lines_does _ plain_down (fun y => rDn n y bot) k B1 B2 _ w1 s _ n bot hh (cell_stay hw1 hB1) (cell_stay hw1 hB2) (rolls_of hR hb) hbh h2 (fun y hy x hx => hx.dn y (by omega) hbh) (fun y hy N p => step_down _ N p n y bot hh s.sb n1 n2 hy hbh h2) y0 (by omega) hb
theorem ins_bad {w0 w : World} {s : Scr} {cv tv gv : Value} (h : Met w0 w s cv tv gv) (hz : scrErr s ≠ 0) (k : Int) : Calls Tryz.prog 14 #[.agg (scrA s cv tv gv), .int .i64 k] w (Made w0 w zScr (scrErr s)) :=
  insl_calls s zScr cv tv gv k (scrErr s) w0 w h.v h.b.size fun W hW => lines_calls s zScr cv tv gv k _ (scrErr s) w0 W h.v (Nat.le_trans h.b.size hW.size) fun _ _ _ hV _ _ => sc_bad ((h.next hW).next hV) hz _ _
theorem ins_law (s : Scr) (cv tv gv : Value) (k : Int) (w : World) (hT : Txt.Tab w) (hV : ScrV w s cv tv gv) (hB : Bulk s) :
    Calls Tryz.prog 13 #[.agg (scrA s cv tv gv), .func (.func 14) #[] #[], .string ⟨#[105, 110, 115, 101, 114, 116, 108, 105, 110, 101, 115]⟩, .int .i64 k] w fun e w' => e = .returned (.bool true) ∧ Below w.heap.size w w' :=
  one_any s cv tv gv _ plainF_ins _ k w hT hV hB { (insZ s k s.w.toNat s.h.toNat s.bot.toNat).1 with cs := (insZ s k s.w.toNat s.h.toNat s.bot.toNat).2.flatten } (fun hz _ _ _ _ _ hm => ins_bad hm hz k) fun n hh hR => by
    have e1 : s.w.toNat = n := by rw [hR.w]; rfl
    have e2 : s.h.toNat = hh := by rw [hR.h]; rfl
    have t0 := hR.t0
    have t1 := hR.t1
    have t2 := hR.t2
    have n1 := hR.n1
    have n2 := hR.n2
    have h2 := hR.h2
    have y0 := hR.y0
    have hb : s.bot = (s.bot.toNat : Int) := by omega
    rw [e1, e2]
    generalize s.bot.toNat = bot at *
    refine ⟨fun _ _ _ _ _ hm => ins_any hm hR _ hb k, (insZ_keeps hR k bot hb).agree hR ?_⟩
    rw [(insZ_eq s k n hh bot).1, (insZ_eq s k n hh bot).2]
    exact act_inslines k 0 s _ n bot hh (rolls_of hR hb) n1 n2 (by omega) h2 y0
def delZ (s : Scr) (k : Int) (n hh bot : Nat) : Scr × List (List C) := (if s.top ≤ s.y ∧ s.y ≤ s.bot then iterN (rUp n s.y.toNat bot false) (oftK k s.y.toNat bot) ({ s with x := 0, late := false }, rowsL n s.cs hh) else (s, rowsL n s.cs hh))
theorem delZ_eq (s : Scr) (k : Int) (n hh bot : Nat) : (delZ s k n hh bot).1 = (if s.top ≤ s.y ∧ s.y ≤ s.bot then (iterN (rUp n s.y.toNat bot false) (oftK k s.y.toNat bot) ({ s with x := 0, late := false }, rowsL n s.cs hh)).1 else s) ∧ (delZ s k n hh bot).2 = (if s.top ≤ s.y ∧ s.y ≤ s.bot then (iterN (rUp n s.y.toNat bot false) (oftK k s.y.toNat bot) ({ s with x := 0, late := false }, rowsL n s.cs hh)).2 else rowsL n s.cs hh) := by
  unfold delZ
  split <;> exact ⟨rfl, rfl⟩
theorem delZ_keeps {s : Scr} {n hh : Nat} (hR : RightS s n hh) (k : Int) (bot : Nat) (hb : s.bot = bot) : KeepsR s n hh (delZ s k n hh bot) := by
  have t2 := hR.t2
  have y0 := hR.y0
  have y1 := hR.y1
  unfold delZ
  split
  · exact KeepsR.iter (f := rUp n s.y.toNat bot false) (fun x hx => hx.up hR.n2 s.y.toNat bot false (by omega) (by omega)) ({ s with x := 0, late := false }, rowsL n s.cs hh) (KeepsR.start hR rfl rfl rfl rfl) _
  · exact KeepsR.start hR rfl rfl rfl rfl
theorem plainF_del : Plain 15 := by
  intro args W
  kernel_rfl
theorem del_any {w0 w : World} {s : Scr} {cv tv gv : Value} {n hh : Nat} (h : Met w0 w s cv tv gv) (hR : RightS s n hh) (bot : Nat) (hb : s.bot = bot) (k : Int) : Calls Tryz.prog 15 #[.agg (scrA s cv tv gv), .int .i64 k] w (Made w0 w { (delZ s k n hh bot).1 with cs := (delZ s k n hh bot).2.flatten } 0) := by
  have n1 := hR.n1
  have n2 := hR.n2
  have h2 := hR.h2
  have t2 := hR.t2
  have y0 := hR.y0
  have y1 := hR.y1
  have hbh : bot < hh := by omega
  have hK := delZ_keeps hR k bot hb
  refine dell_calls s _ cv tv gv k 0 w0 w h.v h.b.size fun W hW => ?_
  refine lines_calls s _ cv tv gv k _ 0 w0 W h.v (Nat.le_trans h.b.size hW.size) fun V B1 B2 hV hB1 hB2 => ?_
  refine sc_good ((h.next hW).next hV) hR _ plain_lines _ _ _ (fun w1 hw1 => ?_) (hK.ok hR) rfl
  rw [(delZ_eq s k n hh bot).1, (delZ_eq s k n hh bot).2]
  exact lines_does _ plain_drop (fun y => rUp n y bot false) k B1 B2 _ w1 s _ n bot hh (cell_stay hw1 hB1) (cell_stay hw1 hB2) (rolls_of hR hb) hbh h2 (fun y hy x hx => hx.up y false (by omega) hbh) (fun y hy N p => step_drop _ N p n y bot hh s.sb n1 n2 hy hbh h2) y0 (by omega) hb
theorem del_bad {w0 w : World} {s : Scr} {cv tv gv : Value} (h : Met w0 w s cv tv gv) (hz : scrErr s ≠ 0) (k : Int) : Calls Tryz.prog 15 #[.agg (scrA s cv tv gv), .int .i64 k] w (Made w0 w zScr (scrErr s)) :=
  dell_calls s zScr cv tv gv k (scrErr s) w0 w h.v h.b.size fun W hW => lines_calls s zScr cv tv gv k _ (scrErr s) w0 W h.v (Nat.le_trans h.b.size hW.size) fun _ _ _ hV _ _ => sc_bad ((h.next hW).next hV) hz _ _
theorem del_law (s : Scr) (cv tv gv : Value) (k : Int) (w : World) (hT : Txt.Tab w) (hV : ScrV w s cv tv gv) (hB : Bulk s) :
    Calls Tryz.prog 13 #[.agg (scrA s cv tv gv), .func (.func 15) #[] #[], .string ⟨#[100, 101, 108, 101, 116, 101, 108, 105, 110, 101, 115]⟩, .int .i64 k] w fun e w' => e = .returned (.bool true) ∧ Below w.heap.size w w' :=
  one_any s cv tv gv _ plainF_del _ k w hT hV hB { (delZ s k s.w.toNat s.h.toNat s.bot.toNat).1 with cs := (delZ s k s.w.toNat s.h.toNat s.bot.toNat).2.flatten } (fun hz _ _ _ _ _ hm => del_bad hm hz k) fun n hh hR => by
    have e1 : s.w.toNat = n := by rw [hR.w]; rfl
    have e2 : s.h.toNat = hh := by rw [hR.h]; rfl
    have t0 := hR.t0
    have t1 := hR.t1
    have t2 := hR.t2
    have n1 := hR.n1
    have n2 := hR.n2
    have h2 := hR.h2
    have y0 := hR.y0
    have hb : s.bot = (s.bot.toNat : Int) := by omega
    rw [e1, e2]
    generalize s.bot.toNat = bot at *
    refine ⟨fun _ _ _ _ _ hm => del_any hm hR _ hb k, (delZ_keeps hR k bot hb).agree hR ?_⟩
    rw [(delZ_eq s k n hh bot).1, (delZ_eq s k n hh bot).2]
    exact act_dellines k 0 s _ n bot hh (rolls_of hR hb) n1 n2 (by omega) h2 y0
set_option maxHeartbeats 4000000 in
set_option maxRecDepth 100000 in
theorem shiftLines_walk (s : Scr) (cv tv gv : Value) (a : Int) (w : World) (hT : Txt.Tab w) (hV : ScrV w s cv tv gv) (hB : Bulk s) :
    Calls Tryz.prog 5 #[.agg (scrA s cv tv gv), .int .i64 a] w fun e w' => e = .returned (.bool true) ∧ Below w.heap.size w w' := by
  have HC0 : Hid (∀ W, Below w.heap.size w W → Calls Tryz.prog 13 #[.agg (scrA s cv tv gv), .func (.func 14) #[] #[], .string ⟨#[105, 110, 115, 101, 114, 116, 108, 105, 110, 101, 115]⟩, .int .i64 a] W fun e w' => e = .returned (.bool true) ∧ Below W.heap.size W w') := fun W h => ins_law s cv tv gv a W (Grd.Tab.next hT h) (hV.next h) hB
  have HC1 : Hid (∀ W, Below w.heap.size w W → Calls Tryz.prog 13 #[.agg (scrA s cv tv gv), .func (.func 15) #[] #[], .string ⟨#[100, 101, 108, 101, 116, 101, 108, 105, 110, 101, 115]⟩, .int .i64 a] W fun e w' => e = .returned (.bool true) ∧ Below W.heap.size W w') := fun W h => del_law s cv tv gv a W (Grd.Tab.next hT h) (hV.next h) hB
  have HC2 : Hid (∀ W, Below w.heap.size w W → Calls Tryz.prog 13 #[.agg (scrA s cv tv gv), .func (.func 16) #[] #[], .string ⟨#[114, 111, 108, 108, 117, 112]⟩, .int .i64 a] W fun e w' => e = .returned (.bool true) ∧ Below W.heap.size W w') := fun W h => sup_law s cv tv gv a W (Grd.Tab.next hT h) (hV.next h) hB
  have HC3 : Hid (∀ W, Below w.heap.size w W → Calls Tryz.prog 13 #[.agg (scrA s cv tv gv), .func (.func 17) #[] #[], .string ⟨#[114, 111, 108, 108, 100, 111, 119, 110]⟩, .int .i64 a] W fun e w' => e = .returned (.bool true) ∧ Below W.heap.size W w') := fun W h => sdown_law s cv tv gv a W (Grd.Tab.next hT h) (hV.next h) hB
  obtain ⟨ca, cc, rfl⟩ := hV.c.shape
  obtain ⟨ta, tc, rfl⟩ := hV.t.slice
  obtain ⟨ga, gc, rfl⟩ := hV.g.slice
  have hkb : Below w.heap.size w (w.alloc (.cells (scrA s (.slice ca s.cs.length cc) (.slice ta s.tabs.length tc) (.slice ga s.gone.length gc)) 32)) := ((Below.refl _ _).alloc (by simp) _)
  have hx0 : (w.alloc (.cells (scrA s (.slice ca s.cs.length cc) (.slice ta s.tabs.length tc) (.slice ga s.gone.length gc)) 32)).heap[w.heap.size]? = some (.cells (scrA s (.slice ca s.cs.length cc) (.slice ta s.tabs.length tc) (.slice ga s.gone.length gc)) 32 (0, 0)) := by
    have h := heap_alloc_new w (.cells (scrA s (.slice ca s.cs.length cc) (.slice ta s.tabs.length tc) (.slice ga s.gone.length gc)) 32)
    have e : w.heap.size = w.heap.size := by simp
    rw [e] at h
    exact h
  have HX0 : Hid _ := hx0
  have HB0 : Hid _ := hkb
  clear hkb hV hx0 hT hB
  go_enter Tryz.func5, Tryz.ntmps5
  go_upto_region 1 with fail
  generalize (w.alloc (.cells (scrA s (.slice ca s.cs.length cc) (.slice ta s.tabs.length tc) (.slice ga s.gone.length gc)) 32)) = X at *
  go_wp2_with (refine wpList_load_row rfl 32 (.tmp 2) rfl w.heap.size rfl _ _ _ _ HX0.out Tryz.underlying32 rfl (by kernel_rfl) ?_)
  refine (HC0.out _ HB0.out).mono ?_
  rintro e V0 ⟨rfl, b0⟩
  have HB1 : Hid (Below w.heap.size w V0) := HB0.out.trans (b0.mono HB0.out.size)
  have HX1 : Hid (V0.heap[w.heap.size]? = _) := Grd.carry HX0.out b0
  clear b0
  go_wp2_with (refine BigFrame.wpList_want rfl fun K hK => wp_load_row 32 (.tmp 2) rfl w.heap.size rfl _ _ _ _ HX1.out Tryz.underlying32 rfl (by kernel_rfl) (hK _ _ ?_))
  refine (HC1.out _ HB1.out).mono ?_
  rintro e V1 ⟨rfl, b1⟩
  have HB2 : Hid (Below w.heap.size w V1) := HB1.out.trans (b1.mono HB1.out.size)
  have HX2 : Hid (V1.heap[w.heap.size]? = _) := Grd.carry HX1.out b1
  clear b1
  go_wp2_with (refine BigFrame.wpList_want rfl fun K hK => wp_load_row 32 (.tmp 2) rfl w.heap.size rfl _ _ _ _ HX2.out Tryz.underlying32 rfl (by kernel_rfl) (hK _ _ ?_))
  refine (HC2.out _ HB2.out).mono ?_
  rintro e V2 ⟨rfl, b2⟩
  have HB3 : Hid (Below w.heap.size w V2) := HB2.out.trans (b2.mono HB2.out.size)
  have HX3 : Hid (V2.heap[w.heap.size]? = _) := Grd.carry HX2.out b2
  clear b2
  go_wp2_with (refine BigFrame.wpList_want rfl fun K hK => wp_load_row 32 (.tmp 2) rfl w.heap.size rfl _ _ _ _ HX3.out Tryz.underlying32 rfl (by kernel_rfl) (hK _ _ ?_))
  refine (HC3.out _ HB3.out).mono ?_
  rintro e V3 ⟨rfl, b3⟩
  have HB4 : Hid (Below w.heap.size w V3) := HB3.out.trans (b3.mono HB3.out.size)
  have HX4 : Hid (V3.heap[w.heap.size]? = _) := Grd.carry HX3.out b3
  clear b3
  go_wp2_with fail
  go_ret
  exact ⟨rfl, HB4.out⟩
end Put
end Go.Proofs.YtjmiifegjghliaaGreatDoor
