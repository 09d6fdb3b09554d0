/- Package shift: Feed hands a method on. (Written by gen_call.py.) -/
import Derived.Test.YtennlgkjckcjoaaGreatDoorPartI
import Derived.Test.YtennlgkjckcjoaaGreatDoorPartO
import Derived.Test.YtennlgkjckcjoaaGreatDoorPartJ
import Derived.BigRegion
import Derived.Deep.RegionHeld3
import Derived.Deep.RegionWith
import Derived.Deep.Cut
import Derived.Deep.RegionLaw
import Derived.Deep.CutBlock
namespace Go.Proofs.YtennlgkjckcjoaaGreatDoor
open Go.ChangeShapes Go.WideShapes Go.ChangeAt Go.RowKit
namespace Put
open Grd (C)
set_option maxHeartbeats 2000000 in
set_option maxRecDepth 100000 in
theorem feed_calls (s s' : Scr) (cv tv gv : Value) (er : Int) (w0 w : World) (hV : ScrV w0 s cv tv gv) (hM : w0.heap.size ≤ w.heap.size)
    (hC : ∀ (W : World) (_B : Nat), Below w.heap.size w W → Calls Tryz.prog 44 #[.agg (scrA s cv tv gv), .func (.func 57) #[] #[]] W (Made w0 W s' er)) :
    Calls Tryz.prog 23 #[.agg (scrA s cv tv gv)] w (Made w0 w s' er) := by
  obtain ⟨ca, cc, rfl⟩ := hV.c.shape
  obtain ⟨ta, tc, rfl⟩ := hV.t.slice
  obtain ⟨ga, gc, rfl⟩ := hV.g.slice
  have hkb : Below w.heap.size w ((w.alloc (.cells (scrA s (.slice ca s.cs.length cc) (.slice ta s.tabs.length tc) (.slice ga s.gone.length gc)) 32)).alloc (.cells #[.int .i64 0, .int .i64 0, .slice none 0 0, .int .i64 0, .int .i64 0, .bool false, .int .i64 0, .int .i64 0, .int .i64 0, .int .i64 0, .int .i64 0, .int .i64 0, .slice none 0 0, .int .i64 0, .int .i64 0, .int .i64 0, .int .i64 0, .int .i64 0, .int .i64 0, .int .i32 0, .string ⟨#[]⟩, .slice none 0 0] 32)) := (((Below.refl _ _).alloc (by simp) _).alloc (by simp) _)
  have hx0 : (w.alloc (.cells (scrA s (.slice ca s.cs.length cc) (.slice ta s.tabs.length tc) (.slice ga s.gone.length gc)) 32)).heap[w.heap.size]? = some (.cells (scrA s (.slice ca s.cs.length cc) (.slice ta s.tabs.length tc) (.slice ga s.gone.length gc)) 32 (0, 0)) := by
    have h := heap_alloc_new w (.cells (scrA s (.slice ca s.cs.length cc) (.slice ta s.tabs.length tc) (.slice ga s.gone.length gc)) 32)
    have e : w.heap.size = w.heap.size := by simp
    rw [e] at h
    exact h
  have hx0 := (Below.heap_alloc (w.alloc (.cells (scrA s (.slice ca s.cs.length cc) (.slice ta s.tabs.length tc) (.slice ga s.gone.length gc)) 32)) (.cells #[.int .i64 0, .int .i64 0, .slice none 0 0, .int .i64 0, .int .i64 0, .bool false, .int .i64 0, .int .i64 0, .int .i64 0, .int .i64 0, .int .i64 0, .int .i64 0, .slice none 0 0, .int .i64 0, .int .i64 0, .int .i64 0, .int .i64 0, .int .i64 0, .int .i64 0, .int .i32 0, .string ⟨#[]⟩, .slice none 0 0] 32) _ (heap_lt hx0)).trans hx0
  have hx1 : ((w.alloc (.cells (scrA s (.slice ca s.cs.length cc) (.slice ta s.tabs.length tc) (.slice ga s.gone.length gc)) 32)).alloc (.cells #[.int .i64 0, .int .i64 0, .slice none 0 0, .int .i64 0, .int .i64 0, .bool false, .int .i64 0, .int .i64 0, .int .i64 0, .int .i64 0, .int .i64 0, .int .i64 0, .slice none 0 0, .int .i64 0, .int .i64 0, .int .i64 0, .int .i64 0, .int .i64 0, .int .i64 0, .int .i32 0, .string ⟨#[]⟩, .slice none 0 0] 32)).heap[w.heap.size + 1]? = some (.cells #[.int .i64 0, .int .i64 0, .slice none 0 0, .int .i64 0, .int .i64 0, .bool false, .int .i64 0, .int .i64 0, .int .i64 0, .int .i64 0, .int .i64 0, .int .i64 0, .slice none 0 0, .int .i64 0, .int .i64 0, .int .i64 0, .int .i64 0, .int .i64 0, .int .i64 0, .int .i32 0, .string ⟨#[]⟩, .slice none 0 0] 32 (0, 0)) := by
    have h := heap_alloc_new (w.alloc (.cells (scrA s (.slice ca s.cs.length cc) (.slice ta s.tabs.length tc) (.slice ga s.gone.length gc)) 32)) (.cells #[.int .i64 0, .int .i64 0, .slice none 0 0, .int .i64 0, .int .i64 0, .bool false, .int .i64 0, .int .i64 0, .int .i64 0, .int .i64 0, .int .i64 0, .int .i64 0, .slice none 0 0, .int .i64 0, .int .i64 0, .int .i64 0, .int .i64 0, .int .i64 0, .int .i64 0, .int .i32 0, .string ⟨#[]⟩, .slice none 0 0] 32)
    have e : (w.alloc (.cells (scrA s (.slice ca s.cs.length cc) (.slice ta s.tabs.length tc) (.slice ga s.gone.length gc)) 32)).heap.size = w.heap.size + 1 := by simp
    rw [e] at h
    exact h
  have HX0 : Hid _ := hx0
  have HXR : Hid _ := hx1
  have HKB : Hid _ := hkb
  have HC := hC _ 0 hkb
  have hsz : w.heap.size ≤ ((w.alloc (.cells (scrA s (.slice ca s.cs.length cc) (.slice ta s.tabs.length tc) (.slice ga s.gone.length gc)) 32)).alloc (.cells #[.int .i64 0, .int .i64 0, .slice none 0 0, .int .i64 0, .int .i64 0, .bool false, .int .i64 0, .int .i64 0, .int .i64 0, .int .i64 0, .int .i64 0, .int .i64 0, .slice none 0 0, .int .i64 0, .int .i64 0, .int .i64 0, .int .i64 0, .int .i64 0, .int .i64 0, .int .i32 0, .string ⟨#[]⟩, .slice none 0 0] 32)).heap.size := hkb.size
  clear hkb hV hC hx0 hx1
  go_enter Tryz.func23, Tryz.ntmps23
  go_upto_region 1 with fail
  generalize ((w.alloc (.cells (scrA s (.slice ca s.cs.length cc) (.slice ta s.tabs.length tc) (.slice ga s.gone.length gc)) 32)).alloc (.cells #[.int .i64 0, .int .i64 0, .slice none 0 0, .int .i64 0, .int .i64 0, .bool false, .int .i64 0, .int .i64 0, .int .i64 0, .int .i64 0, .int .i64 0, .int .i64 0, .slice none 0 0, .int .i64 0, .int .i64 0, .int .i64 0, .int .i64 0, .int .i64 0, .int .i64 0, .int .i32 0, .string ⟨#[]⟩, .slice none 0 0] 32)) = X at *
  go_wp2_with (refine wpList_load_row rfl 32 (.tmp 1) rfl w.heap.size rfl _ _ _ _ HX0.out Tryz.underlying32 rfl (by kernel_rfl) ?_)
  refine HC.mono ?_
  rintro e V ⟨cv', tv', gv', rfl, hO, c2⟩
  obtain ⟨a1, n1, c1, a2, n2, c2', a3, n3, c3, rfl, rfl, rfl⟩ := hO.shapes
  have HO : Hid (ScrO V w0.heap.size _ s' _ _ _) := hO
  have HR : Hid (V.heap[w.heap.size + 1]? = _) := Grd.carry HXR.out c2
  have HB : Hid (Below w.heap.size w V) := HKB.out.trans (c2.mono HKB.out.size)
  clear hO c2 HC
  go_wp2_with (refine wpList_store_row rfl 32 (.tmp 2) (.tmp 6) rfl (w.heap.size + 1) (scrA s' (.slice a1 n1 c1) (.slice a2 n2 c2') (.slice a3 n3 c3)) rfl rfl _ _ HR.out (by kernel_rfl) rfl (scr_one _ _ _ _ _ _ _ _ _ _) ?_)
  (try simp only [Exit.inBlock, Exit.then])
  refine bodyPost_ret (v := .tuple #[.agg (scrA s' (.slice a1 n1 c1) (.slice a2 n2 c2') (.slice a3 n3 c3)), .int .i64 er]) ?_ rfl ⟨_, _, _, rfl, ?_, below_setRow HB.out (by omega) _⟩
  · exact Grd.results_row_tmp rfl _ _ (w.heap.size + 1) _ _ _ _ rfl (setRow_heap _ _ _ _ _ _ HR.out) Tryz.underlying32 rfl (by kernel_rfl) _ rfl
  · exact (ScrO.off HO.out HR.out screen_is (by omega) fun k hk => setRow_other _ _ _ _ hk).mono hsz
end Put
end Go.Proofs.YtennlgkjckcjoaaGreatDoor

/- Rows that move, as values. -/
namespace Go.Proofs.YtennlgkjckcjoaaGreatDoor
open Go.ChangeShapes Go.WideShapes Go.ChangeAt Go.RowKit
namespace Put
open Grd (C)
def iterN {α : Type} (f : α → α) : Nat → α → α
  | 0, x => x
  | k + 1, x => f (iterN f k x)
/-- Rows move up, once; what leaves at the top may be kept. -/
def rUp (n top bot : Nat) (keep : Bool) (x : Scr × List (List C)) : Scr × List (List C) := (if top = 0 ∧ keep = true then { x.1 with gone := keepG x.1.gone (x.2.getD 0 []) } else x.1, replR x.2 n x.1.sb top bot)
/-- Rows move down, once. -/
def rDn (n top bot : Nat) (x : Scr × List (List C)) : Scr × List (List C) := (x.1, replR x.2 n x.1.sb bot top)
/-- What stays while rows move. -/
structure Rolls (n bot hh : Nat) (bk : Int) (x : Scr × List (List C)) : Prop where
  w : x.1.w = n
  b : x.1.bot = bot
  k : x.1.sb = bk
  r : x.2.length = hh
  g : x.1.gone.length ≤ 50
theorem Rolls.up {n bot hh : Nat} {bk : Int} {x : Scr × List (List C)} (h : Rolls n bot hh bk x) (top : Nat) (keep : Bool) (ht : top < hh) (hb : bot < hh) : Rolls n bot hh bk (rUp n top bot keep x) := by
  have hr : (replR x.2 n x.1.sb top bot).length = hh := by rw [replR_len _ _ _ _ _ (by rw [h.r]; exact ht) (by rw [h.r]; exact hb), h.r]
  unfold rUp
  split
  · exact ⟨h.w, h.b, h.k, hr, keepG_len _ _ h.g⟩
  · exact ⟨h.w, h.b, h.k, hr, h.g⟩
theorem Rolls.dn {n bot hh : Nat} {bk : Int} {x : Scr × List (List C)} (h : Rolls n bot hh bk x) (top : Nat) (ht : top < hh) (hb : bot < hh) : Rolls n bot hh bk (rDn n top bot x) :=
  ⟨h.w, h.b, h.k, by show (replR x.2 n x.1.sb bot top).length = hh; rw [replR_len _ _ _ _ _ (by rw [h.r]; exact hb) (by rw [h.r]; exact ht), h.r], h.g⟩
end Put
end Go.Proofs.YtennlgkjckcjoaaGreatDoor

/- (*sheet.Sheet).Feed at Bottom; shift's Back, moveRows. -/
namespace Go.Proofs.YtennlgkjckcjoaaGreatDoor
open Go.ChangeShapes Go.WideShapes Go.ChangeAt Go.RowKit
namespace Put
open Grd (C SliceAt CellsAt gridErr z0 nilV flat rowsL)
set_option maxHeartbeats 2000000 in
set_option maxRecDepth 100000 in
theorem feed_roll (W : World) (M N p n : Nat) (s : Scr) (rows : List (List C)) (hS : ShAt 52 W M N p s rows) (top bot : Nat) (ht : s.top = top) (hb : s.bot = bot) (hy : s.y = s.bot) (hw : s.w = n) (hn1 : 1 ≤ n) (hn2 : n ≤ 120) (hg : top < rows.length) (hf : bot < rows.length) (hrl : rows.length ≤ 60) (hgl : s.gone.length ≤ 50) :
    Calls Tryz.prog 57 #[.pointer (some ⟨p, 0, none⟩)] W (Ran W M N p (upS { s with late := false } rows top) (replR rows n s.sb top bot)) := by
  obtain ⟨c0, c1, c3, c4, c5, c9, c10, c11, c19, f⟩ := hS.words
  have f5 := f 5
  obtain ⟨hS1, hB1, hF1⟩ := hS.put 5 (.bool false) (s' := { s with late := false }) (fun _ _ _ _ => rfl) rfl rfl
  have HS1 : Hid (ShAt 52 (W.setCell ⟨p, 5, none⟩ (.bool false)) M N p { s with late := false } rows) := hS1
  have HB1 : Hid (Below N W (W.setCell ⟨p, 5, none⟩ (.bool false))) := hB1
  have HF1 : Hid (Framed W (W.setCell ⟨p, 5, none⟩ (.bool false))) := hF1
  have HU : Hid (∀ V, ShAt 52 V M N p { s with late := false } rows → Calls Tryz.prog 55 #[.pointer (some ⟨p, 0, none⟩), .int .i64 (top : Int)] V (Ran V M N p (upS { s with late := false } rows top) (replR rows n s.sb top bot))) := fun V h => up_any' V M N p n _ rows h top bot hb hw hn1 hn2 hg hf hrl hgl
  have HT : Hid (s.top = top) := ht
  have hq : (s.y == s.bot) = true := by rw [beq_iff_eq]; exact hy
  clear hS1 hB1 hF1 hS hy hb ht c0 c1 c3 c4 c9 c10 c11 c19 f
  generalize upS { s with late := false } rows top = s' at *
  generalize replR rows n s.sb top bot = rows' at *
  go_enter Tryz.func57, Tryz.ntmps57
  go_upto_region 1 with fail
  obtain ⟨-, -, -, d4, -, d9, d10, -, -, df⟩ := HS1.out.words
  clear c5 f5 df
  generalize (W.setCell ⟨p, 5, none⟩ (.bool false)) = X at *
  go_region
  have HSd : Hid (ShAt 52 X.drew M N p { s with late := false } rows) := HS1.out.drew
  have HB2 : Hid (Below N W X.drew) := HB1.out.drew
  have HF2 : Hid (Framed W X.drew) := HF1.out.trans (Framed.of_below ((Below.refl _ _).drew))
  clear d4 d9 d10 HS1 HB1 HF1
  generalize X.drew = Y at *
  obtain ⟨-, -, -, -, -, d9, -, -, -, df⟩ := HSd.out.words
  replace d9 : Y.cell? ⟨p, 9, none⟩ = some (.int .i64 s.top) := d9
  rw [HT.out] at d9
  have HU2 := HU.out Y HSd.out
  clear df HU HSd
  go_wp2_with fail
  refine HU2.mono ?_
  rintro e V ⟨rfl, hS2, hB3, hF3⟩
  go_wp2_with fail
  go_end0
  exact ⟨rfl, hS2, HB2.out.trans hB3, HF2.out.trans hF3⟩
/-- To the row above. -/
def backS (s : Scr) : Scr := if s.y = s.top then { s with late := false } else if 0 < s.y then { s with late := false, y := s.y - 1 } else { s with late := false }
set_option maxHeartbeats 4000000 in
set_option maxRecDepth 100000 in
theorem back_does (M n : Nat) (w : World) (s : Scr) (rows : List (List C)) (top bot : Nat) (ht : s.top = top) (hb : s.bot = bot) (hy0 : 0 ≤ s.y) (hy1 : s.y ≤ 60) (hw : s.w = n) (hn1 : 1 ≤ n) (hn2 : n ≤ 120) (hg : top < rows.length) (hf : bot < rows.length) (hrl : rows.length ≤ 60) :
    Does 58 #[] M w s (backS s) rows (if s.y = s.top then replR rows n s.sb bot top else rows) := by
  intro W p hbw hS
  show Calls _ _ #[.pointer (some ⟨p, 0, none⟩)] _ _
  obtain ⟨c0, c1, c3, c4, c5, c9, c10, c11, c19, f⟩ := hS.words
  have f5 := f 5
  obtain ⟨hS1, hB1, hF1⟩ := hS.put 5 (.bool false) (s' := { s with late := false }) (fun _ _ _ _ => rfl) rfl rfl
  have HS1 : Hid (ShAt 52 (W.setCell ⟨p, 5, none⟩ (.bool false)) M w.heap.size p { s with late := false } rows) := hS1
  have HB1 : Hid (Below w.heap.size W (W.setCell ⟨p, 5, none⟩ (.bool false))) := hB1
  have HDN : Hid (∀ V, ShAt 52 V M w.heap.size p { s with late := false } rows → Calls Tryz.prog 51 #[.pointer (some ⟨p, 0, none⟩), .int .i64 (top : Int)] V (Ran V M w.heap.size p { s with late := false } (replR rows n s.sb bot top))) := fun V h => down_any' V M w.heap.size p n _ rows h top bot hb hw hn1 hn2 hg hf hrl
  have HT : Hid (s.top = top) := ht
  have HE : Hid (backS s = if s.y = s.top then { s with late := false } else if 0 < s.y then { s with late := false, y := s.y - 1 } else { s with late := false }) := rfl
  clear hS1 hB1 hF1 hS hb ht c0 c1 c3 c4 c9 c10 c11 c19 f
  generalize backS s = s' at *
  generalize replR rows n s.sb bot top = rows' at *
  by_cases hq0 : s.y = s.top
  · have hq : (s.y == s.top) = true := by rw [beq_iff_eq]; exact hq0
    have HE2 : Hid (s' = { s with late := false } ∧ (if s.y = s.top then rows' else rows) = rows') := ⟨by rw [HE.out, if_pos hq0], by rw [if_pos hq0]⟩
    generalize (if s.y = s.top then rows' else rows) = rr at *
    clear hq0
    go_enter Tryz.func58, Tryz.ntmps58
    go_upto_region 1 with fail
    obtain ⟨-, -, -, d4, -, d9, -, -, -, df⟩ := HS1.out.words
    clear c5 f5 df
    generalize (W.setCell ⟨p, 5, none⟩ (.bool false)) = X at *
    go_region
    have HSd : Hid (ShAt 52 X.drew M w.heap.size p { s with late := false } rows) := HS1.out.drew
    have HB2 : Hid (Below w.heap.size W X.drew) := HB1.out.drew
    clear d4 d9 HS1 HB1
    generalize X.drew = Y at *
    obtain ⟨-, -, -, -, -, d9, -, -, -, df⟩ := HSd.out.words
    replace d9 : Y.cell? ⟨p, 9, none⟩ = some (.int .i64 s.top) := d9
    rw [HT.out] at d9
    have HU2 := HDN.out Y HSd.out
    clear df HDN HSd
    go_wp2_with fail
    refine HU2.mono ?_
    rintro e V ⟨rfl, hS2, hB3, hF3⟩
    go_wp2_with fail
    go_end0
    rw [HE2.out.1, HE2.out.2]
    exact ⟨rfl, hS2, HB2.out.trans hB3⟩
  · have hq : (s.y == s.top) = false := by rw [beq_eq_false_iff_ne]; exact hq0
    have HR : Hid ((if s.y = s.top then rows' else rows) = rows) := by rw [Hid, if_neg hq0]
    generalize (if s.y = s.top then rows' else rows) = rr at *
    have HE1 : Hid (s' = if 0 < s.y then { s with late := false, y := s.y - 1 } else { s with late := false }) := by rw [Hid, HE.out, if_neg hq0]
    clear hq0 HE HDN
    go_enter Tryz.func58, Tryz.ntmps58
    go_upto_region 1 with fail
    obtain ⟨-, -, -, d4, -, d9, -, -, -, df⟩ := HS1.out.words
    clear c5 f5 df
    generalize (W.setCell ⟨p, 5, none⟩ (.bool false)) = X at *
    go_region
    have HSd : Hid (ShAt 52 X.drew M w.heap.size p { s with late := false } rows) := HS1.out.drew
    have HB2 : Hid (Below w.heap.size W X.drew) := HB1.out.drew
    clear d4 d9 HS1 HB1
    generalize X.drew = Y at *
    obtain ⟨-, -, -, d4, -, -, -, -, -, df⟩ := HSd.out.words
    replace d4 : Y.cell? ⟨p, 4, none⟩ = some (.int .i64 s.y) := d4
    have g4 := df 4
    by_cases hlt : 0 < s.y
    · have HE2 : Hid (s' = { s with late := false, y := s.y - 1 }) := by rw [Hid, HE1.out, if_pos hlt]
      have hw2 : IntKind.i64.wrap (s.y - 1) = s.y - 1 := wrap_id _ (by omega) (by omega)
      obtain ⟨hS4, hB4, hF4⟩ := HSd.out.put 4 (.int .i64 (s.y - 1)) (s' := { s with late := false, y := s.y - 1 }) (fun _ _ _ _ => rfl) rfl rfl
      have HR4 : Hid (ShAt 52 (Y.setCell ⟨p, 4, none⟩ (.int .i64 (s.y - 1))) M w.heap.size p { s with late := false, y := s.y - 1 } rows ∧ Below w.heap.size W (Y.setCell ⟨p, 4, none⟩ (.int .i64 (s.y - 1)))) := ⟨hS4, HB2.out.trans hB4⟩
      clear hS4 hB4 hF4 df HSd
      go_wp2_with fail
      go_end0
      rw [HE2.out, HR.out]
      exact ⟨rfl, HR4.out⟩
    · have HE2 : Hid (s' = { s with late := false }) := by rw [Hid, HE1.out, if_neg hlt]
      clear df
      go_wp2_with fail
      go_end0
      rw [HE2.out, HR.out]
      exact ⟨rfl, HSd.out, HB2.out⟩
end Put
end Go.Proofs.YtennlgkjckcjoaaGreatDoor

/- The reference's desk: other rows, other rows that are gone; empty. -/
namespace Go.Proofs.YtennlgkjckcjoaaGreatDoor
open Go.ChangeShapes Go.WideShapes Go.ChangeAt Go.RowKit
namespace Put
open Grd (C SliceAt CellsAt gridErr z0 nilV flat rowsL OwnG RowB RowsAt)
theorem RowsAt.erase {W : World} {N : Nat} {vs : List Value} {gs : List Nat} {rows : List (List C)} (h : RowsAt W N vs gs rows) (i : Nat) (hi : i < rows.length) : RowsAt W N (vs.eraseIdx i) (gs.eraseIdx i) (rows.eraseIdx i) := by
  obtain ⟨h1, h2, h3, h4⟩ := h
  refine ⟨by rw [List.length_eraseIdx_of_lt (by omega), List.length_eraseIdx_of_lt hi, h1], by rw [List.length_eraseIdx_of_lt (by omega), List.length_eraseIdx_of_lt hi, h2], h3.sublist (List.eraseIdx_sublist _ _), fun j hj => ?_⟩
  rw [List.length_eraseIdx_of_lt hi] at hj
  rw [getD_erase, getD_erase, getD_erase]
  split
  · exact h4 j (by omega)
  · exact h4 (j + 1) (by omega)
theorem mem_insert {l : List Nat} {i x g : Nat} (hi : i ≤ l.length) (h : g ∈ l.insertIdx i x) : g = x ∨ g ∈ l := by
  rw [List.mem_insertIdx hi] at h
  exact h
theorem nodup_insert {l : List Nat} {i x : Nat} (h : l.Nodup) (hx : x ∉ l) (hi : i ≤ l.length) : (l.insertIdx i x).Nodup := by
  have hp := List.perm_insertIdx x l hi
  rw [hp.nodup_iff, List.nodup_cons]
  exact ⟨hx, h⟩
theorem RowsAt.insert {W : World} {N : Nat} {vs : List Value} {gs : List Nat} {rows : List (List C)} (h : RowsAt W N vs gs rows) (i : Nat) (hi : i ≤ rows.length) (v : Value) (g : Nat) (row : List C) (hg : N ≤ g) (hn : g ∉ gs) (hr : RowB W g v row) : RowsAt W N (vs.insertIdx i v) (gs.insertIdx i g) (rows.insertIdx i row) := by
  obtain ⟨h1, h2, h3, h4⟩ := h
  refine ⟨by rw [List.length_insertIdx_of_le_length (by omega), List.length_insertIdx_of_le_length hi, h1], by rw [List.length_insertIdx_of_le_length (by omega), List.length_insertIdx_of_le_length hi, h2], nodup_insert h3 hn (by omega), fun j hj => ?_⟩
  rw [List.length_insertIdx_of_le_length hi] at hj
  rw [getD_insert _ _ _ _ _ (by omega), getD_insert _ _ _ _ _ (by omega), getD_insert _ _ _ _ _ hi]
  split
  · exact h4 j (by omega)
  · split
    · exact ⟨hg, hr⟩
    · exact h4 (j - 1) (by omega)
theorem RowsAt.sls {W : World} {N : Nat} {vs : List Value} {gs : List Nat} {rows : List (List C)} (h : RowsAt W N vs gs rows) : ∀ v, v ∈ vs → IsSl v := by
  intro v hv
  obtain ⟨i, hi, rfl⟩ := List.mem_iff_getElem.1 hv
  obtain ⟨cap, rest, e, -⟩ := (h.2.2.2 i (by rw [← h.1]; exact hi)).2
  have e2 : vs.getD i nilV = vs[i] := by simp [List.getD, hi]
  rw [e2] at e
  exact ⟨(_, _, cap), e⟩
/-- The blocks of rows are kept where one block of another kind changes. -/
theorem RowsAt.off {W V : World} {N rb : Nat} {vs : List Value} {gs : List Nat} {rows : List (List C)} {A : Array Value} {t : TypeId} {f : Nat × Nat} (h : RowsAt W N vs gs rows) (hA : W.heap[rb]? = some (.cells A t f)) (ht : t ≠ 73) (ho : ∀ k, k < W.heap.size → k ≠ rb → V.heap[k]? = W.heap[k]?) : RowsAt V N vs gs rows :=
  h.kept fun i hi => ho _ (h.lt i hi) fun e => by
    obtain ⟨B, hB⟩ := rowB_type (h.2.2.2 i hi).2
    rw [e, hA] at hB
    injection hB with hB
    injection hB with _ hB _
    exact ht hB
/-- A desk, where a row that is gone may be one of the rows still. -/
structure DkX (W : World) (N p : Nat) (s : Scr) (rows : List (List C)) (cv tv gv rv : Value) (gvs vs : List Value) (gs : List Nat) : Prop where
  blk : W.heap[p]? = some (.cells (shA s cv tv gv rv) 68 (0, 0))
  lo : N ≤ p
  cvs : ∃ a n c, cv = .slice a n c
  tabs : W.ownsRow N 4 1 tv s.tabs.length (s.tabs.map Value.bool)
  gone : GoneV W N gv s.gone.length gvs
  gin : RowsIn W N gvs s.gone
  rws : W.ownsRow N 22 1 rv rows.length vs
  rin : RowsAt W N vs gs rows
  two : ∀ k, rv.ownBlock = some k → gv.ownBlock ≠ some k
theorem DkA.x {W : World} {N p : Nat} {s : Scr} {rows : List (List C)} {cv tv gv rv : Value} {gvs vs : List Value} {gs : List Nat} (h : DkA W N p s rows cv tv gv rv gvs vs gs) : DkX W N p s rows cv tv gv rv gvs vs gs := ⟨h.blk, h.lo, h.cvs, h.tabs, h.gone, h.gin, h.rws, h.rin, h.two⟩
theorem DkX.next {W W' : World} {N p : Nat} {s : Scr} {rows : List (List C)} {cv tv gv rv : Value} {gvs vs : List Value} {gs : List Nat} (h : DkX W N p s rows cv tv gv rv gvs vs gs) (hb : Below W.heap.size W W') : DkX W' N p s rows cv tv gv rv gvs vs gs :=
  ⟨Grd.carry h.blk hb, h.lo, h.cvs, own_next h.tabs hb, h.gone.next hb, h.gin.keep (Kept.of_below hb), own_next h.rws hb, h.rin.below hb, h.two⟩
/-- Other rows in the same block. -/
theorem DkX.rowsNew {W V : World} {N p : Nat} {s : Scr} {rows rows' : List (List C)} {cv tv gv rv rv' : Value} {gvs vs vs' : List Value} {gs gs' : List Nat} {rb : Nat} (h : DkX W N p s rows cv tv gv rv gvs vs gs) (hrb : rv.ownBlock = some rb) (hrb' : rv'.ownBlock = some rb)
    (ho : ∀ k, k < W.heap.size → k ≠ rb → V.heap[k]? = W.heap[k]?) (hw : V.ownsRow N 22 1 rv' rows'.length vs') (hr : RowsAt V N vs' gs' rows') (hgf : ∀ i, i < s.gone.length → s.gone.getD i [] ≠ [] → ∀ g, blkOf (gvs.getD i nilV) = some g → g ∉ gs') :
    DkA (V.setCell ⟨p, 22, none⟩ rv') N p s rows' cv tv gv rv' gvs vs' gs' := by
  obtain ⟨hlo, A, f, hA⟩ := owns_block h.rws rb hrb
  have hpr : p ≠ rb := by
    intro e
    rw [← e, h.blk] at hA
    injection hA with hA
    injection hA with _ hA _
    exact absurd hA (by decide)
  have hp : V.heap[p]? = some (.cells (shA s cv tv gv rv) 68 (0, 0)) := (ho p (heap_lt h.blk) hpr).trans h.blk
  have hk1 : Kept N W V := fun k hk hS => ho k hk fun e => by
    subst e
    rcases hS with hS | ⟨B, f', hS⟩
    · omega
    · rw [hA] at hS
      injection hS with hS
      injection hS with _ hS _
      exact absurd hS (by decide)
  have hoff : ∀ k, k ≠ p → (V.setCell ⟨p, 22, none⟩ rv').heap[k]? = V.heap[k]? := fun k hk => store_off hk
  have hk2 : Kept N V (V.setCell ⟨p, 22, none⟩ rv') := Kept.apart hp (by decide) h.lo hoff
  refine ⟨store_at hp rfl, h.lo, h.cvs, ?_, ?_, (h.gin.keep hk1).keep hk2, hgf, own_apart hw hp (by decide) hoff, RowsAt.apart hr hp (by decide) hoff, fun k hk e => ?_⟩
  · refine own_apart (owns_kept h.tabs fun k hk => ?_) hp (by decide) hoff
    obtain ⟨-, B, f', hB⟩ := owns_block h.tabs k hk
    refine ho k (heap_lt hB) fun e => ?_
    rw [e, hA] at hB
    injection hB with hB
    injection hB with _ hB _
    exact absurd hB (by decide)
  · refine GoneV.apart (W := V) ?_ hp (by decide) hoff
    obtain ⟨q0, q | ⟨g, o, cap, B, hv, q1, q2, q3, q4, q5⟩⟩ := h.gone
    · exact ⟨q0, .inl q⟩
    · refine ⟨q0, .inr ⟨g, o, cap, B, hv, q1, q2, q3, (ho g (heap_lt q4) fun e => ?_).trans q4, q5⟩⟩
      exact h.two rb hrb (by rw [hv, e]; rfl)
  · rw [hrb'] at hk
    exact h.two k (by rw [hrb]; exact hk) e
/-- Another list of what is gone, in a block of its own that is new. -/
theorem DkX.goneNew {W V : World} {N p : Nat} {s s' : Scr} {rows : List (List C)} {cv tv gv gv' rv : Value} {gvs gvs' vs : List Value} {gs : List Nat} (h : DkX W N p s rows cv tv gv rv gvs vs gs) (hs' : { s with gone := s'.gone } = s')
    (hb : Below W.heap.size W V) (hw : GoneV V N gv' s'.gone.length gvs') (hr : RowsIn V N gvs' s'.gone) (hat : ∀ k, gv'.ownBlock = some k → rv.ownBlock ≠ some k) :
    DkX (V.setCell ⟨p, 21, none⟩ gv') N p s' rows cv tv gv' rv gvs' vs gs := by
  have h2 := h.next hb
  have hoff : ∀ k, k ≠ p → (V.setCell ⟨p, 21, none⟩ gv').heap[k]? = V.heap[k]? := fun k hk => store_off hk
  have htb : s'.tabs = s.tabs := by rw [← hs']
  refine ⟨store_at h2.blk ?_, h.lo, h.cvs, ?_, hw.apart h2.blk (by decide) hoff, hr.keep (Kept.apart h2.blk (by decide) h.lo hoff), own_apart h2.rws h2.blk (by decide) hoff, RowsAt.apart h2.rin h2.blk (by decide) hoff, fun k hk e => hat k e hk⟩
  · rw [← hs']
    rfl
  · rw [htb]
    exact own_apart h2.tabs h2.blk (by decide) hoff
end Put
end Go.Proofs.YtennlgkjckcjoaaGreatDoor

/- The reference's desk: blank, empty; rows that are cloned, value by value. -/
namespace Go.Proofs.YtennlgkjckcjoaaGreatDoor
open Go.ChangeShapes Go.WideShapes Go.ChangeAt Go.RowKit
namespace Put
open Grd (C SliceAt CellsAt gridErr z0 nilV flat rowsL OwnG RowB RowsAt)
theorem rowB_shapeS {W : World} {g : Nat} {v : Value} {row : List C} (h : RowB W g v row) : ∃ a c, v = .slice a row.length c := by
  obtain ⟨cap, rest, hv, -⟩ := h
  exact ⟨_, cap, hv⟩
set_option maxHeartbeats 2000000 in
theorem dblankS_any (p : Nat) (bk : Int) (V : World) (h : V.cell? ⟨p, 7, none⟩ = some (.int .i64 bk)) : Calls Tryz.prog 79 #[.pointer (some ⟨p, 0, none⟩)] V fun e V' => e = .returned (.agg #[.int .i32 32, .int .i64 0, .int .i64 bk, .int .i64 0]) ∧ Below V.heap.size V V' := by
  have x0 := heap_alloc_new V (.cells #[.int .i32 0, .int .i64 0, .int .i64 0, .int .i64 0] 73)
  have kb : Below V.heap.size V (V.alloc (.cells #[.int .i32 0, .int .i64 0, .int .i64 0, .int .i64 0] 73)) := (Below.refl _ _).alloc (Nat.le_refl _) _
  have h1 := cell_stay kb h
  have HX0 : Hid _ := x0
  have HKB : Hid _ := kb
  clear x0 kb h
  go_enter Tryz.func79, Tryz.ntmps79
  go_upto_region 1 with fail
  generalize V.alloc (.cells #[.int .i32 0, .int .i64 0, .int .i64 0, .int .i64 0] 73) = Y at *
  go_wp2_with (refine wpList_store_row rfl 73 (.tmp 2) _ rfl V.heap.size #[.int .i32 32, .int .i64 0, .int .i64 bk, .int .i64 0] rfl rfl _ _ HX0.out (by kernel_rfl) rfl (one4w _ _ _ _) ?_)
  (try simp only [Exit.inBlock, Exit.then])
  refine bodyPost_ret (v := .agg #[.int .i32 32, .int .i64 0, .int .i64 bk, .int .i64 0]) ?_ rfl ⟨rfl, below_setRow HKB.out (Nat.le_refl _) _⟩
  exact results_cell_row rfl _ _ V.heap.size _ _ _ _ rfl (setRow_heap _ _ _ _ _ _ HX0.out) Tryz.underlying73 rfl (by kernel_rfl)
set_option maxHeartbeats 4000000 in
theorem emptyS_any (p n : Nat) (bk : Int) (W : World) (h0 : W.cell? ⟨p, 0, none⟩ = some (.int .i64 (n : Int))) (h7 : W.cell? ⟨p, 7, none⟩ = some (.int .i64 bk)) (hn1 : 1 ≤ n) (hn2 : n ≤ 120) :
    Calls Tryz.prog 75 #[.pointer (some ⟨p, 0, none⟩)] W fun e W' => ∃ v g, e = .returned v ∧ W.heap.size ≤ g ∧ RowB W' g v (List.replicate n (32, 0, bk, 0)) ∧ Below W.heap.size W W' := by
  have b0 : Below W.heap.size W W.drew := (Below.refl _ _).drew
  have s0 := cell_stay b0 h0
  have HB : Hid (∀ V, Below W.heap.size W V → Calls Tryz.prog 79 #[.pointer (some ⟨p, 0, none⟩)] V fun e V' => e = .returned (.agg #[.int .i32 32, .int .i64 0, .int .i64 bk, .int .i64 0]) ∧ Below V.heap.size V V') := fun V hV => dblankS_any p bk V (cell_stay hV h7)
  have H0 : Hid (W.cell? ⟨p, 0, none⟩ = some (.int .i64 (n : Int))) := h0
  have HRP : Hid (∀ V : World, Calls Tryz.prog 78 #[.slice (some ⟨V.heap.size, 0, none⟩) 1 1, .int .i64 (n : Int)] (V.alloc (.cells #[.int .i32 32, .int .i64 0, .int .i64 bk, .int .i64 0] 73)) fun e w' => ∃ v', e = .returned v' ∧ OwnG w' (V.alloc (.cells #[.int .i32 32, .int .i64 0, .int .i64 bk, .int .i64 0] 73)).heap.size v' (List.replicate n (32, 0, bk, 0)) ∧ Below (V.alloc (.cells #[.int .i32 32, .int .i64 0, .int .i64 bk, .int .i64 0] 73)).heap.size (V.alloc (.cells #[.int .i32 32, .int .i64 0, .int .i64 bk, .int .i64 0] 73)) w') := fun V => Grd.repeat_one V.heap.size 0 1 n (32, 0, bk, 0) _ (Grd.cellsAt_flat (rest := []) (t := 73) (heap_alloc_new V _)) hn1 (by omega)
  clear h0 h7
  go_enter Tryz.func75, Tryz.ntmps75
  go_upto_region 1 with fail
  go_region_held3 (fun w' => w'.cell? ⟨p, 0, none⟩ = some (.int .i64 (n : Int)))
    (first | exact s3 | exact s2 | exact s1 | exact s0)
    (first
      | (go_at_call 78; refine (HRP.out V1).mono ?_; rintro e V2 ⟨v2, rfl, ho, b2⟩; have q3 := q2.trans (b2.mono q2.size); have s3 := cell_stay q3 H0.out; obtain ⟨g, hg1, hr⟩ := own_rowB ho; obtain ⟨na, nc, rfl⟩ := rowB_shapeS hr; have HR : Hid _ := hr; have hg2 : W.heap.size ≤ g := (by have := q2.size; omega); clear b2 ho hr hg1)
      | (go_at_call 79; refine (HB.out _ b0).mono ?_; rintro e V1 ⟨rfl, b1⟩; have q1 := b0.trans (b1.mono b0.size); have s1 := cell_stay q1 H0.out; have q2 := q1.alloc q1.size (.cells #[.int .i32 32, .int .i64 0, .int .i64 bk, .int .i64 0] 73); have s2 := cell_stay q2 H0.out; clear b1))
  go_wp2_with fail
  go_ret
  have h : RowB V2 g (.slice na (List.replicate n ((32, 0, bk, 0) : C)).length nc) (List.replicate n (32, 0, bk, 0)) := HR.out
  rw [List.length_replicate] at h
  exact ⟨.slice na n nc, g, rfl, hg2, h, q3⟩
set_option maxHeartbeats 2000000 in
/-- A list of rows is cloned: the same values in a block of their own. -/
theorem cloneVals {N : Nat} (v : Value) (n : Nat) (vs : List Value) (w : World) (hV : GoneV w N v n vs) (hs : ∀ u, u ∈ vs → IsSl u) (hl : n ≤ 1048576) :
    Calls Tryz.prog 115 #[v] w fun e w' => ∃ a c, e = .returned (.slice a n c) ∧ w'.ownsRow w.heap.size 22 1 (.slice a n c) n vs ∧ Below w.heap.size w w' := by
  obtain ⟨i0, hi, hzz⟩ := Option.map_eq_some_iff.1 info_rows
  simp only [Prod.mk.injEq] at hzz
  obtain ⟨hz0, hz1, hz2⟩ := hzz
  have qn : ∀ (w : World) (a : Option Addr) (n c n' c' : Nat), (binOp .eql 30 (.slice a n c) (.slice none n' c')).run Tryz.prog w = .ok (.bool a.isNone) w := fun w a n c n' c' => Lib.run_eql_slice_nil w _ _ a n c n' c' und_rows
  have kb : Below w.heap.size w (w.alloc (.cells #[] 22)) := (Below.refl _ _).alloc (Nat.le_refl _) _
  obtain ⟨hvl, ⟨rfl, p, c, rfl⟩ | ⟨b, o, c, A, rfl, hN, hc, hm, hA, hC⟩⟩ := hV
  · have hnil : vs = [] := List.eq_nil_of_length_eq_zero hvl
    subst hnil
    cases p with
    | none =>
      go_enter Tryz.func115, Tryz.ntmps115
      go_wp2_with fail
      go_ret
      exact ⟨_, _, rfl, World.ownsRow_nil _ _ _ _, Below.refl _ _⟩
    | some ad =>
      go_enter Tryz.func115, Tryz.ntmps115
      go_wp2_with (at_builtin; refine wpList_append_own _ rfl _ _ 30 rfl w.heap.size 22 i0 (.slice none 0 0) 1 24 und_rows hi hz0 hz1 hz2 rfl (by decide) _ _ _ rfl (World.ownsRow_made w #[] 0 (Nat.le_refl _) (Nat.zero_le _) rfl) ad 0 c [] rfl rfl (by simp) (by simp) (by unfold maxLen; omega) (by omega) (by simp) ?_)
      intro v' w1 hown hgrow hnil
      obtain ⟨va, vc, rfl⟩ := own_slice hown
      go_wp2_with fail
      go_ret
      exact ⟨va, vc, rfl, hown, ((Below.refl _ w).alloc (Nat.le_refl _) _).grown hgrow (by simp) (by intro k hk; simp [Value.ownBlock] at hk; omega)⟩
  · have HF : Hid (vs.length = n * 1) := by rw [Nat.mul_one]; exact hvl
    have HO : Hid (∀ u ∈ vs, u.oneCell' = true) := fun u hu => by obtain ⟨x, rfl⟩ := hs u hu; rfl
    have HS : Hid (∀ j u, vs[j]? = some u → (w.alloc (.cells #[] 22)).cell? ((⟨b, o, none⟩ : Addr).add j) = some u) := fun j u hj => by
      rw [Addr.add_lit]
      refine cell_stay kb ?_
      have hlt := (List.getElem?_eq_some_iff.1 hj).1
      have e := hC j (by omega)
      have e2 : vs.getD j nilV = u := by simp [List.getD, hj]
      simp only [World.cell?, hA]
      rw [e2] at e
      simp only [Option.isSome_none, Bool.false_eq_true, if_false]
      exact e
    clear hC hA hs
    go_enter Tryz.func115, Tryz.ntmps115
    go_wp2_with (at_builtin; refine wpList_append_own _ rfl _ _ 30 rfl w.heap.size 22 i0 (.slice none 0 0) 1 24 und_rows hi hz0 hz1 hz2 rfl (by decide) _ _ _ rfl (World.ownsRow_made w #[] 0 (Nat.le_refl _) (Nat.zero_le _) rfl) ⟨b, o, none⟩ n c vs rfl HF.out HS.out HO.out (by unfold maxLen; omega) (by omega) (by simp) ?_)
    intro v' w1 hown hgrow hnil
    obtain ⟨va, vc, rfl⟩ := own_slice hown
    go_wp2_with fail
    go_ret
    exact ⟨va, vc, rfl, hown, ((Below.refl _ w).alloc (Nat.le_refl _) _).grown hgrow (by simp) (by intro k hk; simp [Value.ownBlock] at hk; omega)⟩
end Put
end Go.Proofs.YtennlgkjckcjoaaGreatDoor

/- What a call on a desk leaves as it was: all below it, and where iterators stand. -/
namespace Go.Proofs.YtennlgkjckcjoaaGreatDoor
open Go.ChangeShapes Go.WideShapes Go.ChangeAt Go.RowKit
namespace Put
/-- Iterators stand where they stood. -/
def ItK (W W' : World) : Prop := ∀ (k : Nat) (t : ByteArray) (pos : Nat), W.heap[k]? = some (Obj.stringIter t pos) → W'.heap[k]? = some (Obj.stringIter t pos)
theorem ItK.refl (W : World) : ItK W W := fun _ _ _ h => h
theorem ItK.trans {W X Y : World} (h : ItK W X) (k : ItK X Y) : ItK W Y := fun a t pos e => k a t pos (h a t pos e)
theorem ItK.below {W W' : World} (h : Below W.heap.size W W') : ItK W W' := fun a t pos e => (h.block a (by
  by_cases hq : a < W.heap.size
  · exact hq
  · rw [Array.getElem?_eq_none (by omega)] at e
    cases e)).trans e
theorem ItK.one {W W' : World} {rb : Nat} {A : Array Value} {t : TypeId} {f : Nat × Nat} (hA : W.heap[rb]? = some (.cells A t f)) (ho : ∀ k, k < W.heap.size → k ≠ rb → W'.heap[k]? = W.heap[k]?) : ItK W W' := fun a u pos e => by
  have hlt : a < W.heap.size := by
    by_cases hq : a < W.heap.size
    · exact hq
    · rw [Array.getElem?_eq_none (by omega)] at e
      cases e
  have hne : a ≠ rb := fun eq => by
    rw [eq, hA] at e
    cases e
  exact (ho a hlt hne).trans e
theorem ItK.set (W : World) (a : Addr) (v : Value) : ItK W (W.setCell a v) := fun k t pos e => by
  unfold World.setCell
  dsimp only
  rw [Array.getElem?_modify]
  split
  · rw [e]
    rfl
  · exact e
/-- All below N as it was, and iterators. -/
structure Bel (N : Nat) (W W' : World) : Prop where
  b : Below N W W'
  i : ItK W W'
theorem Bel.refl (N : Nat) (W : World) : Bel N W W := ⟨Below.refl _ _, ItK.refl _⟩
theorem Bel.trans {N : Nat} {W X Y : World} (h : Bel N W X) (k : Bel N X Y) : Bel N W Y := ⟨h.b.trans k.b, h.i.trans k.i⟩
theorem Bel.next {N : Nat} {W X Y : World} (h : Bel N W X) (hN : N ≤ X.heap.size) (hb : Below X.heap.size X Y) : Bel N W Y := ⟨h.b.trans (hb.mono hN), h.i.trans (ItK.below hb)⟩
theorem Bel.setCell {N : Nat} {W X : World} (h : Bel N W X) {p i : Nat} (hp : N ≤ p) (v : Value) : Bel N W (X.setCell ⟨p, i, none⟩ v) := ⟨h.b.setCell hp v, h.i.trans (ItK.set _ _ _)⟩
theorem Bel.drew {N : Nat} {W X : World} (h : Bel N W X) : Bel N W X.drew := ⟨h.b.drew, h.i.trans (ItK.below ((Below.refl _ _).drew))⟩
end Put
end Go.Proofs.YtennlgkjckcjoaaGreatDoor

/- The reference's desk: Roll, up. -/
namespace Go.Proofs.YtennlgkjckcjoaaGreatDoor
open Go.ChangeShapes Go.WideShapes Go.ChangeAt Go.RowKit
namespace Put
open Grd (C SliceAt CellsAt gridErr z0 nilV flat rowsL OwnG RowB RowsAt)
theorem blk_sl {W : World} {g : Nat} {v : Value} {row : List C} (h : RowB W g v row) : blkOf v = some g := by
  obtain ⟨cap, rest, rfl, -⟩ := h
  rfl
/-- What Insert leaves, of rows of which one went. -/
theorem roll_insI {X : World} {N p n rb rc gone fresh bot : Nat} {s : Scr} {rows : List (List C)} {cv tv gv : Value} {gvs vs : List Value} {gs : List Nat} (hD : DkX X N p s rows cv tv gv (.slice (some ⟨rb, 0, none⟩) rows.length rc) gvs vs gs) (hgof : ∀ i, i < s.gone.length → s.gone.getD i [] ≠ [] → ∀ g, blkOf (gvs.getD i nilV) = some g → g ∉ gs.eraseIdx gone) (hbot : s.bot = bot) (hrc : rows.length ≤ rc) (hg : gone < rows.length) (hf : fresh < rows.length)
    (V1 V2 : World) (a : Option Addr) (c g : Nat) (hO1 : V1.ownsRow N 22 1 (.slice (some ⟨rb, 0, none⟩) (rows.length - 1) rc) (rows.length - 1) (vs.eraseIdx gone)) (hk1 : ∀ k, k ≠ rb → V1.heap[k]? = X.heap[k]?) (hb1 : Below rb X V1) (b2 : Below V1.heap.size V1 V2) (hg1 : V1.heap.size ≤ g) (hR : RowB V2 g (.slice a n c) (List.replicate n (32, 0, s.sb, 0))) :
    Calls Tryz.prog 119 #[.slice (some ⟨rb, 0, none⟩) (rows.length - 1) rc, .int .i64 (fresh : Int), .slice (some ⟨V2.heap.size, 0, none⟩) 1 1] (V2.alloc (.cells #[.slice a n c] 22)) fun e V3 => e = .returned (.slice (some ⟨rb, 0, none⟩) rows.length rc) ∧ V3.cell? ⟨p, 10, none⟩ = some (.int .i64 (bot : Int)) ∧ V3.cell? ⟨p, 22, none⟩ = some (.slice (some ⟨rb, 0, none⟩) rows.length rc) ∧ V3.frozen? ⟨p, 22, none⟩ = false ∧ Hid (((V3.setCell ⟨p, 22, none⟩ (.slice (some ⟨rb, 0, none⟩) rows.length rc)).cell? ⟨p, 10, none⟩ = some (.int .i64 (bot : Int)) ∧ (V3.setCell ⟨p, 22, none⟩ (.slice (some ⟨rb, 0, none⟩) rows.length rc)).cell? ⟨p, 22, none⟩ = some (.slice (some ⟨rb, 0, none⟩) rows.length rc)) ∧ DkAt (V3.setCell ⟨p, 22, none⟩ (.slice (some ⟨rb, 0, none⟩) rows.length rc)) N p s (replR rows n s.sb gone fresh) ∧ Bel N X (V3.setCell ⟨p, 22, none⟩ (.slice (some ⟨rb, 0, none⟩) rows.length rc))) := by
  obtain ⟨hNr, B, f', hB⟩ := owns_block hD.rws rb rfl
  have hs1 : X.heap.size ≤ V1.heap.size := hb1.size
  have q2 : Below V1.heap.size V1 (V2.alloc (.cells #[.slice a n c] 22)) := b2.alloc b2.size _
  have hrb := heap_lt hB
  have hne : V2.heap.size ≠ rb := by have h2 := b2.size; omega
  have hal := heap_alloc_new V2 (.cells #[.slice a n c] 22)
  have hle : (rows.eraseIdx gone).length = rows.length - 1 := List.length_eraseIdx_of_lt hg
  have hsl : IsSl (.slice a n c) := ⟨(a, n, c), rfl⟩
  have hgr : g ≠ rb := by omega
  have hgs : ∀ q, q ∈ gs → q < X.heap.size := fun q hq => (rowsAt_ne hD.rin q hq).2
  have key := insert_own N rb (rows.length - 1) rc fresh V2.heap.size 1 (vs.eraseIdx gone) (.slice a n c) _ (own_next hO1 q2) (fun u hu => RowsAt.sls hD.rin u (List.mem_of_mem_eraseIdx hu)) hsl (by omega) (by omega) hal hne
  rw [show rows.length - 1 + 1 = rows.length by omega] at key
  refine Calls.mono key ?_
  rintro e V3 ⟨rfl, hO3, hk3, hb3⟩
  have hpr : p ≠ rb := by
    intro e
    rw [← e, hD.blk] at hB
    injection hB with hB
    injection hB with _ hB _
    exact absurd hB (by decide)
  have hall : ∀ k, k < X.heap.size → k ≠ rb → V3.heap[k]? = X.heap[k]? := fun k hk hn => (hk3 k hn).trans ((q2.block k (by omega)).trans (hk1 k hn))
  have hp3 : V3.heap[p]? = _ := (hall p (heap_lt hD.blk) hpr).trans hD.blk
  have hR3 : RowB V3 g (.slice a n c) (List.replicate n (32, 0, s.sb, 0)) := by
    obtain ⟨cap, rest, q0, q1, q3, q4⟩ := hR
    exact ⟨cap, rest, q0, q1, q3, (hk3 g hgr).trans ((Below.heap_alloc _ _ _ (heap_lt q4)).trans q4)⟩
  have hrows := RowsAt.insert (RowsAt.erase (RowsAt.off hD.rin hB (by decide) hall) gone hg) fresh (by omega) (.slice a n c) g (List.replicate n (32, 0, s.sb, 0)) (by have := hD.lo; have := heap_lt hD.blk; omega) (fun hm => by have := hgs g (List.mem_of_mem_eraseIdx hm); omega) hR3
  have hgl : gs.length = rows.length := hD.rin.2.1
  have hfin := hD.rowsNew (V := V3) (rb := rb) (rv' := .slice (some ⟨rb, 0, none⟩) rows.length rc) (rows' := replR rows n s.sb gone fresh) (vs' := (vs.eraseIdx gone).insertIdx fresh (.slice a n c)) (gs' := (gs.eraseIdx gone).insertIdx fresh g) rfl rfl hall (by rw [replR_len rows n s.sb gone fresh hg hf]; exact hO3) hrows (fun i hi hn q hq hm => by
    rcases mem_insert (by rw [List.length_eraseIdx_of_lt (by omega)]; omega) hm with e | hm
    · subst e
      rcases hD.gin.2 i hi with ⟨he, -⟩ | ⟨-, b', o', c', hv, -, -, hC', -⟩
      · exact hn he
      · rw [hv] at hq
        have e : b' = q := by simpa [blkOf] using hq
        have := lt_of_cells hC' hn
        omega
    · exact hgof i hi hn q hq hm)
  have q10 := (sh_cells hp3).1.2.2.2.2.2.2.2.2.2.2
  have r10 := (sh_cells hfin.blk).1.2.2.2.2.2.2.2.2.2.2
  rw [hbot] at q10 r10
  refine ⟨rfl, q10, (sh_cells hp3).2.1.2.2.2.2.2.2.2.2.2.2.2, (sh_cells hp3).2.2 22, ⟨r10, (sh_cells hfin.blk).2.1.2.2.2.2.2.2.2.2.2.2.2⟩, ⟨_, _, _, _, _, _, _, hfin⟩, ?_⟩
  have hNV : N ≤ V1.heap.size := by omega
  exact ⟨(((hb1.mono hNr).trans (q2.mono hNV)).trans (hb3.mono hNr)).setCell hD.lo _, (ItK.one hB hall).trans (ItK.set _ _ _)⟩
theorem roll_ins {X : World} {N p n rb rc gone fresh bot : Nat} {s : Scr} {rows : List (List C)} {cv tv gv : Value} {gvs vs : List Value} {gs : List Nat} (hD : DkX X N p s rows cv tv gv (.slice (some ⟨rb, 0, none⟩) rows.length rc) gvs vs gs) (hgof : ∀ i, i < s.gone.length → s.gone.getD i [] ≠ [] → ∀ g, blkOf (gvs.getD i nilV) = some g → g ∉ gs.eraseIdx gone) (hbot : s.bot = bot) (hrc : rows.length ≤ rc) (hg : gone < rows.length) (hf : fresh < rows.length)
    (V1 V2 : World) (a : Option Addr) (c g : Nat) (hO1 : V1.ownsRow N 22 1 (.slice (some ⟨rb, 0, none⟩) (rows.length - 1) rc) (rows.length - 1) (vs.eraseIdx gone)) (hk1 : ∀ k, k ≠ rb → V1.heap[k]? = X.heap[k]?) (hb1 : Below rb X V1) (b2 : Below V1.heap.size V1 V2) (hg1 : V1.heap.size ≤ g) (hR : RowB V2 g (.slice a n c) (List.replicate n (32, 0, s.sb, 0))) :
    Calls Tryz.prog 119 #[.slice (some ⟨rb, 0, none⟩) (rows.length - 1) rc, .int .i64 (fresh : Int), .slice (some ⟨V2.heap.size, 0, none⟩) 1 1] (V2.alloc (.cells #[.slice a n c] 22)) fun e V3 => e = .returned (.slice (some ⟨rb, 0, none⟩) rows.length rc) ∧ V3.cell? ⟨p, 10, none⟩ = some (.int .i64 (bot : Int)) ∧ V3.cell? ⟨p, 22, none⟩ = some (.slice (some ⟨rb, 0, none⟩) rows.length rc) ∧ V3.frozen? ⟨p, 22, none⟩ = false ∧ Hid (((V3.setCell ⟨p, 22, none⟩ (.slice (some ⟨rb, 0, none⟩) rows.length rc)).cell? ⟨p, 10, none⟩ = some (.int .i64 (bot : Int)) ∧ (V3.setCell ⟨p, 22, none⟩ (.slice (some ⟨rb, 0, none⟩) rows.length rc)).cell? ⟨p, 22, none⟩ = some (.slice (some ⟨rb, 0, none⟩) rows.length rc)) ∧ DkAt (V3.setCell ⟨p, 22, none⟩ (.slice (some ⟨rb, 0, none⟩) rows.length rc)) N p s (replR rows n s.sb gone fresh) ∧ Below N X (V3.setCell ⟨p, 22, none⟩ (.slice (some ⟨rb, 0, none⟩) rows.length rc))) :=
  (roll_insI hD hgof hbot hrc hg hf V1 V2 a c g hO1 hk1 hb1 b2 hg1 hR).mono fun _ _ h => ⟨h.1, h.2.1, h.2.2.1, h.2.2.2.1, h.2.2.2.2.out.1, h.2.2.2.2.out.2.1, h.2.2.2.2.out.2.2.b⟩
end Put
end Go.Proofs.YtennlgkjckcjoaaGreatDoor

/- The reference's desk: Roll, up. (Written by gen_refrollu.py.) -/
namespace Go.Proofs.YtennlgkjckcjoaaGreatDoor
open Go.ChangeShapes Go.WideShapes Go.ChangeAt Go.RowKit
namespace Put
open Grd (C SliceAt CellsAt gridErr z0 nilV flat rowsL OwnG RowB RowsAt)
theorem step_append_at {P : Program} {ops : Array Oper} {o : Oper} {a : Act} {w : World} {K : Act → World → Prop} {Q : Exit → Act → World → Prop} {E : Prop} (hg : o.guard = none) (s x : Operand) (t : TypeId)
    (hop : o.op = .call { callee := .builtin .append, args := #[s, x], argTypes := #[t, t] })
    (base : Nat) (e : TypeId) (i : TypeInfo) (z : Value) (size bytes : Nat) (ht : P.underlying t = some (.slice e)) (hi : P.info? e = some i) (hz : i.zero = some z)
    (hsize : i.size = size) (hby : i.bytes = bytes) (hzs : z.cells.size = size) (hsz : 0 < size)
    (v : Value) (n : Nat) (xs : List Value) (hs : a.eval s = v) (hown : w.ownsRow base e size v n xs)
    (ad : Addr) (m c : Nat) (news : List Value) (hx : a.eval x = .slice (some ad) m c) (hl : news.length = m * size) (hnews : ∀ j u, news[j]? = some u → w.cell? (ad.add j) = some u) (h1 : ∀ u ∈ news, u.oneCell' = true)
    (h63 : n + m ≤ maxLen) (hbytes : (n + m) * bytes ≤ 140737488355328) (hbase : base ≤ w.heap.size)
    (h : ∀ v' w', w'.ownsRow base e size v' (n + m) (xs ++ news) → w.grownBy w' v.ownBlock → (v'.ownBlock = v.ownBlock ∨ v'.ownBlock = some w.heap.size) → K (a.put o.dst v') w') :
    if Region.wanted o (yielded ops a.tmps) = true then Oper.wp P o a w K Q else E := by
  have hw : Region.wanted o (yielded ops a.tmps) = true := by simp [Region.wanted, hg]
  rw [if_pos hw]
  obtain ⟨v', w', hr, h2, h3, -, h5⟩ := run_append_own_at (P := P) w base t o.type e i z size bytes ht hi hz hsize hby hzs hsz v n xs hown ad m c news hl hnews h1 h63 hbytes hbase
  unfold Oper.wp execOp
  simp only [hop, resolve, invoke, builtin, Sem.run_bind, Sem.run_pure, Result.andThen_ok, List.map_toArray, List.map_cons, List.map_nil, hs, hx, hr]
  exact h v' w' h2 h3 h5
theorem nodup_first {gs : List Nat} (h : gs.Nodup) (hl : 0 < gs.length) : gs.getD 0 0 ∉ gs.eraseIdx 0 := by
  cases gs with
  | nil => simp at hl
  | cons a l =>
    rw [List.nodup_cons] at h
    simpa using h.1
/-- What is gone, and the first row: none is one of the other rows. -/
theorem gone_push {W : World} {N p : Nat} {s : Scr} {rows : List (List C)} {cv tv gv rv : Value} {gvs vs : List Value} {gs : List Nat} (h : DkA W N p s rows cv tv gv rv gvs vs gs) (hl : 0 < rows.length) :
    ∀ i, i < (s.gone ++ [rows.getD 0 []]).length → (s.gone ++ [rows.getD 0 []]).getD i [] ≠ [] → ∀ g, blkOf ((gvs ++ [vs.getD 0 nilV]).getD i nilV) = some g → g ∉ gs.eraseIdx 0 := by
  intro i hi hn g hg hm
  have hgl : gvs.length = s.gone.length := h.gin.1
  rw [List.length_append, List.length_singleton] at hi
  by_cases e : i < s.gone.length
  · have e1 : (s.gone ++ [rows.getD 0 []]).getD i [] = s.gone.getD i [] := by simp only [List.getD]; rw [List.getElem?_append_left e]
    have e2 : (gvs ++ [vs.getD 0 nilV]).getD i nilV = gvs.getD i nilV := by simp only [List.getD]; rw [List.getElem?_append_left (by omega)]
    rw [e1] at hn
    rw [e2] at hg
    exact h.gof i e hn g hg (List.mem_of_mem_eraseIdx hm)
  · have e3 : i = s.gone.length := by omega
    have e2 : (gvs ++ [vs.getD 0 nilV]).getD i nilV = vs.getD 0 nilV := by
      rw [e3, ← hgl]
      simp [List.getD]
    rw [e2, blk_sl (h.rin.2.2.2 0 hl).2] at hg
    rw [← Option.some.inj hg] at hm
    exact nodup_first h.rin.2.2.1 (by rw [h.rin.2.1]; exact hl) hm
theorem gone_cut {l : List (List C)} {ws : List Value} {gx : List Nat} (h : ∀ i, i < l.length → l.getD i [] ≠ [] → ∀ g, blkOf (ws.getD i nilV) = some g → g ∉ gx) : ∀ i, i < (l.eraseIdx 0).length → (l.eraseIdx 0).getD i [] ≠ [] → ∀ g, blkOf ((ws.eraseIdx 0).getD i nilV) = some g → g ∉ gx := by
  intro i hi hn g hg
  rw [getD_erase, if_neg (by omega)] at hn hg
  refine h (i + 1) ?_ hn g hg
  by_cases h0 : l = []
  · subst h0
    simp at hi
  · rw [List.length_eraseIdx_of_lt (List.length_pos_iff.2 h0)] at hi
    omega
set_option linter.unusedSimpArgs false in
set_option maxHeartbeats 8000000 in
set_option maxRecDepth 100000 in
theorem roll_upI (N p n top bot hh K : Nat) (bk : Int) (s : Scr) (rows : List (List C)) (W : World) (keep : Bool) (m : Int) (hD : DkAt W N p s rows) (hR : Rolls n bot hh bk (s, rows)) (hn1 : 1 ≤ n) (hn2 : n ≤ 120) (htb : top ≤ bot) (hbh : bot < hh) (hh60 : hh ≤ 60) (hK : max (-((bot : Int) - top + 1)) (min m ((bot : Int) - top + 1)) = (K : Int)) :
    Calls Tryz.prog 81 #[.pointer (some ⟨p, 0, none⟩), .int .i64 (top : Int), .int .i64 m, .bool keep] W fun e W' => e = .returned (.tuple #[]) ∧ DkAt W' N p (iterN (rUp n top bot keep) K (s, rows)).1 (iterN (rUp n top bot keep) K (s, rows)).2 ∧ Bel N W W' := by
  obtain ⟨c0, c1, c3, c4, c5, c9, c10, c11, c19, f⟩ := hD.words
  have hb0 : s.bot = bot := hR.b
  rw [hb0] at c10
  have h1 := Grd.min2 m ((bot : Int) - top + 1)
  have h2 := Grd.max2 (-((bot : Int) - top + 1)) (min m ((bot : Int) - top + 1))
  rw [hK] at h2
  have HD : Hid (DkAt W N p s rows) := hD
  have HR : Hid (Rolls n bot hh bk (s, rows)) := hR
  have hw1 : IntKind.i64.wrap ((bot : Int) - top) = (bot : Int) - top := wrap_id _ (by omega) (by omega)
  have hw2 : IntKind.i64.wrap ((bot : Int) - top + 1) = (bot : Int) - top + 1 := wrap_id _ (by omega) (by omega)
  have hw3 : IntKind.i64.wrap (-((bot : Int) - top + 1)) = -((bot : Int) - top + 1) := wrap_id _ (by omega) (by omega)
  have hKle : K ≤ 60 := by omega
  clear hD hR c0 c1 c3 c4 c5 c9 c11 c19 f hK hb0
  go_enter Tryz.func81, Tryz.ntmps81
  go_wp2_with fail
  go_loopg [2] K (fun q v w2 => ∃ k j : Nat, v = .int .i64 (k : Int) ∧ k ≤ q ∧ k + j = K ∧ Rolls n bot hh bk (iterN (rUp n top bot keep) j (s, rows)) ∧ DkAt w2 N p (iterN (rUp n top bot keep) j (s, rows)).1 (iterN (rUp n top bot keep) j (s, rows)).2 ∧ Bel N W w2)
  case atStart => exact ⟨K, 0, rfl, Nat.le_refl _, by omega, HR.out, HD.out, Bel.refl _ _⟩
  case round =>
    obtain ⟨k, j, rfl, hkq, hkj, hRj, hDj, hBj⟩ := hrel
    by_cases hk0 : k = 0
    · subst hk0
      have ej : j = K := by omega
      subst ej
      generalize hyy : wr = Y at *
      clear hyy
      go_wp2_with fail
      go_loopg [2] 0 (fun _ v w3 => v = .int .i64 0 ∧ w3 = Y)
      case atStart => exact ⟨rfl, rfl⟩
      case round =>
        obtain ⟨rfl, hww⟩ := hrel
        have hww := hww.symm
        subst hww
        go_wp2_with fail
        go_end0
        exact ⟨rfl, hDj, hBj⟩
    · have lt1 : (0 : Int) < (k : Int) := by omega
      have HN : Hid (iterN (rUp n top bot keep) (j + 1) (s, rows) = rUp n top bot keep (iterN (rUp n top bot keep) j (s, rows))) := rfl
      have hw4 : IntKind.i64.wrap ((k : Int) - 1) = ((k - 1 : Nat) : Int) := by rw [wrap_id _ (by omega) (by omega)]; omega
      generalize iterN (rUp n top bot keep) j (s, rows) = x at hRj hDj HN
      obtain ⟨cv, tv, gv, rv, gvs, vs, gs, hA⟩ := hDj
      have hrl := hRj.r
      have HRL : Hid (x.2.length = hh) := hRj.r
      have HW : Hid (x.1.w = n) := hRj.w
      have HBO : Hid (x.1.bot = bot) := hRj.b
      have HGL : Hid (x.1.gone.length ≤ 50) := hRj.g
      obtain ⟨rb, rc, hrv, hrb, hrc1, hrc2, hvl, hrcell, A, hrA⟩ := own_cells hA.rws (by omega)
      subst hrv
      have hpr : p ≠ rb := by
        intro e
        rw [← e, hA.blk] at hrA
        injection hrA with hrA
        injection hrA with _ hrA _
        exact absurd hrA (by decide)
      have HRN : Hid (Rolls n bot hh bk (iterN (rUp n top bot keep) (j + 1) (s, rows))) := by rw [Hid, HN.out]; exact hRj.up top keep (by omega) hbh
      have hwb : IntKind.i64.wrap ((top : Int) + 1) = (top : Int) + 1 := wrap_id _ (by omega) (by omega)
      have hl60 : 0 < x.2.length ∧ x.2.length ≤ 60 := by omega
      clear HD HR h1 h2 hw1 hw2 hw3 c10 hrl
      by_cases hkt : top = 0 ∧ keep = true
      · obtain ⟨ht0, hk1⟩ := hkt
        subst ht0 hk1
        have HXN : Hid (rUp n 0 bot true x = ({ x.1 with gone := keepG x.1.gone (x.2.getD 0 []) }, replR x.2 n x.1.sb 0 bot)) := by unfold Hid rUp; rw [if_pos ⟨rfl, rfl⟩]
        have HN : Hid (iterN (rUp n 0 bot true) (j + 1) (s, rows) = ({ x.1 with gone := keepG x.1.gone (x.2.getD 0 []) }, replR x.2 n x.1.sb 0 bot)) := HN.out.trans HXN.out
        have hB0 := (hA.rin.2.2.2 0 (by omega)).2
        obtain ⟨va, vc, hsh⟩ := rowB_shapeS hB0
        obtain ⟨ga, gc, hgv⟩ := hA.gone.slice
        subst hgv
        have HGF : Hid (∀ i, i < (x.1.gone ++ [x.2.getD 0 []]).length → (x.1.gone ++ [x.2.getD 0 []]).getD i [] ≠ [] → ∀ g, blkOf ((gvs ++ [vs.getD 0 nilV]).getD i nilV) = some g → g ∉ gs.eraseIdx 0) := gone_push hA (by omega)
        have hri : RowIn wr N (vs.getD 0 nilV) (x.2.getD 0 []) := rowIn_rowB hB0
        have d0 := hrcell 0 (by omega)
        rw [hsh] at d0 HGF hri
        obtain ⟨-, ⟨-, -, -, -, -, -, -, -, -, -, c21, c22⟩, -⟩ := sh_cells hA.blk
        have HCC : Hid (∀ V, Below wr.heap.size wr V → V.cell? ⟨p, 21, none⟩ = some (.slice ga x.1.gone.length gc) ∧ V.cell? ⟨p, 22, none⟩ = some (.slice (some ⟨rb, 0, none⟩) x.2.length rc) ∧ V.cell? ⟨rb, 0, none⟩ = some (.slice va (x.2.getD 0 []).length vc)) := fun V h => ⟨cell_stay h c21, cell_stay h c22, cell_stay h d0⟩
        have HCL : Hid (∀ V, Below wr.heap.size wr V → Calls Tryz.prog 115 #[.slice ga x.1.gone.length gc] V fun e w' => ∃ a c, e = .returned (.slice a x.1.gone.length c) ∧ w'.ownsRow V.heap.size 22 1 (.slice a x.1.gone.length c) x.1.gone.length gvs ∧ Below V.heap.size V w') := fun V h => cloneVals _ _ gvs V (hA.gone.next h) hA.gin.sls (by have := HGL.out; omega)
        have hNwr : N ≤ wr.heap.size := Nat.le_trans hA.lo (Nat.le_of_lt (heap_lt hA.blk))
        have HFIN : Hid (∀ (U W2 : World) (a ga2 : Option Addr) (c gc2 : Nat), Below wr.heap.size wr U → U.ownsRow wr.heap.size 22 1 (.slice a x.1.gone.length c) x.1.gone.length gvs → W2.ownsRow wr.heap.size 22 1 (.slice ga2 (x.1.gone.length + 1) gc2) (x.1.gone.length + 1) (gvs ++ [.slice va (x.2.getD 0 []).length vc]) → U.grownBy W2 (Value.slice a x.1.gone.length c).ownBlock →
            W2.cell? ⟨p, 21, none⟩ = some (.slice ga x.1.gone.length gc) ∧ W2.frozen? ⟨p, 21, none⟩ = false ∧ Hid (DkX (W2.setCell ⟨p, 21, none⟩ (.slice ga2 (x.1.gone.length + 1) gc2)) N p { x.1 with gone := x.1.gone ++ [x.2.getD 0 []] } x.2 cv tv (.slice ga2 (x.1.gone.length + 1) gc2) (.slice (some ⟨rb, 0, none⟩) x.2.length rc) (gvs ++ [.slice va (x.2.getD 0 []).length vc]) vs gs ∧ (W2.setCell ⟨p, 21, none⟩ (.slice ga2 (x.1.gone.length + 1) gc2)).ownsRow wr.heap.size 22 1 (.slice ga2 (x.1.gone.length + 1) gc2) (x.1.gone.length + 1) (gvs ++ [.slice va (x.2.getD 0 []).length vc]) ∧ Bel N W (W2.setCell ⟨p, 21, none⟩ (.slice ga2 (x.1.gone.length + 1) gc2)))) := fun U W2 a ga2 c gc2 hU hUo hO2 hgr => by
          have hbW : Below wr.heap.size wr W2 := hU.trans (grown_below hgr (fun k e => (owns_block hUo k e).1) hU.size)
          have h2 := hA.next hbW
          have hx := hA.x.goneNew (V := W2) (s' := { x.1 with gone := x.1.gone ++ [x.2.getD 0 []] }) (gv' := .slice ga2 (x.1.gone.length + 1) gc2) (gvs' := gvs ++ [.slice va (x.2.getD 0 []).length vc]) rfl hbW (GoneV.of (by show W2.ownsRow N _ 1 _ (x.1.gone ++ [x.2.getD 0 []]).length _; rw [List.length_append, List.length_singleton]; exact Grd.ownsRow_mono hO2 hNwr)) ((hA.gin.push _ _ hri).keep (Kept.of_below hbW)) (fun q hq e => by
            have q1 := (owns_block hO2 q hq).1
            obtain ⟨-, B, f', hB⟩ := owns_block hA.rws q e
            have q2 := heap_lt hB
            omega)
          exact ⟨(sh_cells h2.blk).2.1.2.2.2.2.2.2.2.2.2.2.1, (sh_cells h2.blk).2.2 21, hx, own_off hO2 h2.blk (by decide), (hBj.next hNwr hbW).setCell hA.lo _⟩
        obtain ⟨i0, hi, hzz⟩ := Option.map_eq_some_iff.1 info_rows
        simp only [Prod.mk.injEq] at hzz
        obtain ⟨hz0, hz1, hz2⟩ := hzz
        have hgl := HGL.out
        have hl0 : (0 : Int) < (x.2.length : Int) := by omega
        have b0 : Below wr.heap.size wr wr.drew := (Below.refl _ _).drew
        have b0b : Below wr.heap.size wr (wr.alloc (.cells #[.slice va (x.2.getD 0 []).length vc] 22)) := (Below.refl _ _).alloc (Nat.le_refl _) _
        have b0a : Below wr.heap.size wr (wr.alloc (.cells #[.slice va (x.2.getD 0 []).length vc] 22)).drew := b0b.drew
        obtain ⟨k21, k22, kd⟩ := HCC.out _ b0
        obtain ⟨l21, l22, ld⟩ := HCC.out _ b0b
        have HNV : Hid (∀ V : World, ∀ j u, [Value.slice va (x.2.getD 0 []).length vc][j]? = some u → (V.alloc (.cells #[.slice va (x.2.getD 0 []).length vc] 22)).cell? ((⟨V.heap.size, 0, none⟩ : Addr).add j) = some u) := fun V => cell_news V _ _
        have HLO : Hid (N ≤ p) := hA.lo
        clear hA hrA hrcell hvl hRj hBj HXN hB0 hsh hri c21 c22 d0
        generalize x.2.getD 0 [] = row0 at *
        go_upto_region 5 with fail
        go_cut [] from 23 to 86 (fun wx => ∃ (ga2 : Option Addr) (gc2 : Nat), DkX wx N p { x.1 with gone := x.1.gone ++ [row0] } x.2 cv tv (.slice ga2 (x.1.gone.length + 1) gc2) (.slice (some ⟨rb, 0, none⟩) x.2.length rc) (gvs ++ [.slice va row0.length vc]) vs gs ∧ wx.ownsRow wr.heap.size 22 1 (.slice ga2 (x.1.gone.length + 1) gc2) (x.1.gone.length + 1) (gvs ++ [.slice va row0.length vc]) ∧ Bel N W wx)
        case first =>
          go_region_law (first
            | (refine step_append_at rfl (.tmp 38) (.tmp 45) 30 rfl wr.heap.size 22 i0 (.slice none 0 0) 1 24 und_rows hi hz0 hz1 hz2 rfl (by decide) (.slice a1 x.1.gone.length c1) x.1.gone.length gvs (by simp [Act.eval, Act.put]) (hO2.alloc _) ⟨V1.heap.size, 0, none⟩ 1 1 [.slice va row0.length vc] (by simp [Act.eval, Act.put]) rfl (HNV.out V1) (by intro u hu; simp at hu; rw [hu]; rfl) (by unfold maxLen; omega) (by omega) (q1.alloc q1.size _).size ?_; intro gv2 W2 hown2 hgr hat; obtain ⟨ga2, gc2, rfl⟩ := own_slice hown2; obtain ⟨z21, zf, HPK⟩ := HFIN.out _ W2 a1 ga2 c1 gc2 (q1.alloc q1.size _) (hO2.alloc _) hown2 hgr)
            | (refine step_append_at rfl (.tmp 38) (.tmp 45) 30 rfl wr.heap.size 22 i0 (.slice none 0 0) 1 24 und_rows hi hz0 hz1 hz2 rfl (by decide) (.slice a1 x.1.gone.length c1) x.1.gone.length gvs (by simp [Act.eval, Act.put]) hO2 ⟨wr.heap.size, 0, none⟩ 1 1 [.slice va row0.length vc] (by simp [Act.eval, Act.put]) rfl (fun jj u hj => cell_stay b1 (HNV.out wr jj u hj)) (by intro u hu; simp at hu; rw [hu]; rfl) (by unfold maxLen; omega) (by omega) q1.size ?_; intro gv2 W2 hown2 hgr hat; obtain ⟨ga2, gc2, rfl⟩ := own_slice hown2; obtain ⟨z21, zf, HPK⟩ := HFIN.out _ W2 a1 ga2 c1 gc2 q1 hO2 hown2 hgr)
            | (go_simp; go_at_call 115; refine (HCL.out _ ?_).mono ?_; (first | exact b0a | exact b0); rintro e V1 ⟨a1, c1, rfl, hO1, b1⟩; have q1 : Below wr.heap.size wr V1 := (by first | exact b0a.trans (b1.mono b0a.size) | exact b0.trans (b1.mono b0.size)); have hO2 := Grd.ownsRow_mono hO1 (by first | exact b0a.size | exact b0.size); obtain ⟨m21, m22, md⟩ := HCC.out _ q1; obtain ⟨n21, n22, nd⟩ := HCC.out _ (q1.alloc q1.size (.cells #[.slice va row0.length vc] 22))))
          all_goals go_wp2_with fail
          all_goals go_meet
          all_goals exact ⟨ga2, gc2, HPK.out⟩
        case rest =>
          obtain ⟨ga2, gc2, hcX, hcO, hcB⟩ := hcut
          have e21 := (sh_cells hcX.blk).2.1.2.2.2.2.2.2.2.2.2.2.1
          have g21 := (sh_cells hcX.blk).2.2 21
          clear HFIN HCL HCC HNV k21 k22 kd l21 l22 ld hi hz0 hz1 hz2 b0 b0a b0b
          by_cases hlt : x.1.gone.length < 50
          · have HN : Hid (iterN (rUp n 0 bot true) (j + 1) (s, rows) = ({ x.1 with gone := x.1.gone ++ [row0] }, replR x.2 n x.1.sb 0 bot)) := by rw [Hid, HN.out]; unfold keepG; rw [if_pos hlt]
            have hl1 : ¬ ((50 : Int) < (x.1.gone.length : Int) + 1) := by omega
            have HYX : Hid (DkX wc.drew N p { x.1 with gone := x.1.gone ++ [row0] } x.2 cv tv (.slice ga2 (x.1.gone.length + 1) gc2) (.slice (some ⟨rb, 0, none⟩) x.2.length rc) (gvs ++ [.slice va row0.length vc]) vs gs) := hcX.next ((Below.refl _ _).drew)
            have HB : Hid (Bel N W wc.drew) := hcB.drew
            clear hcX hcO hcB
            go_upto_region 8 with fail
            clear e21 g21
            have HX : Hid (DkX wc.drew N p { x.1 with gone := x.1.gone ++ [row0] } x.2 cv tv (.slice ga2 (x.1.gone.length + 1) gc2) (.slice (some ⟨rb, 0, none⟩) x.2.length rc) (gvs ++ [.slice va row0.length vc]) vs gs) := HYX.out
            have HDel := delete_own N rb x.2.length rc 0 vs wc.drew HX.out.rws (RowsAt.sls HX.out.rin) (by have := HRL.out; omega)
            rw [show ((0 + 1 : Nat) : Int) = (0 : Int) + 1 by omega] at HDel
            have HEM : Hid (∀ V1 : World, (∀ q, q ≠ rb → V1.heap[q]? = wc.drew.heap[q]?) → Calls Tryz.prog 75 #[.pointer (some ⟨p, 0, none⟩)] V1 fun e W' => ∃ v g, e = .returned v ∧ V1.heap.size ≤ g ∧ RowB W' g v (List.replicate n (32, 0, x.1.sb, 0)) ∧ Below V1.heap.size V1 W') := fun V1 h1 => by
              have hp1 := (h1 p hpr).trans HX.out.blk
              obtain ⟨⟨q0, -, -, -, -, -, -, q7, -⟩, -, -⟩ := sh_cells hp1
              have q0 : V1.cell? ⟨p, 0, none⟩ = some (.int .i64 x.1.w) := q0
              have q7 : V1.cell? ⟨p, 7, none⟩ = some (.int .i64 x.1.sb) := q7
              rw [HW.out] at q0
              exact emptyS_any p n x.1.sb V1 q0 q7 hn1 hn2
            have HINS : Hid (∀ (V1 V2 : World) (a : Option Addr) (c g : Nat), V1.ownsRow N 22 1 (.slice (some ⟨rb, 0, none⟩) (x.2.length - 1) rc) (x.2.length - 1) (vs.eraseIdx 0) → (∀ q, q ≠ rb → V1.heap[q]? = wc.drew.heap[q]?) → Below rb wc.drew V1 → Below V1.heap.size V1 V2 → V1.heap.size ≤ g → RowB V2 g (.slice a n c) (List.replicate n (32, 0, x.1.sb, 0)) → _) := fun V1 V2 a c g z1 z2 z3 z4 z5 z6 => roll_insI (fresh := bot) (bot := bot) HX.out HGF.out HBO.out hrc1 (by have := HRL.out; omega) (by have := HRL.out; omega) V1 V2 a c g z1 z2 z3 z4 z5 z6
            have SK : Hid (∀ V : World, (∀ q, q < wc.drew.heap.size → q ≠ rb → V.heap[q]? = wc.drew.heap[q]?) → V.cell? ⟨p, 10, none⟩ = some (.int .i64 (bot : Int)) ∧ V.cell? ⟨p, 22, none⟩ = some (.slice (some ⟨rb, 0, none⟩) x.2.length rc)) := fun V h => by
              have hp1 := (h p (heap_lt HX.out.blk) hpr).trans HX.out.blk
              obtain ⟨⟨-, -, -, -, -, -, -, -, -, -, q10⟩, ⟨-, -, -, -, -, -, -, -, -, -, -, q22⟩, -⟩ := sh_cells hp1
              have q10 : V.cell? ⟨p, 10, none⟩ = some (.int .i64 x.1.bot) := q10
              rw [HBO.out] at q10
              exact ⟨q10, q22⟩
            have e0 := SK.out wc.drew (fun _ _ _ => rfl)
            go_region_held3 (fun w' => w'.cell? ⟨p, 10, none⟩ = some (.int .i64 (bot : Int)) ∧ w'.cell? ⟨p, 22, none⟩ = some (.slice (some ⟨rb, 0, none⟩) x.2.length rc))
              (first | exact e5 | exact e4 | exact e3 | exact e2 | exact e1 | exact e0)
              (first
                | (go_at_call 120; refine HDel.mono ?_; rintro e V1 ⟨rfl, hO1, hk1, hb1⟩; have HE1 := HEM.out V1 hk1; have e1 := SK.out V1 (fun q _ hn => hk1 q hn))
                | (go_at_call 75; refine HE1.mono ?_; rintro e V2 ⟨v, g, rfl, hg1, hR2, b2⟩; obtain ⟨na, nc, hv2⟩ := rowB_shapeS hR2; rw [List.length_replicate] at hv2; subst hv2; have hI := HINS.out V1 V2 na nc g hO1 hk1 hb1 b2 hg1 hR2; have e2 := SK.out V2 (fun q hq hn => (b2.block q (Nat.lt_of_lt_of_le hq hb1.size)).trans (hk1 q hn)); have e3 := SK.out (V2.alloc (.cells #[.slice na n nc] 22)) (fun q hq hn => (Below.heap_alloc _ _ _ (Nat.lt_of_lt_of_le hq (Nat.le_trans hb1.size b2.size))).trans ((b2.block q (Nat.lt_of_lt_of_le hq hb1.size)).trans (hk1 q hn))))
                | (go_at_call 119; refine hI.mono ?_; rintro e V3 ⟨rfl, z10, z22, zf, HFI⟩; have e4 := And.intro z10 z22; have e5 := HFI.out.1))
            go_wp2_with fail
            go_roundg (k - 1)
            case measure => omega
            case rel => exact ⟨k - 1, j + 1, by first | rfl | simp, Nat.le_refl _, by omega, HRN.out, by rw [HN.out]; exact HFI.out.2.1, HB.out.trans HFI.out.2.2⟩
          · have HN : Hid (iterN (rUp n 0 bot true) (j + 1) (s, rows) = ({ x.1 with gone := (x.1.gone ++ [row0]).eraseIdx 0 }, replR x.2 n x.1.sb 0 bot)) := by rw [Hid, HN.out]; unfold keepG; rw [if_neg hlt]
            have hl1 : (50 : Int) < (x.1.gone.length : Int) + 1 := by omega
            obtain ⟨g2, cap2, hgv2, hg2N, hg2c, hg2m, hg2l, hg2cell, B2, hB2⟩ := own_cells hcO (by omega)
            injection hgv2 with e1 _ e3
            subst e1 e3
            have hlen : (x.1.gone ++ [row0]).length = x.1.gone.length + 1 := by simp
            have hYX : DkX (wc.setCell ⟨p, 21, none⟩ (.slice (some ⟨g2, 1, none⟩) x.1.gone.length (gc2 - 1))) N p { x.1 with gone := (x.1.gone ++ [row0]).eraseIdx 0 } x.2 cv tv (.slice (some ⟨g2, 1, none⟩) x.1.gone.length (gc2 - 1)) (.slice (some ⟨rb, 0, none⟩) x.2.length rc) ((gvs ++ [Value.slice va row0.length vc]).eraseIdx 0) vs gs :=
              hcX.goneNew (V := wc) (s' := { x.1 with gone := (x.1.gone ++ [row0]).eraseIdx 0 }) rfl (Below.refl _ _) (by
                have hl2 : ((x.1.gone ++ [row0]).eraseIdx 0).length = x.1.gone.length := by rw [List.length_eraseIdx_of_lt (by omega), hlen]; omega
                show GoneV wc N _ ((x.1.gone ++ [row0]).eraseIdx 0).length _
                rw [hl2]
                refine ⟨by rw [List.length_eraseIdx_of_lt (by omega), hg2l]; omega, .inr ⟨g2, 1, gc2 - 1, B2, rfl, by omega, by omega, by omega, hB2, fun q hq => ?_⟩⟩
                have e := hg2cell (q + 1) (by omega)
                simp only [World.cell?, hB2] at e
                simp only [Option.isSome_none, Bool.false_eq_true, if_false] at e
                rw [getD_erase, if_neg (by omega), Nat.add_comm 1 q]
                exact e) (hcX.gin.erase 0 (by show 0 < (x.1.gone ++ [row0]).length; omega)) (fun q hq e => hcX.two q e (by rw [← hq]; rfl))
            have HB : Hid (Bel N W (wc.setCell ⟨p, 21, none⟩ (.slice (some ⟨g2, 1, none⟩) x.1.gone.length (gc2 - 1))).drew) := (hcB.setCell HLO.out _).drew
            have HYX : Hid (DkX (wc.setCell ⟨p, 21, none⟩ (.slice (some ⟨g2, 1, none⟩) x.1.gone.length (gc2 - 1))).drew N p { x.1 with gone := (x.1.gone ++ [row0]).eraseIdx 0 } x.2 cv tv (.slice (some ⟨g2, 1, none⟩) x.1.gone.length (gc2 - 1)) (.slice (some ⟨rb, 0, none⟩) x.2.length rc) ((gvs ++ [Value.slice va row0.length vc]).eraseIdx 0) vs gs) := hYX.next ((Below.refl _ _).drew)
            have hc1 : ¬ gc2 = 1 := by omega
            have hc2 : 1 ≤ x.1.gone.length + 1 := by omega
            clear hcX hcO hcB hYX hg2cell hg2l hB2 hlen
            go_upto_region 8 with fail
            clear e21 g21
            generalize hYW : wc.setCell ⟨p, 21, none⟩ (.slice (some ⟨g2, 1, none⟩) x.1.gone.length (gc2 - 1)) = YZ at *
            have HX : Hid (DkX YZ.drew N p { x.1 with gone := (x.1.gone ++ [row0]).eraseIdx 0 } x.2 cv tv (.slice (some ⟨g2, 1, none⟩) x.1.gone.length (gc2 - 1)) (.slice (some ⟨rb, 0, none⟩) x.2.length rc) ((gvs ++ [Value.slice va row0.length vc]).eraseIdx 0) vs gs) := HYX.out
            have HDel := delete_own N rb x.2.length rc 0 vs YZ.drew HX.out.rws (RowsAt.sls HX.out.rin) (by have := HRL.out; omega)
            rw [show ((0 + 1 : Nat) : Int) = (0 : Int) + 1 by omega] at HDel
            have HEM : Hid (∀ V1 : World, (∀ q, q ≠ rb → V1.heap[q]? = YZ.drew.heap[q]?) → Calls Tryz.prog 75 #[.pointer (some ⟨p, 0, none⟩)] V1 fun e W' => ∃ v g, e = .returned v ∧ V1.heap.size ≤ g ∧ RowB W' g v (List.replicate n (32, 0, x.1.sb, 0)) ∧ Below V1.heap.size V1 W') := fun V1 h1 => by
              have hp1 := (h1 p hpr).trans HX.out.blk
              obtain ⟨⟨q0, -, -, -, -, -, -, q7, -⟩, -, -⟩ := sh_cells hp1
              have q0 : V1.cell? ⟨p, 0, none⟩ = some (.int .i64 x.1.w) := q0
              have q7 : V1.cell? ⟨p, 7, none⟩ = some (.int .i64 x.1.sb) := q7
              rw [HW.out] at q0
              exact emptyS_any p n x.1.sb V1 q0 q7 hn1 hn2
            have HINS : Hid (∀ (V1 V2 : World) (a : Option Addr) (c g : Nat), V1.ownsRow N 22 1 (.slice (some ⟨rb, 0, none⟩) (x.2.length - 1) rc) (x.2.length - 1) (vs.eraseIdx 0) → (∀ q, q ≠ rb → V1.heap[q]? = YZ.drew.heap[q]?) → Below rb YZ.drew V1 → Below V1.heap.size V1 V2 → V1.heap.size ≤ g → RowB V2 g (.slice a n c) (List.replicate n (32, 0, x.1.sb, 0)) → _) := fun V1 V2 a c g z1 z2 z3 z4 z5 z6 => roll_insI (fresh := bot) (bot := bot) HX.out (gone_cut HGF.out) HBO.out hrc1 (by have := HRL.out; omega) (by have := HRL.out; omega) V1 V2 a c g z1 z2 z3 z4 z5 z6
            have SK : Hid (∀ V : World, (∀ q, q < YZ.drew.heap.size → q ≠ rb → V.heap[q]? = YZ.drew.heap[q]?) → V.cell? ⟨p, 10, none⟩ = some (.int .i64 (bot : Int)) ∧ V.cell? ⟨p, 22, none⟩ = some (.slice (some ⟨rb, 0, none⟩) x.2.length rc)) := fun V h => by
              have hp1 := (h p (heap_lt HX.out.blk) hpr).trans HX.out.blk
              obtain ⟨⟨-, -, -, -, -, -, -, -, -, -, q10⟩, ⟨-, -, -, -, -, -, -, -, -, -, -, q22⟩, -⟩ := sh_cells hp1
              have q10 : V.cell? ⟨p, 10, none⟩ = some (.int .i64 x.1.bot) := q10
              rw [HBO.out] at q10
              exact ⟨q10, q22⟩
            have e0 := SK.out YZ.drew (fun _ _ _ => rfl)
            go_region_held3 (fun w' => w'.cell? ⟨p, 10, none⟩ = some (.int .i64 (bot : Int)) ∧ w'.cell? ⟨p, 22, none⟩ = some (.slice (some ⟨rb, 0, none⟩) x.2.length rc))
              (first | exact e5 | exact e4 | exact e3 | exact e2 | exact e1 | exact e0)
              (first
                | (go_at_call 120; refine HDel.mono ?_; rintro e V1 ⟨rfl, hO1, hk1, hb1⟩; have HE1 := HEM.out V1 hk1; have e1 := SK.out V1 (fun q _ hn => hk1 q hn))
                | (go_at_call 75; refine HE1.mono ?_; rintro e V2 ⟨v, g, rfl, hg1, hR2, b2⟩; obtain ⟨na, nc, hv2⟩ := rowB_shapeS hR2; rw [List.length_replicate] at hv2; subst hv2; have hI := HINS.out V1 V2 na nc g hO1 hk1 hb1 b2 hg1 hR2; have e2 := SK.out V2 (fun q hq hn => (b2.block q (Nat.lt_of_lt_of_le hq hb1.size)).trans (hk1 q hn)); have e3 := SK.out (V2.alloc (.cells #[.slice na n nc] 22)) (fun q hq hn => (Below.heap_alloc _ _ _ (Nat.lt_of_lt_of_le hq (Nat.le_trans hb1.size b2.size))).trans ((b2.block q (Nat.lt_of_lt_of_le hq hb1.size)).trans (hk1 q hn))))
                | (go_at_call 119; refine hI.mono ?_; rintro e V3 ⟨rfl, z10, z22, zf, HFI⟩; have e4 := And.intro z10 z22; have e5 := HFI.out.1))
            go_wp2_with fail
            go_roundg (k - 1)
            case measure => omega
            case rel => exact ⟨k - 1, j + 1, by first | rfl | simp, Nat.le_refl _, by omega, HRN.out, by rw [HN.out]; exact HFI.out.2.1, HB.out.trans HFI.out.2.2⟩
      · have HXN : Hid (rUp n top bot keep x = (x.1, replR x.2 n x.1.sb top bot)) := by unfold Hid rUp; rw [if_neg hkt]
        have HN : Hid (iterN (rUp n top bot keep) (j + 1) (s, rows) = (x.1, replR x.2 n x.1.sb top bot)) := HN.out.trans HXN.out
        have HAA : Hid (DkA wr.drew N p x.1 x.2 cv tv gv (.slice (some ⟨rb, 0, none⟩) x.2.length rc) gvs vs gs) := hA.next ((Below.refl _ _).drew)
        have HB : Hid (Bel N W wr.drew) := hBj.drew
        have hcond : ((top : Int) == 0) = false ∨ (((top : Int) == 0) = true ∧ keep = false) := by
          by_cases ht : top = 0
          · right
            refine ⟨by simp [ht], ?_⟩
            cases keep with
            | true => exact absurd ⟨ht, rfl⟩ hkt
            | false => rfl
          · left
            simp only [beq_eq_false_iff_ne, ne_eq]
            omega
        clear hA hrA hrcell hvl hRj hBj hkt HXN
        rcases hcond with hc0 | ⟨hc0, hc1⟩
        · go_upto_region 8 with fail
          have HX : Hid (DkX wr.drew N p x.1 x.2 cv tv gv (.slice (some ⟨rb, 0, none⟩) x.2.length rc) gvs vs gs) := HAA.out.x
          have HDel := delete_own N rb x.2.length rc top vs wr.drew HX.out.rws (RowsAt.sls HX.out.rin) (by have := HRL.out; omega)
          rw [show ((top + 1 : Nat) : Int) = (top : Int) + 1 by omega] at HDel
          have HEM : Hid (∀ V1 : World, (∀ q, q ≠ rb → V1.heap[q]? = wr.drew.heap[q]?) → Calls Tryz.prog 75 #[.pointer (some ⟨p, 0, none⟩)] V1 fun e W' => ∃ v g, e = .returned v ∧ V1.heap.size ≤ g ∧ RowB W' g v (List.replicate n (32, 0, x.1.sb, 0)) ∧ Below V1.heap.size V1 W') := fun V1 h1 => by
            have hp1 := (h1 p hpr).trans HX.out.blk
            obtain ⟨⟨q0, -, -, -, -, -, -, q7, -⟩, -, -⟩ := sh_cells hp1
            have q0 : V1.cell? ⟨p, 0, none⟩ = some (.int .i64 x.1.w) := q0
            have q7 : V1.cell? ⟨p, 7, none⟩ = some (.int .i64 x.1.sb) := q7
            rw [HW.out] at q0
            exact emptyS_any p n x.1.sb V1 q0 q7 hn1 hn2
          have HINS : Hid (∀ (V1 V2 : World) (a : Option Addr) (c g : Nat), V1.ownsRow N 22 1 (.slice (some ⟨rb, 0, none⟩) (x.2.length - 1) rc) (x.2.length - 1) (vs.eraseIdx top) → (∀ q, q ≠ rb → V1.heap[q]? = wr.drew.heap[q]?) → Below rb wr.drew V1 → Below V1.heap.size V1 V2 → V1.heap.size ≤ g → RowB V2 g (.slice a n c) (List.replicate n (32, 0, x.1.sb, 0)) → _) := fun V1 V2 a c g z1 z2 z3 z4 z5 z6 => roll_insI (fresh := bot) (bot := bot) HX.out (fun i hi hn q hq hm => HAA.out.gof i hi hn q hq (List.mem_of_mem_eraseIdx hm)) HBO.out hrc1 (by have := HRL.out; omega) (by have := HRL.out; omega) V1 V2 a c g z1 z2 z3 z4 z5 z6
          have SK : Hid (∀ V : World, (∀ q, q < wr.drew.heap.size → q ≠ rb → V.heap[q]? = wr.drew.heap[q]?) → V.cell? ⟨p, 10, none⟩ = some (.int .i64 (bot : Int)) ∧ V.cell? ⟨p, 22, none⟩ = some (.slice (some ⟨rb, 0, none⟩) x.2.length rc)) := fun V h => by
            have hp1 := (h p (heap_lt HX.out.blk) hpr).trans HX.out.blk
            obtain ⟨⟨-, -, -, -, -, -, -, -, -, -, q10⟩, ⟨-, -, -, -, -, -, -, -, -, -, -, q22⟩, -⟩ := sh_cells hp1
            have q10 : V.cell? ⟨p, 10, none⟩ = some (.int .i64 x.1.bot) := q10
            rw [HBO.out] at q10
            exact ⟨q10, q22⟩
          have e0 := SK.out wr.drew (fun _ _ _ => rfl)
          go_region_held3 (fun w' => w'.cell? ⟨p, 10, none⟩ = some (.int .i64 (bot : Int)) ∧ w'.cell? ⟨p, 22, none⟩ = some (.slice (some ⟨rb, 0, none⟩) x.2.length rc))
            (first | exact e5 | exact e4 | exact e3 | exact e2 | exact e1 | exact e0)
            (first
              | (go_at_call 120; refine HDel.mono ?_; rintro e V1 ⟨rfl, hO1, hk1, hb1⟩; have HE1 := HEM.out V1 hk1; have e1 := SK.out V1 (fun q _ hn => hk1 q hn))
              | (go_at_call 75; refine HE1.mono ?_; rintro e V2 ⟨v, g, rfl, hg1, hR2, b2⟩; obtain ⟨na, nc, hv2⟩ := rowB_shapeS hR2; rw [List.length_replicate] at hv2; subst hv2; have hI := HINS.out V1 V2 na nc g hO1 hk1 hb1 b2 hg1 hR2; have e2 := SK.out V2 (fun q hq hn => (b2.block q (Nat.lt_of_lt_of_le hq hb1.size)).trans (hk1 q hn)); have e3 := SK.out (V2.alloc (.cells #[.slice na n nc] 22)) (fun q hq hn => (Below.heap_alloc _ _ _ (Nat.lt_of_lt_of_le hq (Nat.le_trans hb1.size b2.size))).trans ((b2.block q (Nat.lt_of_lt_of_le hq hb1.size)).trans (hk1 q hn))))
              | (go_at_call 119; refine hI.mono ?_; rintro e V3 ⟨rfl, z10, z22, zf, HFI⟩; have e4 := And.intro z10 z22; have e5 := HFI.out.1))
          go_wp2_with fail
          go_roundg (k - 1)
          case measure => omega
          case rel => exact ⟨k - 1, j + 1, by first | rfl | simp, Nat.le_refl _, by omega, HRN.out, by rw [HN.out]; exact HFI.out.2.1, HB.out.trans HFI.out.2.2⟩
        · subst hc1
          go_upto_region 8 with fail
          have HX : Hid (DkX wr.drew N p x.1 x.2 cv tv gv (.slice (some ⟨rb, 0, none⟩) x.2.length rc) gvs vs gs) := HAA.out.x
          have HDel := delete_own N rb x.2.length rc top vs wr.drew HX.out.rws (RowsAt.sls HX.out.rin) (by have := HRL.out; omega)
          rw [show ((top + 1 : Nat) : Int) = (top : Int) + 1 by omega] at HDel
          have HEM : Hid (∀ V1 : World, (∀ q, q ≠ rb → V1.heap[q]? = wr.drew.heap[q]?) → Calls Tryz.prog 75 #[.pointer (some ⟨p, 0, none⟩)] V1 fun e W' => ∃ v g, e = .returned v ∧ V1.heap.size ≤ g ∧ RowB W' g v (List.replicate n (32, 0, x.1.sb, 0)) ∧ Below V1.heap.size V1 W') := fun V1 h1 => by
            have hp1 := (h1 p hpr).trans HX.out.blk
            obtain ⟨⟨q0, -, -, -, -, -, -, q7, -⟩, -, -⟩ := sh_cells hp1
            have q0 : V1.cell? ⟨p, 0, none⟩ = some (.int .i64 x.1.w) := q0
            have q7 : V1.cell? ⟨p, 7, none⟩ = some (.int .i64 x.1.sb) := q7
            rw [HW.out] at q0
            exact emptyS_any p n x.1.sb V1 q0 q7 hn1 hn2
          have HINS : Hid (∀ (V1 V2 : World) (a : Option Addr) (c g : Nat), V1.ownsRow N 22 1 (.slice (some ⟨rb, 0, none⟩) (x.2.length - 1) rc) (x.2.length - 1) (vs.eraseIdx top) → (∀ q, q ≠ rb → V1.heap[q]? = wr.drew.heap[q]?) → Below rb wr.drew V1 → Below V1.heap.size V1 V2 → V1.heap.size ≤ g → RowB V2 g (.slice a n c) (List.replicate n (32, 0, x.1.sb, 0)) → _) := fun V1 V2 a c g z1 z2 z3 z4 z5 z6 => roll_insI (fresh := bot) (bot := bot) HX.out (fun i hi hn q hq hm => HAA.out.gof i hi hn q hq (List.mem_of_mem_eraseIdx hm)) HBO.out hrc1 (by have := HRL.out; omega) (by have := HRL.out; omega) V1 V2 a c g z1 z2 z3 z4 z5 z6
          have SK : Hid (∀ V : World, (∀ q, q < wr.drew.heap.size → q ≠ rb → V.heap[q]? = wr.drew.heap[q]?) → V.cell? ⟨p, 10, none⟩ = some (.int .i64 (bot : Int)) ∧ V.cell? ⟨p, 22, none⟩ = some (.slice (some ⟨rb, 0, none⟩) x.2.length rc)) := fun V h => by
            have hp1 := (h p (heap_lt HX.out.blk) hpr).trans HX.out.blk
            obtain ⟨⟨-, -, -, -, -, -, -, -, -, -, q10⟩, ⟨-, -, -, -, -, -, -, -, -, -, -, q22⟩, -⟩ := sh_cells hp1
            have q10 : V.cell? ⟨p, 10, none⟩ = some (.int .i64 x.1.bot) := q10
            rw [HBO.out] at q10
            exact ⟨q10, q22⟩
          have e0 := SK.out wr.drew (fun _ _ _ => rfl)
          go_region_held3 (fun w' => w'.cell? ⟨p, 10, none⟩ = some (.int .i64 (bot : Int)) ∧ w'.cell? ⟨p, 22, none⟩ = some (.slice (some ⟨rb, 0, none⟩) x.2.length rc))
            (first | exact e5 | exact e4 | exact e3 | exact e2 | exact e1 | exact e0)
            (first
              | (go_at_call 120; refine HDel.mono ?_; rintro e V1 ⟨rfl, hO1, hk1, hb1⟩; have HE1 := HEM.out V1 hk1; have e1 := SK.out V1 (fun q _ hn => hk1 q hn))
              | (go_at_call 75; refine HE1.mono ?_; rintro e V2 ⟨v, g, rfl, hg1, hR2, b2⟩; obtain ⟨na, nc, hv2⟩ := rowB_shapeS hR2; rw [List.length_replicate] at hv2; subst hv2; have hI := HINS.out V1 V2 na nc g hO1 hk1 hb1 b2 hg1 hR2; have e2 := SK.out V2 (fun q hq hn => (b2.block q (Nat.lt_of_lt_of_le hq hb1.size)).trans (hk1 q hn)); have e3 := SK.out (V2.alloc (.cells #[.slice na n nc] 22)) (fun q hq hn => (Below.heap_alloc _ _ _ (Nat.lt_of_lt_of_le hq (Nat.le_trans hb1.size b2.size))).trans ((b2.block q (Nat.lt_of_lt_of_le hq hb1.size)).trans (hk1 q hn))))
              | (go_at_call 119; refine hI.mono ?_; rintro e V3 ⟨rfl, z10, z22, zf, HFI⟩; have e4 := And.intro z10 z22; have e5 := HFI.out.1))
          go_wp2_with fail
          go_roundg (k - 1)
          case measure => omega
          case rel => exact ⟨k - 1, j + 1, by first | rfl | simp, Nat.le_refl _, by omega, HRN.out, by rw [HN.out]; exact HFI.out.2.1, HB.out.trans HFI.out.2.2⟩
theorem roll_up (N p n top bot hh K : Nat) (bk : Int) (s : Scr) (rows : List (List C)) (W : World) (keep : Bool) (m : Int) (hD : DkAt W N p s rows) (hR : Rolls n bot hh bk (s, rows)) (hn1 : 1 ≤ n) (hn2 : n ≤ 120) (htb : top ≤ bot) (hbh : bot < hh) (hh60 : hh ≤ 60) (hK : max (-((bot : Int) - top + 1)) (min m ((bot : Int) - top + 1)) = (K : Int)) :
    Calls Tryz.prog 81 #[.pointer (some ⟨p, 0, none⟩), .int .i64 (top : Int), .int .i64 m, .bool keep] W fun e W' => e = .returned (.tuple #[]) ∧ DkAt W' N p (iterN (rUp n top bot keep) K (s, rows)).1 (iterN (rUp n top bot keep) K (s, rows)).2 ∧ Below N W W' :=
  (roll_upI N p n top bot hh K bk s rows W keep m hD hR hn1 hn2 htb hbh hh60 hK).mono fun _ _ h => ⟨h.1, h.2.1, h.2.2.b⟩
end Put
end Go.Proofs.YtennlgkjckcjoaaGreatDoor

/- The reference's desk: Roll, down. -/
namespace Go.Proofs.YtennlgkjckcjoaaGreatDoor
open Go.ChangeShapes Go.WideShapes Go.ChangeAt Go.RowKit
namespace Put
open Grd (C SliceAt CellsAt gridErr z0 nilV flat rowsL OwnG RowB RowsAt)
set_option linter.unusedSimpArgs false in
set_option maxHeartbeats 8000000 in
set_option maxRecDepth 100000 in
theorem roll_dn (N p n top bot hh K : Nat) (bk : Int) (s : Scr) (rows : List (List C)) (W : World) (keep : Bool) (m : Int) (hD : DkAt W N p s rows) (hR : Rolls n bot hh bk (s, rows)) (hn1 : 1 ≤ n) (hn2 : n ≤ 120) (htb : top ≤ bot) (hbh : bot < hh) (hh60 : hh ≤ 60) (hK : max (-((bot : Int) - top + 1)) (min m ((bot : Int) - top + 1)) = -(K : Int)) :
    Calls Tryz.prog 81 #[.pointer (some ⟨p, 0, none⟩), .int .i64 (top : Int), .int .i64 m, .bool keep] W fun e W' => e = .returned (.tuple #[]) ∧ DkAt W' N p (iterN (rDn n top bot) K (s, rows)).1 (iterN (rDn n top bot) K (s, rows)).2 ∧ Below N W W' := by
  obtain ⟨c0, c1, c3, c4, c5, c9, c10, c11, c19, f⟩ := hD.words
  have hb0 : s.bot = bot := hR.b
  rw [hb0] at c10
  have h1 := Grd.min2 m ((bot : Int) - top + 1)
  have h2 := Grd.max2 (-((bot : Int) - top + 1)) (min m ((bot : Int) - top + 1))
  rw [hK] at h2
  have HD : Hid (DkAt W N p s rows) := hD
  have HR : Hid (Rolls n bot hh bk (s, rows)) := hR
  have hw1 : IntKind.i64.wrap ((bot : Int) - top) = (bot : Int) - top := wrap_id _ (by omega) (by omega)
  have hw2 : IntKind.i64.wrap ((bot : Int) - top + 1) = (bot : Int) - top + 1 := wrap_id _ (by omega) (by omega)
  have hw3 : IntKind.i64.wrap (-((bot : Int) - top + 1)) = -((bot : Int) - top + 1) := wrap_id _ (by omega) (by omega)
  have hKle : K ≤ 60 := by omega
  clear hD hR c0 c1 c3 c4 c5 c9 c11 c19 f hK hb0
  go_enter Tryz.func81, Tryz.ntmps81
  go_wp2_with fail
  go_loopg [2] 0 (fun _ v wr => v = .int .i64 (-(K : Int)) ∧ wr = W)
  case atStart => exact ⟨rfl, rfl⟩
  case round =>
    obtain ⟨rfl, hww⟩ := hrel
    have hww := hww.symm
    subst hww
    have lt0 : ¬ ((0 : Int) < -(K : Int)) := by omega
    go_wp2_with fail
    go_loopg [2] K (fun q v w2 => ∃ k j : Nat, v = .int .i64 (-(k : Int)) ∧ k ≤ q ∧ k + j = K ∧ Rolls n bot hh bk (iterN (rDn n top bot) j (s, rows)) ∧ DkAt w2 N p (iterN (rDn n top bot) j (s, rows)).1 (iterN (rDn n top bot) j (s, rows)).2 ∧ Below N W w2)
    case atStart => exact ⟨K, 0, rfl, Nat.le_refl _, by omega, HR.out, HD.out, Below.refl _ _⟩
    case round =>
      obtain ⟨k, j, rfl, hkq, hkj, hRj, hDj, hBj⟩ := hrel
      by_cases hk0 : k = 0
      · subst hk0
        have ej : j = K := by omega
        subst ej
        go_wp2_with fail
        go_end0
        exact ⟨rfl, hDj, hBj⟩
      · have lt1 : -(k : Int) < 0 := by omega
        have HN : Hid (iterN (rDn n top bot) (j + 1) (s, rows) = rDn n top bot (iterN (rDn n top bot) j (s, rows))) := rfl
        have hw4 : IntKind.i64.wrap (-(k : Int) + 1) = -((k - 1 : Nat) : Int) := by rw [wrap_id _ (by omega) (by omega)]; omega
        generalize iterN (rDn n top bot) j (s, rows) = x at hRj hDj HN
        obtain ⟨cv, tv, gv, rv, gvs, vs, gs, hA⟩ := hDj
        have hrl := hRj.r
        have hwn := hRj.w
        have hbn := hRj.b
        obtain ⟨rb, rc, hrv, hrb, hrc1, hrc2, hvl, hrcell, A, hrA⟩ := own_cells hA.rws (by omega)
        subst hrv
        have hpr : p ≠ rb := by
          intro e
          rw [← e, hA.blk] at hrA
          injection hrA with hrA
          injection hrA with _ hrA _
          exact absurd hrA (by decide)
        have b0 : Below wr.heap.size wr wr.drew := (Below.refl _ _).drew
        have hX := hA.next b0
        obtain ⟨⟨d0, -, -, -, -, -, -, d7, -, -, d10⟩, ⟨-, -, -, -, -, -, -, -, -, -, -, d22⟩, -⟩ := sh_cells hX.blk
        rw [hwn] at d0
        rw [hbn] at d10
        have HRN : Hid (Rolls n bot hh bk (iterN (rDn n top bot) (j + 1) (s, rows))) := by rw [Hid, HN.out]; exact hRj.dn top (by omega) hbh
        have HDel := delete_own N rb x.2.length rc bot vs wr.drew hX.rws (RowsAt.sls hX.rin) (by omega)
        rw [show ((bot + 1 : Nat) : Int) = (bot : Int) + 1 by omega] at HDel
        have HEM : Hid (∀ V1 : World, (∀ q, q ≠ rb → V1.heap[q]? = wr.drew.heap[q]?) → Calls Tryz.prog 75 #[.pointer (some ⟨p, 0, none⟩)] V1 fun e W' => ∃ v g, e = .returned v ∧ V1.heap.size ≤ g ∧ RowB W' g v (List.replicate n (32, 0, x.1.sb, 0)) ∧ Below V1.heap.size V1 W') := fun V1 h1 => by
          have hp1 := (h1 p hpr).trans hX.blk
          obtain ⟨⟨q0, -, -, -, -, -, -, q7, -⟩, -, -⟩ := sh_cells hp1
          rw [hwn] at q0
          exact emptyS_any p n x.1.sb V1 q0 q7 hn1 hn2
        have HINS : Hid (∀ (V1 V2 : World) (a : Option Addr) (c g : Nat), V1.ownsRow N 22 1 (.slice (some ⟨rb, 0, none⟩) (x.2.length - 1) rc) (x.2.length - 1) (vs.eraseIdx bot) → (∀ q, q ≠ rb → V1.heap[q]? = wr.drew.heap[q]?) → Below rb wr.drew V1 → Below V1.heap.size V1 V2 → V1.heap.size ≤ g → RowB V2 g (.slice a n c) (List.replicate n (32, 0, x.1.sb, 0)) → _) := fun V1 V2 a c g z1 z2 z3 z4 z5 z6 => roll_ins (fresh := top) hX.x (fun i hi hn q hq hm => hX.gof i hi hn q hq (List.mem_of_mem_eraseIdx hm)) hbn hrc1 (by omega) (by omega) V1 V2 a c g z1 z2 z3 z4 z5 z6
        have HB : Hid (Below N W wr.drew) := hBj.drew
        have HX : Hid (DkA wr.drew N p x.1 x.2 cv tv gv (.slice (some ⟨rb, 0, none⟩) x.2.length rc) gvs vs gs) := hX
        have hwb : IntKind.i64.wrap ((bot : Int) + 1) = (bot : Int) + 1 := wrap_id _ (by omega) (by omega)
        clear hA hX hrA hrcell hvl hRj hBj HD HR h1 h2 hw1 hw2 hw3 c10 d0 d7 lt0
        have SK : Hid (∀ V : World, (∀ q, q < wr.heap.size → q ≠ rb → V.heap[q]? = wr.drew.heap[q]?) → V.cell? ⟨p, 10, none⟩ = some (.int .i64 (bot : Int)) ∧ V.cell? ⟨p, 22, none⟩ = some (.slice (some ⟨rb, 0, none⟩) x.2.length rc)) := fun V h => by
          have hp1 := (h p (heap_lt HX.out.blk) hpr).trans HX.out.blk
          obtain ⟨⟨-, -, -, -, -, -, -, -, -, -, q10⟩, ⟨-, -, -, -, -, -, -, -, -, -, -, q22⟩, -⟩ := sh_cells hp1
          rw [hbn] at q10
          exact ⟨q10, q22⟩
        clear hrl hwn hbn
        go_upto_region 11 with fail
        have e0 := SK.out wr.drew (fun _ _ _ => rfl)
        go_region_held3 (fun w' => w'.cell? ⟨p, 10, none⟩ = some (.int .i64 (bot : Int)) ∧ w'.cell? ⟨p, 22, none⟩ = some (.slice (some ⟨rb, 0, none⟩) x.2.length rc))
          (first | exact e5 | exact e4 | exact e3 | exact e2 | exact e1 | exact e0)
          (first
            | (go_at_call 120; refine HDel.mono ?_; rintro e V1 ⟨rfl, hO1, hk1, hb1⟩; have HE1 := HEM.out V1 hk1; have e1 := SK.out V1 (fun q _ hn => hk1 q hn))
            | (go_at_call 75; refine HE1.mono ?_; rintro e V2 ⟨v, g, rfl, hg1, hR2, b2⟩; obtain ⟨na, nc, hv2⟩ := rowB_shapeS hR2; rw [List.length_replicate] at hv2; subst hv2; have hI := HINS.out V1 V2 na nc g hO1 hk1 hb1 b2 hg1 hR2; have e2 := SK.out V2 (fun q hq hn => (b2.block q (Nat.lt_of_lt_of_le hq hb1.size)).trans (hk1 q hn)); have e3 := SK.out (V2.alloc (.cells #[.slice na n nc] 22)) (fun q hq hn => (Below.heap_alloc _ _ _ (Nat.lt_of_lt_of_le hq (Nat.le_trans hb1.size b2.size))).trans ((b2.block q (Nat.lt_of_lt_of_le hq hb1.size)).trans (hk1 q hn))))
            | (go_at_call 119; refine hI.mono ?_; rintro e V3 ⟨rfl, z10, z22, zf, HFI⟩; have e4 := And.intro z10 z22; have e5 : (V3.setCell ⟨p, 22, none⟩ (.slice (some ⟨rb, 0, none⟩) x.2.length rc)).cell? ⟨p, 10, none⟩ = some (.int .i64 (bot : Int)) ∧ (V3.setCell ⟨p, 22, none⟩ (.slice (some ⟨rb, 0, none⟩) x.2.length rc)).cell? ⟨p, 22, none⟩ = some (.slice (some ⟨rb, 0, none⟩) x.2.length rc) := HFI.out.1))
        all_goals go_wp2_with fail
        all_goals go_roundg (k - 1)
        case measure => omega
        case rel => exact ⟨k - 1, j + 1, by first | rfl | simp, Nat.le_refl _, by omega, HRN.out, by rw [HN.out]; exact HFI.out.2.1, HB.out.trans HFI.out.2.2⟩
end Put
end Go.Proofs.YtennlgkjckcjoaaGreatDoor
