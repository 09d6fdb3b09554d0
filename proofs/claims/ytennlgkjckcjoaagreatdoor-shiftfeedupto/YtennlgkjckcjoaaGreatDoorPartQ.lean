/- The reference's desk: Feed. -/
import Derived.Test.YtennlgkjckcjoaaGreatDoorPartP
import Derived.BigRegion
import Derived.Test.YtennlgkjckcjoaaGreatDoorPartO
import Derived.Test.YtennlgkjckcjoaaGreatDoorPartJ
namespace Go.Proofs.YtennlgkjckcjoaaGreatDoor
open Go.ChangeShapes Go.WideShapes Go.ChangeAt Go.RowKit
namespace Put
open Grd (C SliceAt CellsAt gridErr z0 nilV flat rowsL)
theorem rUp_up (n top bot : Nat) (s : Scr) (rows : List (List C)) : rUp n top bot true (s, rows) = (upS s rows top, replR rows n s.sb top bot) := by
  unfold rUp upS
  simp
/-- A row further. -/
def dfeedS (s : Scr) (rows : List (List C)) (top : Nat) : Scr := if s.y = s.bot then upS { s with late := false } rows top else { s with late := false, y := min (s.y + 1) (s.h - 1) }
def dfeedR (s : Scr) (rows : List (List C)) (n top bot : Nat) : List (List C) := if s.y = s.bot then replR rows n s.sb top bot else rows
set_option maxHeartbeats 4000000 in
set_option maxRecDepth 100000 in
theorem dfeed_anyI (N p n top bot hh : Nat) (s : Scr) (rows : List (List C)) (W : World) (hD : DkAt W N p s rows) (hR : Rolls n bot hh s.sb (s, rows)) (ht : s.top = top) (hn1 : 1 ≤ n) (hn2 : n ≤ 120) (htb : top ≤ bot) (hbh : bot < hh) (hh60 : hh ≤ 60) (hy0 : 0 ≤ s.y) (hy1 : s.y ≤ 60) (hh0 : 0 ≤ s.h) (hh1 : s.h ≤ 60) :
    Calls Tryz.prog 82 #[.pointer (some ⟨p, 0, none⟩)] W fun e W' => e = .returned (.tuple #[]) ∧ DkAt W' N p (dfeedS s rows top) (dfeedR s rows n top bot) ∧ Bel N W W' := by
  obtain ⟨c0, c1, c3, c4, c5, c9, c10, c11, c19, f⟩ := hD.words
  have f5 := f 5
  have HD1 : Hid (DkAt (W.setCell ⟨p, 5, none⟩ (.bool false)) N p { s with late := false } rows) := hD.set 5 _ (fun _ _ _ _ => rfl) rfl rfl
  have HB1 : Hid (Bel N W (W.setCell ⟨p, 5, none⟩ (.bool false))) := (Bel.refl _ _).setCell hD.lo _
  have HRL : Hid (∀ V, DkAt V N p { s with late := false } rows → Calls Tryz.prog 81 #[.pointer (some ⟨p, 0, none⟩), .int .i64 (top : Int), .int .i64 1, .bool true] V fun e W' => e = .returned (.tuple #[]) ∧ DkAt W' N p (upS { s with late := false } rows top) (replR rows n s.sb top bot) ∧ Bel N V W') := fun V h => by
    have key := roll_upI N p n top bot hh 1 s.sb { s with late := false } rows V true 1 h ⟨hR.w, hR.b, rfl, hR.r, hR.g⟩ hn1 hn2 htb hbh hh60 (by omega)
    have e : iterN (rUp n top bot true) 1 ({ s with late := false }, rows) = (upS { s with late := false } rows top, replR rows n s.sb top bot) := rUp_up n top bot { s with late := false } rows
    rw [e] at key
    exact key
  have HT : Hid (s.top = top) := ht
  have HLO : Hid (N ≤ p) := hD.lo
  clear hD hR ht c0 c1 c3 c4 c9 c10 c11 c19 f
  unfold dfeedS dfeedR
  by_cases hq0 : s.y = s.bot
  · rw [if_pos hq0, if_pos hq0]
    have hq : (s.y == s.bot) = true := by rw [beq_iff_eq]; exact hq0
    clear hq0
    generalize upS { s with late := false } rows top = s' at *
    generalize replR rows n s.sb top bot = rows' at *
    go_enter Tryz.func82, Tryz.ntmps82
    go_upto_region 1 with fail
    obtain ⟨-, -, -, d4, -, d9, d10, -, -, df⟩ := HD1.out.words
    clear c5 f5 df
    generalize (W.setCell ⟨p, 5, none⟩ (.bool false)) = X at *
    go_region
    have HSd : Hid (DkAt X.drew N p { s with late := false } rows) := HD1.out.next ((Below.refl _ _).drew)
    have HB2 : Hid (Bel N W X.drew) := HB1.out.drew
    clear d4 d9 d10 HD1 HB1
    generalize X.drew = Y at *
    obtain ⟨-, -, -, -, -, d9, -, -, -, df⟩ := HSd.out.words
    replace d9 : Y.cell? ⟨p, 9, none⟩ = some (.int .i64 s.top) := d9
    rw [HT.out] at d9
    have HU2 := HRL.out Y HSd.out
    clear df HRL HSd
    go_wp2_with fail
    refine HU2.mono ?_
    rintro e V ⟨rfl, hS2, hB3⟩
    go_wp2_with fail
    go_end0
    exact ⟨rfl, hS2, HB2.out.trans hB3⟩
  · rw [if_neg hq0, if_neg hq0]
    have hq : (s.y == s.bot) = false := by rw [beq_eq_false_iff_ne]; exact hq0
    have hmn := Grd.min2 (s.y + 1) (s.h - 1)
    clear hq0 HRL
    go_enter Tryz.func82, Tryz.ntmps82
    go_upto_region 1 with fail
    obtain ⟨-, -, -, d4, -, d9, d10, -, -, df⟩ := HD1.out.words
    clear c5 f5 df
    generalize (W.setCell ⟨p, 5, none⟩ (.bool false)) = X at *
    go_region
    have HSd : Hid (DkAt X.drew N p { s with late := false } rows) := HD1.out.next ((Below.refl _ _).drew)
    have HB2 : Hid (Bel N W X.drew) := HB1.out.drew
    clear d4 d9 d10 HD1 HB1
    generalize X.drew = Y at *
    obtain ⟨-, d1, -, d4, -, -, -, -, -, df⟩ := HSd.out.words
    replace d4 : Y.cell? ⟨p, 4, none⟩ = some (.int .i64 s.y) := d4
    replace d1 : Y.cell? ⟨p, 1, none⟩ = some (.int .i64 s.h) := d1
    have g4 := df 4
    have hw1 : IntKind.i64.wrap (s.y + 1) = s.y + 1 := wrap_id _ (by omega) (by omega)
    have hw2 : IntKind.i64.wrap (s.h - 1) = s.h - 1 := wrap_id _ (by omega) (by omega)
    have HE : Hid (DkAt (Y.setCell ⟨p, 4, none⟩ (.int .i64 (min (s.y + 1) (s.h - 1)))).drew N p { s with late := false, y := min (s.y + 1) (s.h - 1) } rows ∧ Bel N W (Y.setCell ⟨p, 4, none⟩ (.int .i64 (min (s.y + 1) (s.h - 1)))).drew) := by
      have h4 : DkAt (Y.setCell ⟨p, 4, none⟩ (.int .i64 (min (s.y + 1) (s.h - 1)))) N p { s with late := false, y := min (s.y + 1) (s.h - 1) } rows := HSd.out.set 4 _ (fun _ _ _ _ => rfl) rfl rfl
      exact ⟨h4.next ((Below.refl _ _).drew), (HB2.out.setCell HLO.out _).drew⟩
    clear df HSd
    go_upto_region 3 with fail
    go_region
    all_goals go_end0
    all_goals exact ⟨rfl, HE.out⟩
theorem dfeed_any (N p n top bot hh : Nat) (s : Scr) (rows : List (List C)) (W : World) (hD : DkAt W N p s rows) (hR : Rolls n bot hh s.sb (s, rows)) (ht : s.top = top) (hn1 : 1 ≤ n) (hn2 : n ≤ 120) (htb : top ≤ bot) (hbh : bot < hh) (hh60 : hh ≤ 60) (hy0 : 0 ≤ s.y) (hy1 : s.y ≤ 60) (hh0 : 0 ≤ s.h) (hh1 : s.h ≤ 60) :
    Calls Tryz.prog 82 #[.pointer (some ⟨p, 0, none⟩)] W fun e W' => e = .returned (.tuple #[]) ∧ DkAt W' N p (dfeedS s rows top) (dfeedR s rows n top bot) ∧ Below N W W' :=
  (dfeed_anyI N p n top bot hh s rows W hD hR ht hn1 hn2 htb hbh hh60 hy0 hy1 hh0 hh1).mono fun _ _ h => ⟨h.1, h.2.1, h.2.2.b⟩
end Put
end Go.Proofs.YtennlgkjckcjoaaGreatDoor

/- The reference's desk: Feed; Act: feed, back. -/
namespace Go.Proofs.YtennlgkjckcjoaaGreatDoor
open Go.ChangeShapes Go.WideShapes Go.ChangeAt Go.RowKit
namespace Put
open Grd (C SliceAt CellsAt gridErr z0 nilV flat rowsL)
set_option maxHeartbeats 8000000 in
set_option maxRecDepth 100000 in
theorem act_feed (a b : Int) (s : Scr) (rows : List (List C)) (n top bot hh : Nat) (hR : Rolls n bot hh s.sb (s, rows)) (ht : s.top = top) (hn1 : 1 ≤ n) (hn2 : n ≤ 120) (htb : top ≤ bot) (hbh : bot < hh) (hh60 : hh ≤ 60) (hy0 : 0 ≤ s.y) (hy1 : s.y ≤ 60) (hh0 : 0 ≤ s.h) (hh1 : s.h ≤ 60) : ActMakes ⟨#[102, 101, 101, 100]⟩ a b s (dfeedS s rows top) rows (dfeedR s rows n top bot) := by
  intro N W p hN hD
  have H := dfeed_any N p n top bot hh s rows W hD hR ht hn1 hn2 htb hbh hh60 hy0 hy1 hh0 hh1
  clear hD hR ht
  generalize dfeedS s rows top = s' at *
  generalize dfeedR s rows n top bot = rows' at *
  go_enter Tryz.func34, Tryz.ntmps34
  go_wp2_with fail
  refine H.mono ?_
  rintro e V ⟨rfl, h1, h2⟩
  go_wp2_with fail
  go_end0
  exact ⟨rfl, h1, h2⟩
def dbackS (s : Scr) : Scr := if s.y = s.top then { s with late := false } else { s with late := false, y := max (s.y - 1) 0 }
set_option maxHeartbeats 8000000 in
set_option maxRecDepth 100000 in
theorem act_back (a b : Int) (s : Scr) (rows : List (List C)) (n top bot hh : Nat) (hR : Rolls n bot hh s.sb (s, rows)) (ht : s.top = top) (hn1 : 1 ≤ n) (hn2 : n ≤ 120) (htb : top ≤ bot) (hbh : bot < hh) (hh60 : hh ≤ 60) (hy0 : 0 ≤ s.y) (hy1 : s.y ≤ 60) : ActMakes ⟨#[98, 97, 99, 107]⟩ a b s (dbackS s) rows (if s.y = s.top then replR rows n s.sb bot top else rows) := by
  intro N W p hN hD
  obtain ⟨c0, c1, c3, c4, c5, c9, c10, c11, c19, f⟩ := hD.words
  have f5 := f 5
  have HD1 : Hid (DkAt (W.setCell ⟨p, 5, none⟩ (.bool false)) N p { s with late := false } rows) := hD.set 5 _ (fun _ _ _ _ => rfl) rfl rfl
  have HB1 : Hid (Below N W (W.setCell ⟨p, 5, none⟩ (.bool false))) := (Below.refl _ _).setCell hD.lo _
  have HRL : Hid (∀ V, DkAt V N p { s with late := false } rows → Calls Tryz.prog 81 #[.pointer (some ⟨p, 0, none⟩), .int .i64 (top : Int), .int .i64 (-1), .bool true] V fun e W' => e = .returned (.tuple #[]) ∧ DkAt W' N p { s with late := false } (replR rows n s.sb bot top) ∧ Below N V W') := fun V h => by
    exact roll_dn N p n top bot hh 1 s.sb { s with late := false } rows V true (-1) h ⟨hR.w, hR.b, rfl, hR.r, hR.g⟩ hn1 hn2 htb hbh hh60 (by omega)
  have HT : Hid (s.top = top) := ht
  have HLO : Hid (N ≤ p) := hD.lo
  clear hD hR ht c0 c1 c3 c4 c9 c10 c11 c19 f
  unfold dbackS
  by_cases hq0 : s.y = s.top
  · rw [if_pos hq0, if_pos hq0]
    have hq : (s.y == s.top) = true := by rw [beq_iff_eq]; exact hq0
    clear hq0
    generalize replR rows n s.sb bot top = rows' at *
    go_enter Tryz.func34, Tryz.ntmps34
    go_upto_region 97 with fail
    obtain ⟨-, -, -, d4, -, d9, -, -, -, df⟩ := HD1.out.words
    clear c5 f5 df
    generalize (W.setCell ⟨p, 5, none⟩ (.bool false)) = X at *
    go_region
    have HSd : Hid (DkAt X.drew N p { s with late := false } rows) := HD1.out.next ((Below.refl _ _).drew)
    have HB2 : Hid (Below N W X.drew) := HB1.out.drew
    clear d4 d9 HD1 HB1
    generalize X.drew = Y at *
    obtain ⟨-, -, -, -, -, d9, -, -, -, df⟩ := HSd.out.words
    replace d9 : Y.cell? ⟨p, 9, none⟩ = some (.int .i64 s.top) := d9
    rw [HT.out] at d9
    have HU2 := HRL.out Y HSd.out
    clear df HRL HSd
    go_wp2_with fail
    refine HU2.mono ?_
    rintro e V ⟨rfl, hS2, hB3⟩
    go_wp2_with fail
    go_end0
    exact ⟨rfl, hS2, HB2.out.trans hB3⟩
  · rw [if_neg hq0, if_neg hq0]
    have hq : (s.y == s.top) = false := by rw [beq_eq_false_iff_ne]; exact hq0
    have hmx := Grd.max2 (s.y - 1) 0
    clear hq0 HRL
    go_enter Tryz.func34, Tryz.ntmps34
    go_upto_region 97 with fail
    obtain ⟨-, -, -, d4, -, d9, -, -, -, df⟩ := HD1.out.words
    clear c5 f5 df
    generalize (W.setCell ⟨p, 5, none⟩ (.bool false)) = X at *
    go_region
    have HSd : Hid (DkAt X.drew N p { s with late := false } rows) := HD1.out.next ((Below.refl _ _).drew)
    have HB2 : Hid (Below N W X.drew) := HB1.out.drew
    clear d4 d9 HD1 HB1
    generalize X.drew = Y at *
    obtain ⟨-, -, -, d4, -, -, -, -, -, df⟩ := HSd.out.words
    replace d4 : Y.cell? ⟨p, 4, none⟩ = some (.int .i64 s.y) := d4
    have g4 := df 4
    have hw1 : IntKind.i64.wrap (s.y - 1) = s.y - 1 := wrap_id _ (by omega) (by omega)
    have HE : Hid (DkAt (Y.setCell ⟨p, 4, none⟩ (.int .i64 (max (s.y - 1) 0))) N p { s with late := false, y := max (s.y - 1) 0 } rows ∧ Below N W (Y.setCell ⟨p, 4, none⟩ (.int .i64 (max (s.y - 1) 0)))) := ⟨HSd.out.set 4 _ (fun _ _ _ _ => rfl) rfl rfl, HB2.out.setCell HLO.out _⟩
    clear df HSd
    go_wp2_with fail
    go_end0
    exact ⟨rfl, HE.out⟩
end Put
end Go.Proofs.YtennlgkjckcjoaaGreatDoor

/- The law ShiftFeed. -/
namespace Go.Proofs.YtennlgkjckcjoaaGreatDoor
open Go.ChangeShapes Go.WideShapes Go.ChangeAt Go.RowKit
namespace Put
open Grd (C SliceAt CellsAt gridErr z0 nilV flat rowsL)
theorem plain_feed : Plain 57 := by
  intro args W
  kernel_rfl
theorem plain_back : Plain 58 := by
  intro args W
  kernel_rfl
theorem plainF_feed : Plain 23 := by
  intro args W
  kernel_rfl
theorem plainF_back : Plain 24 := by
  intro args W
  kernel_rfl
theorem upS_rows {s : Scr} {n hh : Nat} (hR : RightS s n hh) (s1 : Scr) (hg : s1.gone = s.gone) (top : Nat) : (upS s1 (rowsL n s.cs hh) top).gone.length ≤ 50 ∧ ∀ r, r ∈ (upS s1 (rowsL n s.cs hh) top).gone → r.length ≤ 120 := by
  unfold upS
  split
  · rw [hg]
    exact ⟨keepG_len _ _ hR.gl, keepG_rows hR _ (rowsL_row hR 0 (by rw [Grd.rowsL_len]; have := hR.h1; omega))⟩
  · rw [hg]
    refine ⟨hR.gl, fun r hr => ?_⟩
    have := (grid_size (hR.gr r hr)).2.1
    omega
/-- A feed. -/
def feedP (s : Scr) (rows : List (List C)) (top : Nat) : Scr := if s.y = s.bot then upS { s with late := false } rows top else feedS s
theorem feed_does (M n : Nat) (w : World) (s : Scr) (rows : List (List C)) (top bot : Nat) (ht : s.top = top) (hb : s.bot = bot) (hy0 : 0 ≤ s.y) (hy1 : s.y ≤ 60) (hh1 : 1 ≤ s.h) (hh2 : s.h ≤ 60) (hw : s.w = n) (hn1 : 1 ≤ n) (hn2 : n ≤ 120) (hg : top < rows.length) (hf : bot < rows.length) (hrl : rows.length ≤ 60) (hgl : s.gone.length ≤ 50) :
    Does 57 #[] M w s (feedP s rows top) rows (dfeedR s rows n top bot) := by
  intro W p hbw hS
  show Calls _ _ #[.pointer (some ⟨p, 0, none⟩)] _ _
  unfold feedP dfeedR
  by_cases hq : s.y = s.bot
  · rw [if_pos hq, if_pos hq]
    refine (feed_roll W M _ p n s rows hS top bot ht hb hq hw hn1 hn2 hg hf hrl hgl).mono ?_
    rintro e V ⟨rfl, h1, h2, -⟩
    exact ⟨rfl, h1, h2⟩
  · rw [if_neg hq, if_neg hq]
    refine (feed_plain W M _ p s rows hS hy0 hy1 hh1 hh2 hq).mono ?_
    rintro e V ⟨rfl, h1, h2, -⟩
    exact ⟨rfl, h1, h2⟩
theorem dfeedR_len (s : Scr) (rows : List (List C)) (n top bot : Nat) (hg : top < rows.length) (hf : bot < rows.length) : (dfeedR s rows n top bot).length = rows.length := by
  unfold dfeedR
  split
  · exact replR_len _ _ _ _ _ hg hf
  · rfl
theorem dfeedR_row (s : Scr) (rows : List (List C)) (n top bot : Nat) (hg : top < rows.length) (hf : bot < rows.length) (hn : ∀ i, i < rows.length → (rows.getD i []).length = n) (i : Nat) (hi : i < rows.length) : ((dfeedR s rows n top bot).getD i []).length = n := by
  unfold dfeedR
  split
  · exact replR_row _ _ _ _ _ hg hf hn i hi
  · exact hn i hi
theorem feedP_gone {s : Scr} {n hh : Nat} (hR : RightS s n hh) (top : Nat) : (feedP s (rowsL n s.cs hh) top).gone.length ≤ 50 ∧ ∀ r, r ∈ (feedP s (rowsL n s.cs hh) top).gone → r.length ≤ 120 := by
  unfold feedP
  split
  · exact upS_rows hR { s with late := false } rfl top
  · have e : (feedS s).gone = s.gone := by unfold feedS; split <;> rfl
    rw [e]
    refine ⟨hR.gl, fun r hr => ?_⟩
    have := (grid_size (hR.gr r hr)).2.1
    omega
theorem feed_any {w0 w : World} {s : Scr} {cv tv gv : Value} {n hh : Nat} (h : Met w0 w s cv tv gv) (hR : RightS s n hh) (top bot : Nat) (ht : s.top = top) (hb : s.bot = bot) : Calls Tryz.prog 23 #[.agg (scrA s cv tv gv)] w (Made w0 w { feedP s (rowsL n s.cs hh) top with cs := (dfeedR s (rowsL n s.cs hh) n top bot).flatten } 0) := by
  have e1 := hR.w
  have e2 := hR.h
  have n1 := hR.n1
  have n2 := hR.n2
  have h1 := hR.h1
  have h2 := hR.h2
  have y0 := hR.y0
  have y1 := hR.y1
  have t1 := hR.t1
  have t2 := hR.t2
  have hl := Grd.rowsL_len n s.cs hh
  have hgo := feedP_gone hR top
  refine feed_calls s _ cv tv gv 0 w0 w h.v h.b.size fun _ _ hW => ?_
  refine sc_good (h.next hW) hR _ plain_feed #[] (dfeedR s (rowsL n s.cs hh) n top bot) _ (fun w1 _ => feed_does _ n w1 s _ top bot ht hb y0 (by omega) (by omega) (by omega) e1 n1 n2 (by omega) (by omega) (by omega) hR.gl) (rowsOk hR _ _ (by rw [dfeedR_len _ _ _ _ _ (by omega) (by omega), hl]) (fun i hi => ?_) (by have := hgo.1; omega) (rows_le hgo.2)) rfl
  rw [dfeedR_len _ _ _ _ _ (by omega) (by omega)] at hi
  exact dfeedR_row _ _ _ _ _ (by omega) (by omega) (rowsL_row hR) i hi
theorem feed_bad {w0 w : World} {s : Scr} {cv tv gv : Value} (h : Met w0 w s cv tv gv) (hz : scrErr s ≠ 0) : Calls Tryz.prog 23 #[.agg (scrA s cv tv gv)] w (Made w0 w zScr (scrErr s)) :=
  feed_calls s zScr cv tv gv (scrErr s) w0 w h.v h.b.size fun _ _ hW => sc_bad (h.next hW) hz _ _
theorem smallNew {s s' : Scr} {n hh : Nat} (hR : RightS s n hh) (rows' : List (List C)) (hl : rows'.length = hh) (hn : ∀ i, i < rows'.length → (rows'.getD i []).length = n) (htb : s'.tabs = s.tabs) (hcs : s'.cs = rows'.flatten) (hg : s'.gone.length ≤ 50) (hr : ∀ r, r ∈ s'.gone → r.length ≤ 120) : Small s' := by
  have n2 := hR.n2
  have h2 := hR.h2
  have hlen := Grd.flatten_len n rows' hn hh (by omega)
  rw [← hl, List.take_length] at hlen
  refine ⟨?_, ?_, by omega, fun r hm => by have := hr r hm; omega⟩
  · rw [hcs, hlen]
    have := Nat.mul_le_mul (show rows'.length ≤ 60 by omega) n2
    omega
  · rw [htb]
    have := hR.tl
    omega
theorem dfeed_same {s : Scr} {n hh : Nat} (hR : RightS s n hh) (rows : List (List C)) (top : Nat) : dfeedS s rows top = feedP s rows top := by
  have e2 := hR.h
  have y1 := hR.y1
  unfold dfeedS feedP feedS
  split
  · rfl
  · split
    · rw [show min (s.y + 1) (s.h - 1) = s.y + 1 by omega]
    · have e : min (s.y + 1) (s.h - 1) = s.y := by omega
      rw [e]
theorem feedP_same (s : Scr) (rows : List (List C)) (top : Nat) : (feedP s rows top).w = s.w ∧ (feedP s rows top).h = s.h ∧ (feedP s rows top).tabs = s.tabs := by
  unfold feedP upS feedS
  split
  · split <;> exact ⟨rfl, rfl, rfl⟩
  · split <;> exact ⟨rfl, rfl, rfl⟩
theorem feed_agree {s : Scr} {n hh : Nat} (hR : RightS s n hh) (a b : Int) (top bot : Nat) (ht : s.top = top) (hb : s.bot = bot) : Agrees ⟨#[102, 101, 101, 100]⟩ a b s { feedP s (rowsL n s.cs hh) top with cs := (dfeedR s (rowsL n s.cs hh) n top bot).flatten } n hh := by
  have e1 := hR.w
  have e2 := hR.h
  have n1 := hR.n1
  have n2 := hR.n2
  have h1 := hR.h1
  have h2 := hR.h2
  have y0 := hR.y0
  have y1 := hR.y1
  have t1 := hR.t1
  have t2 := hR.t2
  have hl := Grd.rowsL_len n s.cs hh
  have hgo := feedP_gone hR top
  have hlen : (dfeedR s (rowsL n s.cs hh) n top bot).length = hh := by rw [dfeedR_len _ _ _ _ _ (by omega) (by omega), hl]
  have hrow : ∀ i, i < (dfeedR s (rowsL n s.cs hh) n top bot).length → ((dfeedR s (rowsL n s.cs hh) n top bot).getD i []).length = n := fun i hi => dfeedR_row _ _ _ _ _ (by omega) (by omega) (rowsL_row hR) i (by omega)
  have hs := feedP_same s (rowsL n s.cs hh) top
  have hA := act_feed a b s (rowsL n s.cs hh) n top bot hh ⟨e1, hb, rfl, hl, hR.gl⟩ ht n1 n2 (by omega) (by omega) h2 y0 (by omega) (by omega) (by omega)
  rw [dfeed_same hR] at hA
  refine ⟨smallNew hR _ hlen hrow hs.2.2 rfl hgo.1 hgo.2, _, _, hA, hlen, hrow, ?_⟩
  have q1 : (n : Int) = (feedP s (rowsL n s.cs hh) top).w := by rw [hs.1, e1]
  have q2 : (hh : Int) = (feedP s (rowsL n s.cs hh) top).h := by rw [hs.2.1, e2]
  rw [q1, q2]
theorem feed_law (s : Scr) (cv tv gv : Value) (w : World) (hT : Txt.Tab w) (hV : ScrV w s cv tv gv) (hB : Bulk s) :
    Calls Tryz.prog 13 #[.agg (scrA s cv tv gv), .func (.func 23) #[] #[], .string ⟨#[102, 101, 101, 100]⟩, .int .i64 0, .int .i64 0] w fun e w' => e = .returned (.bool true) ∧ Below w.heap.size w w' :=
  acts_any s cv tv gv _ plainF_feed #[] _ 0 0 w hT hV hB { feedP s (rowsL s.w.toNat s.cs s.h.toNat) s.top.toNat with cs := (dfeedR s (rowsL s.w.toNat s.cs s.h.toNat) s.w.toNat s.top.toNat s.bot.toNat).flatten } (fun hz _ _ _ _ _ _ hm => feed_bad hm hz) fun nn hh hR => by
    have e1 : s.w.toNat = nn := by rw [hR.w]; rfl
    have e2 : s.h.toNat = hh := by rw [hR.h]; rfl
    have t0 := hR.t0
    have t1 := hR.t1
    have ht : s.top = (s.top.toNat : Int) := by omega
    have hb : s.bot = (s.bot.toNat : Int) := by omega
    rw [e1, e2]
    exact ⟨fun _ _ _ _ _ _ hm => feed_any hm hR _ _ ht hb, feed_agree hR 0 0 _ _ ht hb⟩
/-- To the row above: the rows. -/
def backR (s : Scr) (rows : List (List C)) (n top bot : Nat) : List (List C) := if s.y = s.top then replR rows n s.sb bot top else rows
theorem backR_len (s : Scr) (rows : List (List C)) (n top bot : Nat) (hg : top < rows.length) (hf : bot < rows.length) : (backR s rows n top bot).length = rows.length := by
  unfold backR
  split
  · exact replR_len _ _ _ _ _ hf hg
  · rfl
theorem backR_row (s : Scr) (rows : List (List C)) (n top bot : Nat) (hg : top < rows.length) (hf : bot < rows.length) (hn : ∀ i, i < rows.length → (rows.getD i []).length = n) (i : Nat) (hi : i < rows.length) : ((backR s rows n top bot).getD i []).length = n := by
  unfold backR
  split
  · exact replR_row _ _ _ _ _ hf hg hn i hi
  · exact hn i hi
theorem backS_same (s : Scr) : (backS s).w = s.w ∧ (backS s).h = s.h ∧ (backS s).tabs = s.tabs ∧ (backS s).gone = s.gone := by
  unfold backS
  split
  · exact ⟨rfl, rfl, rfl, rfl⟩
  · split <;> exact ⟨rfl, rfl, rfl, rfl⟩
theorem dback_same {s : Scr} {n hh : Nat} (hR : RightS s n hh) : dbackS s = backS s := by
  have y0 := hR.y0
  unfold dbackS backS
  split
  · rfl
  · split
    · rw [show max (s.y - 1) 0 = s.y - 1 by omega]
    · have e : max (s.y - 1) 0 = s.y := by omega
      rw [e]
theorem back_any {w0 w : World} {s : Scr} {cv tv gv : Value} {n hh : Nat} (h : Met w0 w s cv tv gv) (hR : RightS s n hh) (top bot : Nat) (ht : s.top = top) (hb : s.bot = bot) : Calls Tryz.prog 24 #[.agg (scrA s cv tv gv)] w (Made w0 w { backS s with cs := (backR s (rowsL n s.cs hh) n top bot).flatten } 0) := by
  have e1 := hR.w
  have n1 := hR.n1
  have n2 := hR.n2
  have h1 := hR.h1
  have h2 := hR.h2
  have y0 := hR.y0
  have y1 := hR.y1
  have t1 := hR.t1
  have t2 := hR.t2
  have hl := Grd.rowsL_len n s.cs hh
  have hs := backS_same s
  refine back_calls s _ cv tv gv 0 w0 w h.v h.b.size fun _ _ hW => ?_
  refine sc_good (h.next hW) hR _ plain_back #[] (backR s (rowsL n s.cs hh) n top bot) _ (fun w1 _ => back_does _ n w1 s _ top bot ht hb y0 (by omega) e1 n1 n2 (by omega) (by omega) (by omega)) (rowsOk hR _ _ (by rw [backR_len _ _ _ _ _ (by omega) (by omega), hl]) (fun i hi => ?_) (by rw [hs.2.2.2]; have := hR.gl; omega) (by rw [hs.2.2.2]; exact rows_le (gone_le120 hR))) rfl
  rw [backR_len _ _ _ _ _ (by omega) (by omega)] at hi
  exact backR_row _ _ _ _ _ (by omega) (by omega) (rowsL_row hR) i hi
theorem back_bad {w0 w : World} {s : Scr} {cv tv gv : Value} (h : Met w0 w s cv tv gv) (hz : scrErr s ≠ 0) : Calls Tryz.prog 24 #[.agg (scrA s cv tv gv)] w (Made w0 w zScr (scrErr s)) :=
  back_calls s zScr cv tv gv (scrErr s) w0 w h.v h.b.size fun _ _ hW => sc_bad (h.next hW) hz _ _
theorem back_agree {s : Scr} {n hh : Nat} (hR : RightS s n hh) (a b : Int) (top bot : Nat) (ht : s.top = top) (hb : s.bot = bot) : Agrees ⟨#[98, 97, 99, 107]⟩ a b s { backS s with cs := (backR s (rowsL n s.cs hh) n top bot).flatten } n hh := by
  have e1 := hR.w
  have e2 := hR.h
  have n1 := hR.n1
  have n2 := hR.n2
  have h1 := hR.h1
  have h2 := hR.h2
  have y0 := hR.y0
  have y1 := hR.y1
  have t1 := hR.t1
  have t2 := hR.t2
  have hl := Grd.rowsL_len n s.cs hh
  have hlen : (backR s (rowsL n s.cs hh) n top bot).length = hh := by rw [backR_len _ _ _ _ _ (by omega) (by omega), hl]
  have hrow : ∀ i, i < (backR s (rowsL n s.cs hh) n top bot).length → ((backR s (rowsL n s.cs hh) n top bot).getD i []).length = n := fun i hi => backR_row _ _ _ _ _ (by omega) (by omega) (rowsL_row hR) i (by omega)
  have hs := backS_same s
  have hA := act_back a b s (rowsL n s.cs hh) n top bot hh ⟨e1, hb, rfl, hl, hR.gl⟩ ht n1 n2 (by omega) (by omega) h2 y0 (by omega)
  rw [dback_same hR] at hA
  refine ⟨smallNew hR _ hlen hrow hs.2.2.1 rfl (by show (backS s).gone.length ≤ 50; rw [hs.2.2.2]; exact hR.gl) (by show ∀ r, r ∈ (backS s).gone → r.length ≤ 120; rw [hs.2.2.2]; exact gone_le120 hR), _, _, hA, hlen, hrow, ?_⟩
  have q1 : (n : Int) = (backS s).w := by rw [hs.1, e1]
  have q2 : (hh : Int) = (backS s).h := by rw [hs.2.1, e2]
  rw [q1, q2]
  rfl
theorem back_law (s : Scr) (cv tv gv : Value) (w : World) (hT : Txt.Tab w) (hV : ScrV w s cv tv gv) (hB : Bulk s) :
    Calls Tryz.prog 13 #[.agg (scrA s cv tv gv), .func (.func 24) #[] #[], .string ⟨#[98, 97, 99, 107]⟩, .int .i64 0, .int .i64 0] w fun e w' => e = .returned (.bool true) ∧ Below w.heap.size w w' :=
  acts_any s cv tv gv _ plainF_back #[] _ 0 0 w hT hV hB { backS s with cs := (backR s (rowsL s.w.toNat s.cs s.h.toNat) s.w.toNat s.top.toNat s.bot.toNat).flatten } (fun hz _ _ _ _ _ _ hm => back_bad hm hz) fun nn hh hR => by
    have e1 : s.w.toNat = nn := by rw [hR.w]; rfl
    have e2 : s.h.toNat = hh := by rw [hR.h]; rfl
    have t0 := hR.t0
    have t1 := hR.t1
    have ht : s.top = (s.top.toNat : Int) := by omega
    have hb : s.bot = (s.bot.toNat : Int) := by omega
    rw [e1, e2]
    exact ⟨fun _ _ _ _ _ _ hm => back_any hm hR _ _ ht hb, back_agree hR 0 0 _ _ ht hb⟩
set_option maxHeartbeats 4000000 in
set_option maxRecDepth 100000 in
theorem shiftFeed_walk (s : Scr) (cv tv gv : Value) (w : World) (hT : Txt.Tab w) (hV : ScrV w s cv tv gv) (hB : Bulk s) :
    Calls Tryz.prog 7 #[.agg (scrA s cv tv gv)] w fun e w' => e = .returned (.bool true) ∧ Below w.heap.size w w' := by
  have HC1 : Hid (∀ W, Below w.heap.size w W → Calls Tryz.prog 13 #[.agg (scrA s cv tv gv), .func (.func 23) #[] #[], .string ⟨#[102, 101, 101, 100]⟩, .int .i64 0, .int .i64 0] W fun e w' => e = .returned (.bool true) ∧ Below W.heap.size W w') := fun W h => feed_law s cv tv gv W (Grd.Tab.next hT h) (hV.next h) hB
  have HC2 : Hid (∀ W, Below w.heap.size w W → Calls Tryz.prog 13 #[.agg (scrA s cv tv gv), .func (.func 24) #[] #[], .string ⟨#[98, 97, 99, 107]⟩, .int .i64 0, .int .i64 0] W fun e w' => e = .returned (.bool true) ∧ Below W.heap.size W w') := fun W h => back_law s cv tv gv W (Grd.Tab.next hT h) (hV.next h) hB
  obtain ⟨ca, cc, rfl⟩ := hV.c.shape
  obtain ⟨ta, tc, rfl⟩ := hV.t.slice
  obtain ⟨ga, gc, rfl⟩ := hV.g.slice
  have hkb : Below w.heap.size w (w.alloc (.cells (scrA s (.slice ca s.cs.length cc) (.slice ta s.tabs.length tc) (.slice ga s.gone.length gc)) 32)) := ((Below.refl _ _).alloc (by simp) _)
  have hx0 : (w.alloc (.cells (scrA s (.slice ca s.cs.length cc) (.slice ta s.tabs.length tc) (.slice ga s.gone.length gc)) 32)).heap[w.heap.size]? = some (.cells (scrA s (.slice ca s.cs.length cc) (.slice ta s.tabs.length tc) (.slice ga s.gone.length gc)) 32 (0, 0)) := by
    have h := heap_alloc_new w (.cells (scrA s (.slice ca s.cs.length cc) (.slice ta s.tabs.length tc) (.slice ga s.gone.length gc)) 32)
    have e : w.heap.size = w.heap.size := by simp
    rw [e] at h
    exact h
  have HX0 : Hid _ := hx0
  have HKB : Hid _ := hkb
  clear hkb hV hx0 hT hB
  go_enter Tryz.func7, Tryz.ntmps7
  go_upto_region 1 with fail
  generalize (w.alloc (.cells (scrA s (.slice ca s.cs.length cc) (.slice ta s.tabs.length tc) (.slice ga s.gone.length gc)) 32)) = X at *
  go_wp2_with (refine wpList_load_row rfl 32 (.tmp 1) rfl w.heap.size rfl _ _ _ _ HX0.out Tryz.underlying32 rfl (by kernel_rfl) ?_)
  refine (HC1.out _ HKB.out).mono ?_
  rintro e V1 ⟨rfl, b1⟩
  have HB1 : Hid (Below w.heap.size w V1) := HKB.out.trans (b1.mono HKB.out.size)
  have HX1 : Hid (V1.heap[w.heap.size]? = _) := Grd.carry HX0.out b1
  clear b1
  go_wp2_with (refine BigFrame.wpList_want rfl fun K hK => wp_load_row 32 (.tmp 1) rfl w.heap.size rfl _ _ _ _ HX1.out Tryz.underlying32 rfl (by kernel_rfl) (hK _ _ ?_))
  refine (HC2.out _ HB1.out).mono ?_
  rintro e V2 ⟨rfl, b2⟩
  have HB2 : Hid (Below w.heap.size w V2) := HB1.out.trans (b2.mono HB1.out.size)
  clear b2
  go_wp2_with fail
  go_ret
  exact ⟨rfl, HB2.out⟩
end Put
end Go.Proofs.YtennlgkjckcjoaaGreatDoor
