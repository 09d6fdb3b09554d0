/- put.Check. (Written by gen_putcheck.py.) -/
import Derived.Test.YtnkeahfcpbepjaaDoorPartG
import Derived.BigFrame
import Derived.Test.YtnkeahfcpbepjaaDoorRows
import Derived.Test.YtnkeahfcpbepjaaDoorProg
import Derived.RangeFuncBox
import Derived.RangeFuncLeaves
import Derived.Shelf.Abstract
import Derived.Shelf.RegionOpen
import Derived.WalkKit
import Derived.OwnWalkIn
import Derived.TacticsInMore
import Derived.LoopNIn
import Derived.LoopIn
import Derived.Maps.AppendAt
import Derived.Sort.BigQuietIn
import Derived.WalkSmall
import Derived.Test.YtnkeahfcpbepjaaDoorPartE
import Derived.Deep.RegionHeld3
import Derived.Deep.Cut
import Derived.Deep.CutRange
namespace Go.Proofs.YtnkeahfcpbepjaaDoor
open Go.ChangeShapes Go.WideShapes Go.ChangeAt Go.RowKit
namespace Put
open Grd (C SliceAt CellsAt gridErr z0)
open Sty (isSt)
open Txt (wd)
def lateBad (s : Scr) : Bool := s.late && (!decide (s.x = s.w - 1) || decide (bits .and .i64 s.modes 4 = 0))
def placeOk (s : Scr) : Bool := hasC s.w s.h s.x s.y && (hasC s.w s.h s.kx s.ky && regionOk s.h s.top s.bot)
def looksOk (s : Scr) : Bool := isSt (s.sf, s.sb, s.sx) && (isSt (s.kf, s.kb, s.kbits) && (decide (0 ≤ s.modes ∧ s.modes ≤ 63) && keptOk s.km))
def restOk (s : Scr) : Bool := decide ((s.tabs.length : Int) = s.w) && ((decide (s.last = 0) || !decide (wd s.last = 0)) && titleOk s.title)
/-- What is wrong with a screen; 0: nothing. -/
def scrErr (s : Scr) : Int :=
  if gridErr s.w s.h s.cs ≠ 0 then gridErr s.w s.h s.cs
  else if placeOk s = false then 4
  else if lateBad s = true then 5
  else if looksOk s = false then 4
  else if restOk s = false then 5
  else goneErr s.gone
/-- Numbers that fit their kinds; sizes that any machine has. -/
structure Fits (s : Scr) : Prop where
  m0 : -9223372036854775808 ≤ s.modes
  m1 : s.modes ≤ 9223372036854775807
  k0 : -9223372036854775808 ≤ s.km
  k1 : s.km ≤ 9223372036854775807
  tl : s.title.size ≤ 1048576
  gl : s.gone.length ≤ 1048576
  bl : s.tabs.length ≤ 1048576
theorem grid_size {a h : Int} {cs : List C} (hz : gridErr a h cs = 0) : 1 ≤ a ∧ a ≤ 120 ∧ 1 ≤ h ∧ h ≤ 60 := by
  unfold gridErr at hz
  cases hs : Grd.isSize a h with
  | false => rw [hs] at hz; simp at hz
  | true =>
    have h2 : 1 ≤ a ∧ a ≤ 120 ∧ 1 ≤ h ∧ h ≤ 60 := by simpa [Grd.isSize] using hs
    exact h2
set_option maxHeartbeats 16000000 in
set_option maxRecDepth 100000 in
theorem putCheck_any (s : Scr) (cv tv gv : Value) (w : World) (hT : Txt.Tab w) (hV : ScrV w s cv tv gv) (hF : Fits s) :
    Calls Tryd.prog 12 #[.agg (scrA s cv tv gv)] w fun e w' => e = .returned (.int .i64 (scrErr s)) ∧ Below w.heap.size w w' := by
  obtain ⟨ca, cc, hcv⟩ := hV.c.shape
  obtain ⟨ta, tc, htv⟩ := hV.t.slice
  obtain ⟨ga, gc, hgv⟩ := hV.g.slice
  subst hcv htv hgv
  have x0 := heap_alloc_new w (.cells (scrA s (.slice ca s.cs.length cc) (.slice ta s.tabs.length tc) (.slice ga s.gone.length gc)) 32)
  have kb : Below w.heap.size w (w.alloc (.cells (scrA s (.slice ca s.cs.length cc) (.slice ta s.tabs.length tc) (.slice ga s.gone.length gc)) 32)) := (Below.refl _ _).alloc (Nat.le_refl _) _
  have HRG : Hid (∀ W, Calls Tryd.prog 43 #[.agg (scrA s (.slice ca s.cs.length cc) (.slice ta s.tabs.length tc) (.slice ga s.gone.length gc))] W fun e w' => e = .returned (.bool (regionOk s.h s.top s.bot)) ∧ Below W.heap.size W w') := fun W => hasRegion_any s _ _ _ W
  have HB0 : Hid _ := kb
  have HX0 : Hid _ := x0
  have HT : Hid (∀ W, Below w.heap.size w W → Txt.Tab W) := fun W hW => Grd.Tab.next hT hW
  have HV : Hid (ScrV w s _ _ _) := hV
  have HF : Hid (Fits s) := hF
  obtain ⟨res, hres⟩ : ∃ res, scrErr s = res := ⟨_, rfl⟩
  rw [hres]
  have HC : Hid (scrErr s = res) := hres
  obtain ⟨⟨c0, c1, c2, c3, c4, c5, c6, c7, c8, c9, c10⟩, ⟨c11, c12, c13, c14, c15, c16, c17, c18, c19, c20, c21⟩, -⟩ := scr_cells x0
  have HGC := Grd.check_any s.w s.h _ s.cs _ (HT.out _ HB0.out) (HV.out.c.below HB0.out)
  clear x0 kb hT hV hF hres
  by_cases hz : gridErr s.w s.h s.cs = 0
  case neg =>
    have hzb : (gridErr s.w s.h s.cs != 0) = true := by simp [bne, hz]
    have HR : Hid (gridErr s.w s.h s.cs = res) := by
      unfold Hid
      rw [← HC.out]
      unfold scrErr
      rw [if_pos hz]
    clear hz
    generalize gridErr s.w s.h s.cs = ge at *
    go_enter Tryd.func12, Tryd.ntmps12
    go_wp2_with fail
    refine HGC.mono ?_
    rintro e W1 ⟨rfl, b⟩
    clear c0 c1 c2 c3 c4 c5 c6 c7 c8 c9 c10 c11 c12 c13 c14 c15 c16 c17 c18 c19 c20 c21
    go_wp2_with fail
    go_ret
    exact ⟨ret_int HR.out, HB0.out.trans (b.mono HB0.out.size)⟩
  obtain ⟨w1, w2, w3, w4⟩ := grid_size hz
  rw [hz] at HGC
  have HZ : Hid (gridErr s.w s.h s.cs = 0) := hz
  clear hz
  go_enter Tryd.func12, Tryd.ntmps12
  go_wp2_with fail
  refine (HGC).mono ?_
  rintro e W1 ⟨rfl, b⟩
  have HX1 : Hid (W1.heap[w.heap.size]? = _) := Grd.carry HX0.out b
  have HB1 : Hid (Below w.heap.size w W1) := HB0.out.trans (b.mono HB0.out.size)
  clear c0 c1 c2 c3 c4 c5 c6 c7 c8 c9 c10 c11 c12 c13 c14 c15 c16 c17 c18 c19 c20 c21 b
  obtain ⟨⟨c0, c1, c2, c3, c4, c5, c6, c7, c8, c9, c10⟩, ⟨c11, c12, c13, c14, c15, c16, c17, c18, c19, c20, c21⟩, -⟩ := scr_cells HX1.out
  go_wp2_with fail
  cases h1 : hasC s.w s.h s.x s.y with
  | false =>
    have H1 := hasCell_any s.w s.h (.slice ca s.cs.length cc) s.x s.y W1
    rw [h1] at H1
    refine (H1).mono ?_
    rintro e W2 ⟨rfl, b⟩
    have HX2 : Hid (W2.heap[w.heap.size]? = _) := Grd.carry HX1.out b
    have HB2 : Hid (Below w.heap.size w W2) := HB1.out.trans (b.mono HB1.out.size)
    clear c0 c1 c2 c3 c4 c5 c6 c7 c8 c9 c10 c11 c12 c13 c14 c15 c16 c17 c18 c19 c20 c21 b
    obtain ⟨⟨c0, c1, c2, c3, c4, c5, c6, c7, c8, c9, c10⟩, ⟨c11, c12, c13, c14, c15, c16, c17, c18, c19, c20, c21⟩, -⟩ := scr_cells HX2.out
    go_wp2_with fail
    have HR : Hid (4 = res) := by
      unfold Hid
      rw [← HC.out]
      simp [scrErr, HZ.out, placeOk, h1]
    clear c0 c1 c2 c3 c4 c5 c6 c7 c8 c9 c10 c11 c12 c13 c14 c15 c16 c17 c18 c19 c20 c21
    go_wp2_with fail
    go_ret
    exact ⟨ret_int HR.out, HB2.out⟩
  | true =>
  have H1 := hasCell_any s.w s.h (.slice ca s.cs.length cc) s.x s.y W1
  rw [h1] at H1
  refine (H1).mono ?_
  rintro e W2 ⟨rfl, b⟩
  have HX2 : Hid (W2.heap[w.heap.size]? = _) := Grd.carry HX1.out b
  have HB2 : Hid (Below w.heap.size w W2) := HB1.out.trans (b.mono HB1.out.size)
  clear c0 c1 c2 c3 c4 c5 c6 c7 c8 c9 c10 c11 c12 c13 c14 c15 c16 c17 c18 c19 c20 c21 b
  obtain ⟨⟨c0, c1, c2, c3, c4, c5, c6, c7, c8, c9, c10⟩, ⟨c11, c12, c13, c14, c15, c16, c17, c18, c19, c20, c21⟩, -⟩ := scr_cells HX2.out
  go_wp2_with fail
  cases h2 : hasC s.w s.h s.kx s.ky with
  | false =>
    have H2 := hasCell_any s.w s.h (.slice ca s.cs.length cc) s.kx s.ky W2
    rw [h2] at H2
    refine (H2).mono ?_
    rintro e W3 ⟨rfl, b⟩
    have HX3 : Hid (W3.heap[w.heap.size]? = _) := Grd.carry HX2.out b
    have HB3 : Hid (Below w.heap.size w W3) := HB2.out.trans (b.mono HB2.out.size)
    clear c0 c1 c2 c3 c4 c5 c6 c7 c8 c9 c10 c11 c12 c13 c14 c15 c16 c17 c18 c19 c20 c21 b
    obtain ⟨⟨c0, c1, c2, c3, c4, c5, c6, c7, c8, c9, c10⟩, ⟨c11, c12, c13, c14, c15, c16, c17, c18, c19, c20, c21⟩, -⟩ := scr_cells HX3.out
    go_wp2_with fail
    have HR : Hid (4 = res) := by
      unfold Hid
      rw [← HC.out]
      simp [scrErr, HZ.out, placeOk, h1, h2]
    clear c0 c1 c2 c3 c4 c5 c6 c7 c8 c9 c10 c11 c12 c13 c14 c15 c16 c17 c18 c19 c20 c21
    go_wp2_with fail
    go_ret
    exact ⟨ret_int HR.out, HB3.out⟩
  | true =>
  have H2 := hasCell_any s.w s.h (.slice ca s.cs.length cc) s.kx s.ky W2
  rw [h2] at H2
  refine (H2).mono ?_
  rintro e W3 ⟨rfl, b⟩
  have HX3 : Hid (W3.heap[w.heap.size]? = _) := Grd.carry HX2.out b
  have HB3 : Hid (Below w.heap.size w W3) := HB2.out.trans (b.mono HB2.out.size)
  clear c0 c1 c2 c3 c4 c5 c6 c7 c8 c9 c10 c11 c12 c13 c14 c15 c16 c17 c18 c19 c20 c21 b
  obtain ⟨⟨c0, c1, c2, c3, c4, c5, c6, c7, c8, c9, c10⟩, ⟨c11, c12, c13, c14, c15, c16, c17, c18, c19, c20, c21⟩, -⟩ := scr_cells HX3.out
  go_wp2_with (refine BigFrame.wpList_want rfl fun K hK => wp_load_row 32 (.tmp 1) rfl w.heap.size rfl _ _ _ _ HX3.out Tryd.underlying32 rfl (by kernel_rfl) (hK _ _ ?_))
  cases h3 : regionOk s.h s.top s.bot with
  | false =>
    have H3 := HRG.out W3
    rw [h3] at H3
    refine (H3).mono ?_
    rintro e W4 ⟨rfl, b⟩
    have HX4 : Hid (W4.heap[w.heap.size]? = _) := Grd.carry HX3.out b
    have HB4 : Hid (Below w.heap.size w W4) := HB3.out.trans (b.mono HB3.out.size)
    clear c0 c1 c2 c3 c4 c5 c6 c7 c8 c9 c10 c11 c12 c13 c14 c15 c16 c17 c18 c19 c20 c21 b
    obtain ⟨⟨c0, c1, c2, c3, c4, c5, c6, c7, c8, c9, c10⟩, ⟨c11, c12, c13, c14, c15, c16, c17, c18, c19, c20, c21⟩, -⟩ := scr_cells HX4.out
    go_wp2_with fail
    have HR : Hid (4 = res) := by
      unfold Hid
      rw [← HC.out]
      simp [scrErr, HZ.out, placeOk, h1, h2, h3]
    clear c0 c1 c2 c3 c4 c5 c6 c7 c8 c9 c10 c11 c12 c13 c14 c15 c16 c17 c18 c19 c20 c21
    go_wp2_with fail
    go_ret
    exact ⟨ret_int HR.out, HB4.out⟩
  | true =>
  have H3 := HRG.out W3
  rw [h3] at H3
  have HP : Hid (placeOk s = true) := by unfold Hid placeOk; rw [h1, h2, h3]; rfl
  clear H1 H2 h1 h2 h3 HGC
  cases hl : s.late with
  | false =>
    have HLT : Hid (lateBad s = false) := by unfold Hid lateBad; rw [hl]; rfl
    refine (H3).mono ?_
    rintro e W4 ⟨rfl, b⟩
    have HX4 : Hid (W4.heap[w.heap.size]? = _) := Grd.carry HX3.out b
    have HB4 : Hid (Below w.heap.size w W4) := HB3.out.trans (b.mono HB3.out.size)
    clear c0 c1 c2 c3 c4 c5 c6 c7 c8 c9 c10 c11 c12 c13 c14 c15 c16 c17 c18 c19 c20 c21 b
    obtain ⟨⟨c0, c1, c2, c3, c4, c5, c6, c7, c8, c9, c10⟩, ⟨c11, c12, c13, c14, c15, c16, c17, c18, c19, c20, c21⟩, -⟩ := scr_cells HX4.out
    go_wp2_with fail
    clear H3 HRG
    cases h5 : isSt (s.sf, s.sb, s.sx) with
    | false =>
      have H5 := Sty.check_any s.sf s.sb s.sx W4
      rw [h5] at H5
      refine (H5).mono ?_
      rintro e W5 ⟨rfl, b⟩
      have HX5 : Hid (W5.heap[w.heap.size]? = _) := Grd.carry HX4.out b
      have HB5 : Hid (Below w.heap.size w W5) := HB4.out.trans (b.mono HB4.out.size)
      clear c0 c1 c2 c3 c4 c5 c6 c7 c8 c9 c10 c11 c12 c13 c14 c15 c16 c17 c18 c19 c20 c21 b
      obtain ⟨⟨c0, c1, c2, c3, c4, c5, c6, c7, c8, c9, c10⟩, ⟨c11, c12, c13, c14, c15, c16, c17, c18, c19, c20, c21⟩, -⟩ := scr_cells HX5.out
      go_wp2_with fail
      have HR : Hid (4 = res) := by
        unfold Hid
        rw [← HC.out]
        simp [scrErr, HZ.out, HP.out, HLT.out, looksOk, h5]
      clear c0 c1 c2 c3 c4 c5 c6 c7 c8 c9 c10 c11 c12 c13 c14 c15 c16 c17 c18 c19 c20 c21
      go_wp2_with fail
      go_ret
      exact ⟨ret_int HR.out, HB5.out⟩
    | true =>
      have H5 := Sty.check_any s.sf s.sb s.sx W4
      rw [h5] at H5
      refine (H5).mono ?_
      rintro e W5 ⟨rfl, b⟩
      have HX5 : Hid (W5.heap[w.heap.size]? = _) := Grd.carry HX4.out b
      have HB5 : Hid (Below w.heap.size w W5) := HB4.out.trans (b.mono HB4.out.size)
      clear c0 c1 c2 c3 c4 c5 c6 c7 c8 c9 c10 c11 c12 c13 c14 c15 c16 c17 c18 c19 c20 c21 b
      obtain ⟨⟨c0, c1, c2, c3, c4, c5, c6, c7, c8, c9, c10⟩, ⟨c11, c12, c13, c14, c15, c16, c17, c18, c19, c20, c21⟩, -⟩ := scr_cells HX5.out
      go_wp2_with fail
      cases h6 : isSt (s.kf, s.kb, s.kbits) with
      | false =>
        have H6 := Sty.check_any s.kf s.kb s.kbits W5
        rw [h6] at H6
        refine (H6).mono ?_
        rintro e W6 ⟨rfl, b⟩
        have HX6 : Hid (W6.heap[w.heap.size]? = _) := Grd.carry HX5.out b
        have HB6 : Hid (Below w.heap.size w W6) := HB5.out.trans (b.mono HB5.out.size)
        clear c0 c1 c2 c3 c4 c5 c6 c7 c8 c9 c10 c11 c12 c13 c14 c15 c16 c17 c18 c19 c20 c21 b
        obtain ⟨⟨c0, c1, c2, c3, c4, c5, c6, c7, c8, c9, c10⟩, ⟨c11, c12, c13, c14, c15, c16, c17, c18, c19, c20, c21⟩, -⟩ := scr_cells HX6.out
        go_wp2_with fail
        have HR : Hid (4 = res) := by
          unfold Hid
          rw [← HC.out]
          simp [scrErr, HZ.out, HP.out, HLT.out, looksOk, h5, h6]
        clear c0 c1 c2 c3 c4 c5 c6 c7 c8 c9 c10 c11 c12 c13 c14 c15 c16 c17 c18 c19 c20 c21
        go_wp2_with fail
        go_ret
        exact ⟨ret_int HR.out, HB6.out⟩
      | true =>
        have H6 := Sty.check_any s.kf s.kb s.kbits W5
        rw [h6] at H6
        by_cases hm : 0 ≤ s.modes ∧ s.modes ≤ 63
        case neg =>
          have hmb : (bits .andNot .i64 s.modes 63 != 0) = true := by rw [bne_iff_ne]; intro h; exact hm ((modes_ok _ HF.out.m0 HF.out.m1).1 h)
          refine (H6).mono ?_
          rintro e W6 ⟨rfl, b⟩
          have HX6 : Hid (W6.heap[w.heap.size]? = _) := Grd.carry HX5.out b
          have HB6 : Hid (Below w.heap.size w W6) := HB5.out.trans (b.mono HB5.out.size)
          clear c0 c1 c2 c3 c4 c5 c6 c7 c8 c9 c10 c11 c12 c13 c14 c15 c16 c17 c18 c19 c20 c21 b
          obtain ⟨⟨c0, c1, c2, c3, c4, c5, c6, c7, c8, c9, c10⟩, ⟨c11, c12, c13, c14, c15, c16, c17, c18, c19, c20, c21⟩, -⟩ := scr_cells HX6.out
          go_wp2_with fail
          have HR : Hid (4 = res) := by
            unfold Hid
            rw [← HC.out]
            simp [scrErr, HZ.out, HP.out, HLT.out, looksOk, h5, h6, hm]
          clear c0 c1 c2 c3 c4 c5 c6 c7 c8 c9 c10 c11 c12 c13 c14 c15 c16 c17 c18 c19 c20 c21
          go_wp2_with fail
          go_ret
          exact ⟨ret_int HR.out, HB6.out⟩
        have hmb : (bits .andNot .i64 s.modes 63 != 0) = false := by rw [bne_eq_false_iff_eq]; exact (modes_ok _ HF.out.m0 HF.out.m1).2 hm
        cases h7 : keptOk s.km with
        | false =>
          have hkb : (bits .andNot .i64 s.km 6 != 0) = true := by rw [bne_iff_ne]; intro h; rw [(kept_ok _ HF.out.k0 HF.out.k1).1 h] at h7; cases h7
          refine (H6).mono ?_
          rintro e W6 ⟨rfl, b⟩
          have HX6 : Hid (W6.heap[w.heap.size]? = _) := Grd.carry HX5.out b
          have HB6 : Hid (Below w.heap.size w W6) := HB5.out.trans (b.mono HB5.out.size)
          clear c0 c1 c2 c3 c4 c5 c6 c7 c8 c9 c10 c11 c12 c13 c14 c15 c16 c17 c18 c19 c20 c21 b
          obtain ⟨⟨c0, c1, c2, c3, c4, c5, c6, c7, c8, c9, c10⟩, ⟨c11, c12, c13, c14, c15, c16, c17, c18, c19, c20, c21⟩, -⟩ := scr_cells HX6.out
          go_wp2_with fail
          have HR : Hid (4 = res) := by
            unfold Hid
            rw [← HC.out]
            simp [scrErr, HZ.out, HP.out, HLT.out, looksOk, h5, h6, hm, h7]
          clear c0 c1 c2 c3 c4 c5 c6 c7 c8 c9 c10 c11 c12 c13 c14 c15 c16 c17 c18 c19 c20 c21
          go_wp2_with fail
          go_ret
          exact ⟨ret_int HR.out, HB6.out⟩
        | true =>
          have hkb : (bits .andNot .i64 s.km 6 != 0) = false := by rw [bne_eq_false_iff_eq]; exact (kept_ok _ HF.out.k0 HF.out.k1).2 h7
          have HLK : Hid (looksOk s = true) := by unfold Hid looksOk; simp [h5, h6, h7, hm]
          clear h5 h6 h7 hm
          have htb := HF.out.bl
          by_cases t1 : (s.tabs.length : Int) = s.w
          case neg =>
            have t1b : ((s.tabs.length : Int) != s.w) = true := by rw [bne_iff_ne]; exact t1
            have HT1 : Hid (¬ (s.tabs.length : Int) = s.w) := t1
            clear t1
            refine (H6).mono ?_
            rintro e W6 ⟨rfl, b⟩
            have HX6 : Hid (W6.heap[w.heap.size]? = _) := Grd.carry HX5.out b
            have HB6 : Hid (Below w.heap.size w W6) := HB5.out.trans (b.mono HB5.out.size)
            clear c0 c1 c2 c3 c4 c5 c6 c7 c8 c9 c10 c11 c12 c13 c14 c15 c16 c17 c18 c19 c20 c21 b
            obtain ⟨⟨c0, c1, c2, c3, c4, c5, c6, c7, c8, c9, c10⟩, ⟨c11, c12, c13, c14, c15, c16, c17, c18, c19, c20, c21⟩, -⟩ := scr_cells HX6.out
            go_wp2_with fail
            have HR : Hid (5 = res) := by
              unfold Hid
              rw [← HC.out]
              simp [scrErr, HZ.out, HP.out, HLT.out, HLK.out, restOk, HT1.out]
            clear c0 c1 c2 c3 c4 c5 c6 c7 c8 c9 c10 c11 c12 c13 c14 c15 c16 c17 c18 c19 c20 c21
            go_wp2_with fail
            go_ret
            exact ⟨ret_int HR.out, HB6.out⟩
          have t1b : ((s.tabs.length : Int) != s.w) = false := by rw [bne_eq_false_iff_eq]; exact t1
          have HT1 : Hid ((s.tabs.length : Int) = s.w) := t1
          clear t1
          by_cases l0 : s.last = 0
          · have l0b : (s.last != 0) = false := by rw [bne_eq_false_iff_eq]; exact l0
            have HL0 : Hid ((decide (s.last = 0) || !decide (wd s.last = 0)) = true) := by unfold Hid; rw [decide_eq_true l0]; rfl
            clear l0
            refine (H6).mono ?_
            rintro e W6 ⟨rfl, b⟩
            have HX6 : Hid (W6.heap[w.heap.size]? = _) := Grd.carry HX5.out b
            have HB6 : Hid (Below w.heap.size w W6) := HB5.out.trans (b.mono HB5.out.size)
            clear c0 c1 c2 c3 c4 c5 c6 c7 c8 c9 c10 c11 c12 c13 c14 c15 c16 c17 c18 c19 c20 c21 b
            obtain ⟨⟨c0, c1, c2, c3, c4, c5, c6, c7, c8, c9, c10⟩, ⟨c11, c12, c13, c14, c15, c16, c17, c18, c19, c20, c21⟩, -⟩ := scr_cells HX6.out
            go_wp2_with fail
            clear H5 H6
            cases h9 : titleOk s.title with
            | false =>
              have H9 := isTitle_any s.title W6 (HT.out _ HB6.out) HF.out.tl
              rw [h9] at H9
              refine (H9).mono ?_
              rintro e W7 ⟨rfl, b⟩
              have HX7 : Hid (W7.heap[w.heap.size]? = _) := Grd.carry HX6.out b
              have HB7 : Hid (Below w.heap.size w W7) := HB6.out.trans (b.mono HB6.out.size)
              clear c0 c1 c2 c3 c4 c5 c6 c7 c8 c9 c10 c11 c12 c13 c14 c15 c16 c17 c18 c19 c20 c21 b
              obtain ⟨⟨c0, c1, c2, c3, c4, c5, c6, c7, c8, c9, c10⟩, ⟨c11, c12, c13, c14, c15, c16, c17, c18, c19, c20, c21⟩, -⟩ := scr_cells HX7.out
              go_wp2_with fail
              have HR : Hid (5 = res) := by
                unfold Hid
                rw [← HC.out]
                simp [scrErr, HZ.out, HP.out, HLT.out, HLK.out, restOk, h9]
              clear c0 c1 c2 c3 c4 c5 c6 c7 c8 c9 c10 c11 c12 c13 c14 c15 c16 c17 c18 c19 c20 c21
              go_wp2_with fail
              go_ret
              exact ⟨ret_int HR.out, HB7.out⟩
            | true =>
              have H9 := isTitle_any s.title W6 (HT.out _ HB6.out) HF.out.tl
              rw [h9] at H9
              have HRS : Hid (restOk s = true) := by unfold Hid restOk; simp [HL0.out, HT1.out, h9]
              clear h9
              refine (H9).mono ?_
              rintro e W7 ⟨rfl, b⟩
              have HX7 : Hid (W7.heap[w.heap.size]? = _) := Grd.carry HX6.out b
              have HB7 : Hid (Below w.heap.size w W7) := HB6.out.trans (b.mono HB6.out.size)
              clear c0 c1 c2 c3 c4 c5 c6 c7 c8 c9 c10 c11 c12 c13 c14 c15 c16 c17 c18 c19 c20 c21 b
              obtain ⟨⟨c0, c1, c2, c3, c4, c5, c6, c7, c8, c9, c10⟩, ⟨c11, c12, c13, c14, c15, c16, c17, c18, c19, c20, c21⟩, -⟩ := scr_cells HX7.out
              go_wp2_with fail
              clear H9
              have HGN := checkGone_any s.gone _ W7 (HT.out _ HB7.out) (HV.out.g.next HB7.out) HF.out.gl
              have HR : Hid (goneErr s.gone = res) := by
                unfold Hid
                rw [← HC.out]
                simp [scrErr, HZ.out, HP.out, HLT.out, HLK.out, HRS.out]
              generalize goneErr s.gone = ge at HGN HR
              refine HGN.mono ?_
              rintro e V ⟨rfl, b⟩
              clear c0 c1 c2 c3 c4 c5 c6 c7 c8 c9 c10 c11 c12 c13 c14 c15 c16 c17 c18 c19 c20 c21
              go_wp2_with fail
              go_ret
              exact ⟨ret_int HR.out, HB7.out.trans (b.mono HB7.out.size)⟩
          · have l0b : (s.last != 0) = true := by rw [bne_iff_ne]; exact l0
            have HL1 : Hid (¬ s.last = 0) := l0
            clear l0
            by_cases l1 : wd s.last = 0
            · have HL2 : Hid (wd s.last = 0) := l1
              clear l1
              refine (H6).mono ?_
              rintro e W6 ⟨rfl, b⟩
              have HX6 : Hid (W6.heap[w.heap.size]? = _) := Grd.carry HX5.out b
              have HB6 : Hid (Below w.heap.size w W6) := HB5.out.trans (b.mono HB5.out.size)
              clear c0 c1 c2 c3 c4 c5 c6 c7 c8 c9 c10 c11 c12 c13 c14 c15 c16 c17 c18 c19 c20 c21 b
              obtain ⟨⟨c0, c1, c2, c3, c4, c5, c6, c7, c8, c9, c10⟩, ⟨c11, c12, c13, c14, c15, c16, c17, c18, c19, c20, c21⟩, -⟩ := scr_cells HX6.out
              go_wp2_with fail
              have H8 := Grd.width_to s.last W6 (HT.out _ HB6.out) 0 HL2.out
              refine (H8).mono ?_
              rintro e W7 ⟨rfl, b⟩
              have HX7 : Hid (W7.heap[w.heap.size]? = _) := Grd.carry HX6.out b
              have HB7 : Hid (Below w.heap.size w W7) := HB6.out.trans (b.mono HB6.out.size)
              clear c0 c1 c2 c3 c4 c5 c6 c7 c8 c9 c10 c11 c12 c13 c14 c15 c16 c17 c18 c19 c20 c21 b
              obtain ⟨⟨c0, c1, c2, c3, c4, c5, c6, c7, c8, c9, c10⟩, ⟨c11, c12, c13, c14, c15, c16, c17, c18, c19, c20, c21⟩, -⟩ := scr_cells HX7.out
              go_wp2_with fail
              have HR : Hid (5 = res) := by
                unfold Hid
                rw [← HC.out]
                simp [scrErr, HZ.out, HP.out, HLT.out, HLK.out, restOk, HL1.out, HL2.out]
              clear c0 c1 c2 c3 c4 c5 c6 c7 c8 c9 c10 c11 c12 c13 c14 c15 c16 c17 c18 c19 c20 c21
              go_wp2_with fail
              go_ret
              exact ⟨ret_int HR.out, HB7.out⟩
            · have l1b : (wd s.last == 0) = false := by rw [beq_eq_false_iff_ne]; exact l1
              have HL0 : Hid ((decide (s.last = 0) || !decide (wd s.last = 0)) = true) := by unfold Hid; rw [decide_eq_false l1]; simp
              clear l1
              refine (H6).mono ?_
              rintro e W6 ⟨rfl, b⟩
              have HX6 : Hid (W6.heap[w.heap.size]? = _) := Grd.carry HX5.out b
              have HB6 : Hid (Below w.heap.size w W6) := HB5.out.trans (b.mono HB5.out.size)
              clear c0 c1 c2 c3 c4 c5 c6 c7 c8 c9 c10 c11 c12 c13 c14 c15 c16 c17 c18 c19 c20 c21 b
              obtain ⟨⟨c0, c1, c2, c3, c4, c5, c6, c7, c8, c9, c10⟩, ⟨c11, c12, c13, c14, c15, c16, c17, c18, c19, c20, c21⟩, -⟩ := scr_cells HX6.out
              go_wp2_with fail
              have H8 := Grd.width_to s.last W6 (HT.out _ HB6.out) _ rfl
              refine (H8).mono ?_
              rintro e W7 ⟨rfl, b⟩
              have HX7 : Hid (W7.heap[w.heap.size]? = _) := Grd.carry HX6.out b
              have HB7 : Hid (Below w.heap.size w W7) := HB6.out.trans (b.mono HB6.out.size)
              clear c0 c1 c2 c3 c4 c5 c6 c7 c8 c9 c10 c11 c12 c13 c14 c15 c16 c17 c18 c19 c20 c21 b
              obtain ⟨⟨c0, c1, c2, c3, c4, c5, c6, c7, c8, c9, c10⟩, ⟨c11, c12, c13, c14, c15, c16, c17, c18, c19, c20, c21⟩, -⟩ := scr_cells HX7.out
              go_wp2_with fail
              clear H5 H6 H8
              cases h9 : titleOk s.title with
              | false =>
                have H9 := isTitle_any s.title W7 (HT.out _ HB7.out) HF.out.tl
                rw [h9] at H9
                refine (H9).mono ?_
                rintro e W8 ⟨rfl, b⟩
                have HX8 : Hid (W8.heap[w.heap.size]? = _) := Grd.carry HX7.out b
                have HB8 : Hid (Below w.heap.size w W8) := HB7.out.trans (b.mono HB7.out.size)
                clear c0 c1 c2 c3 c4 c5 c6 c7 c8 c9 c10 c11 c12 c13 c14 c15 c16 c17 c18 c19 c20 c21 b
                obtain ⟨⟨c0, c1, c2, c3, c4, c5, c6, c7, c8, c9, c10⟩, ⟨c11, c12, c13, c14, c15, c16, c17, c18, c19, c20, c21⟩, -⟩ := scr_cells HX8.out
                go_wp2_with fail
                have HR : Hid (5 = res) := by
                  unfold Hid
                  rw [← HC.out]
                  simp [scrErr, HZ.out, HP.out, HLT.out, HLK.out, restOk, h9]
                clear c0 c1 c2 c3 c4 c5 c6 c7 c8 c9 c10 c11 c12 c13 c14 c15 c16 c17 c18 c19 c20 c21
                go_wp2_with fail
                go_ret
                exact ⟨ret_int HR.out, HB8.out⟩
              | true =>
                have H9 := isTitle_any s.title W7 (HT.out _ HB7.out) HF.out.tl
                rw [h9] at H9
                have HRS : Hid (restOk s = true) := by unfold Hid restOk; simp [HL0.out, HT1.out, h9]
                clear h9
                refine (H9).mono ?_
                rintro e W8 ⟨rfl, b⟩
                have HX8 : Hid (W8.heap[w.heap.size]? = _) := Grd.carry HX7.out b
                have HB8 : Hid (Below w.heap.size w W8) := HB7.out.trans (b.mono HB7.out.size)
                clear c0 c1 c2 c3 c4 c5 c6 c7 c8 c9 c10 c11 c12 c13 c14 c15 c16 c17 c18 c19 c20 c21 b
                obtain ⟨⟨c0, c1, c2, c3, c4, c5, c6, c7, c8, c9, c10⟩, ⟨c11, c12, c13, c14, c15, c16, c17, c18, c19, c20, c21⟩, -⟩ := scr_cells HX8.out
                go_wp2_with fail
                clear H9
                have HGN := checkGone_any s.gone _ W8 (HT.out _ HB8.out) (HV.out.g.next HB8.out) HF.out.gl
                have HR : Hid (goneErr s.gone = res) := by
                  unfold Hid
                  rw [← HC.out]
                  simp [scrErr, HZ.out, HP.out, HLT.out, HLK.out, HRS.out]
                generalize goneErr s.gone = ge at HGN HR
                refine HGN.mono ?_
                rintro e V ⟨rfl, b⟩
                clear c0 c1 c2 c3 c4 c5 c6 c7 c8 c9 c10 c11 c12 c13 c14 c15 c16 c17 c18 c19 c20 c21
                go_wp2_with fail
                go_ret
                exact ⟨ret_int HR.out, HB8.out.trans (b.mono HB8.out.size)⟩
  | true =>
    by_cases hx : s.x = s.w - 1
    case neg =>
      have hxb : (s.x != s.w - 1) = true := by rw [bne_iff_ne]; exact hx
      have HLT : Hid (lateBad s = true) := by unfold Hid lateBad; rw [hl, decide_eq_false hx]; rfl
      clear hx
      refine (H3).mono ?_
      rintro e W4 ⟨rfl, b⟩
      have HX4 : Hid (W4.heap[w.heap.size]? = _) := Grd.carry HX3.out b
      have HB4 : Hid (Below w.heap.size w W4) := HB3.out.trans (b.mono HB3.out.size)
      clear c0 c1 c2 c3 c4 c5 c6 c7 c8 c9 c10 c11 c12 c13 c14 c15 c16 c17 c18 c19 c20 c21 b
      obtain ⟨⟨c0, c1, c2, c3, c4, c5, c6, c7, c8, c9, c10⟩, ⟨c11, c12, c13, c14, c15, c16, c17, c18, c19, c20, c21⟩, -⟩ := scr_cells HX4.out
      go_wp2_with fail
      have HR : Hid (5 = res) := by
        unfold Hid
        rw [← HC.out]
        simp [scrErr, HZ.out, HP.out, HLT.out]
      clear c0 c1 c2 c3 c4 c5 c6 c7 c8 c9 c10 c11 c12 c13 c14 c15 c16 c17 c18 c19 c20 c21
      go_wp2_with fail
      go_ret
      exact ⟨ret_int HR.out, HB4.out⟩
    have hxb : (s.x != s.w - 1) = false := by rw [bne_eq_false_iff_eq]; exact hx
    by_cases hm4 : bits .and .i64 s.modes 4 = 0
    · have hmb : (bits .and .i64 s.modes 4 == 0) = true := by rw [beq_iff_eq]; exact hm4
      have HLT : Hid (lateBad s = true) := by unfold Hid lateBad; rw [hl, decide_eq_true hm4]; simp
      clear hx hm4
      refine (H3).mono ?_
      rintro e W4 ⟨rfl, b⟩
      have HX4 : Hid (W4.heap[w.heap.size]? = _) := Grd.carry HX3.out b
      have HB4 : Hid (Below w.heap.size w W4) := HB3.out.trans (b.mono HB3.out.size)
      clear c0 c1 c2 c3 c4 c5 c6 c7 c8 c9 c10 c11 c12 c13 c14 c15 c16 c17 c18 c19 c20 c21 b
      obtain ⟨⟨c0, c1, c2, c3, c4, c5, c6, c7, c8, c9, c10⟩, ⟨c11, c12, c13, c14, c15, c16, c17, c18, c19, c20, c21⟩, -⟩ := scr_cells HX4.out
      go_wp2_with fail
      have HR : Hid (5 = res) := by
        unfold Hid
        rw [← HC.out]
        simp [scrErr, HZ.out, HP.out, HLT.out]
      clear c0 c1 c2 c3 c4 c5 c6 c7 c8 c9 c10 c11 c12 c13 c14 c15 c16 c17 c18 c19 c20 c21
      go_wp2_with fail
      go_ret
      exact ⟨ret_int HR.out, HB4.out⟩
    · have hmb4 : (bits .and .i64 s.modes 4 == 0) = false := by rw [beq_eq_false_iff_ne]; exact hm4
      have HLT : Hid (lateBad s = false) := by unfold Hid lateBad; rw [hl, decide_eq_false hm4, decide_eq_true hx]; rfl
      clear hx hm4
      refine (H3).mono ?_
      rintro e W4 ⟨rfl, b⟩
      have HX4 : Hid (W4.heap[w.heap.size]? = _) := Grd.carry HX3.out b
      have HB4 : Hid (Below w.heap.size w W4) := HB3.out.trans (b.mono HB3.out.size)
      clear c0 c1 c2 c3 c4 c5 c6 c7 c8 c9 c10 c11 c12 c13 c14 c15 c16 c17 c18 c19 c20 c21 b
      obtain ⟨⟨c0, c1, c2, c3, c4, c5, c6, c7, c8, c9, c10⟩, ⟨c11, c12, c13, c14, c15, c16, c17, c18, c19, c20, c21⟩, -⟩ := scr_cells HX4.out
      go_wp2_with fail
      clear H3 HRG
      cases h5 : isSt (s.sf, s.sb, s.sx) with
      | false =>
        have H5 := Sty.check_any s.sf s.sb s.sx W4
        rw [h5] at H5
        refine (H5).mono ?_
        rintro e W5 ⟨rfl, b⟩
        have HX5 : Hid (W5.heap[w.heap.size]? = _) := Grd.carry HX4.out b
        have HB5 : Hid (Below w.heap.size w W5) := HB4.out.trans (b.mono HB4.out.size)
        clear c0 c1 c2 c3 c4 c5 c6 c7 c8 c9 c10 c11 c12 c13 c14 c15 c16 c17 c18 c19 c20 c21 b
        obtain ⟨⟨c0, c1, c2, c3, c4, c5, c6, c7, c8, c9, c10⟩, ⟨c11, c12, c13, c14, c15, c16, c17, c18, c19, c20, c21⟩, -⟩ := scr_cells HX5.out
        go_wp2_with fail
        have HR : Hid (4 = res) := by
          unfold Hid
          rw [← HC.out]
          simp [scrErr, HZ.out, HP.out, HLT.out, looksOk, h5]
        clear c0 c1 c2 c3 c4 c5 c6 c7 c8 c9 c10 c11 c12 c13 c14 c15 c16 c17 c18 c19 c20 c21
        go_wp2_with fail
        go_ret
        exact ⟨ret_int HR.out, HB5.out⟩
      | true =>
        have H5 := Sty.check_any s.sf s.sb s.sx W4
        rw [h5] at H5
        refine (H5).mono ?_
        rintro e W5 ⟨rfl, b⟩
        have HX5 : Hid (W5.heap[w.heap.size]? = _) := Grd.carry HX4.out b
        have HB5 : Hid (Below w.heap.size w W5) := HB4.out.trans (b.mono HB4.out.size)
        clear c0 c1 c2 c3 c4 c5 c6 c7 c8 c9 c10 c11 c12 c13 c14 c15 c16 c17 c18 c19 c20 c21 b
        obtain ⟨⟨c0, c1, c2, c3, c4, c5, c6, c7, c8, c9, c10⟩, ⟨c11, c12, c13, c14, c15, c16, c17, c18, c19, c20, c21⟩, -⟩ := scr_cells HX5.out
        go_wp2_with fail
        cases h6 : isSt (s.kf, s.kb, s.kbits) with
        | false =>
          have H6 := Sty.check_any s.kf s.kb s.kbits W5
          rw [h6] at H6
          refine (H6).mono ?_
          rintro e W6 ⟨rfl, b⟩
          have HX6 : Hid (W6.heap[w.heap.size]? = _) := Grd.carry HX5.out b
          have HB6 : Hid (Below w.heap.size w W6) := HB5.out.trans (b.mono HB5.out.size)
          clear c0 c1 c2 c3 c4 c5 c6 c7 c8 c9 c10 c11 c12 c13 c14 c15 c16 c17 c18 c19 c20 c21 b
          obtain ⟨⟨c0, c1, c2, c3, c4, c5, c6, c7, c8, c9, c10⟩, ⟨c11, c12, c13, c14, c15, c16, c17, c18, c19, c20, c21⟩, -⟩ := scr_cells HX6.out
          go_wp2_with fail
          have HR : Hid (4 = res) := by
            unfold Hid
            rw [← HC.out]
            simp [scrErr, HZ.out, HP.out, HLT.out, looksOk, h5, h6]
          clear c0 c1 c2 c3 c4 c5 c6 c7 c8 c9 c10 c11 c12 c13 c14 c15 c16 c17 c18 c19 c20 c21
          go_wp2_with fail
          go_ret
          exact ⟨ret_int HR.out, HB6.out⟩
        | true =>
          have H6 := Sty.check_any s.kf s.kb s.kbits W5
          rw [h6] at H6
          by_cases hm : 0 ≤ s.modes ∧ s.modes ≤ 63
          case neg =>
            have hmb : (bits .andNot .i64 s.modes 63 != 0) = true := by rw [bne_iff_ne]; intro h; exact hm ((modes_ok _ HF.out.m0 HF.out.m1).1 h)
            refine (H6).mono ?_
            rintro e W6 ⟨rfl, b⟩
            have HX6 : Hid (W6.heap[w.heap.size]? = _) := Grd.carry HX5.out b
            have HB6 : Hid (Below w.heap.size w W6) := HB5.out.trans (b.mono HB5.out.size)
            clear c0 c1 c2 c3 c4 c5 c6 c7 c8 c9 c10 c11 c12 c13 c14 c15 c16 c17 c18 c19 c20 c21 b
            obtain ⟨⟨c0, c1, c2, c3, c4, c5, c6, c7, c8, c9, c10⟩, ⟨c11, c12, c13, c14, c15, c16, c17, c18, c19, c20, c21⟩, -⟩ := scr_cells HX6.out
            go_wp2_with fail
            have HR : Hid (4 = res) := by
              unfold Hid
              rw [← HC.out]
              simp [scrErr, HZ.out, HP.out, HLT.out, looksOk, h5, h6, hm]
            clear c0 c1 c2 c3 c4 c5 c6 c7 c8 c9 c10 c11 c12 c13 c14 c15 c16 c17 c18 c19 c20 c21
            go_wp2_with fail
            go_ret
            exact ⟨ret_int HR.out, HB6.out⟩
          have hmb : (bits .andNot .i64 s.modes 63 != 0) = false := by rw [bne_eq_false_iff_eq]; exact (modes_ok _ HF.out.m0 HF.out.m1).2 hm
          cases h7 : keptOk s.km with
          | false =>
            have hkb : (bits .andNot .i64 s.km 6 != 0) = true := by rw [bne_iff_ne]; intro h; rw [(kept_ok _ HF.out.k0 HF.out.k1).1 h] at h7; cases h7
            refine (H6).mono ?_
            rintro e W6 ⟨rfl, b⟩
            have HX6 : Hid (W6.heap[w.heap.size]? = _) := Grd.carry HX5.out b
            have HB6 : Hid (Below w.heap.size w W6) := HB5.out.trans (b.mono HB5.out.size)
            clear c0 c1 c2 c3 c4 c5 c6 c7 c8 c9 c10 c11 c12 c13 c14 c15 c16 c17 c18 c19 c20 c21 b
            obtain ⟨⟨c0, c1, c2, c3, c4, c5, c6, c7, c8, c9, c10⟩, ⟨c11, c12, c13, c14, c15, c16, c17, c18, c19, c20, c21⟩, -⟩ := scr_cells HX6.out
            go_wp2_with fail
            have HR : Hid (4 = res) := by
              unfold Hid
              rw [← HC.out]
              simp [scrErr, HZ.out, HP.out, HLT.out, looksOk, h5, h6, hm, h7]
            clear c0 c1 c2 c3 c4 c5 c6 c7 c8 c9 c10 c11 c12 c13 c14 c15 c16 c17 c18 c19 c20 c21
            go_wp2_with fail
            go_ret
            exact ⟨ret_int HR.out, HB6.out⟩
          | true =>
            have hkb : (bits .andNot .i64 s.km 6 != 0) = false := by rw [bne_eq_false_iff_eq]; exact (kept_ok _ HF.out.k0 HF.out.k1).2 h7
            have HLK : Hid (looksOk s = true) := by unfold Hid looksOk; simp [h5, h6, h7, hm]
            clear h5 h6 h7 hm
            have htb := HF.out.bl
            by_cases t1 : (s.tabs.length : Int) = s.w
            case neg =>
              have t1b : ((s.tabs.length : Int) != s.w) = true := by rw [bne_iff_ne]; exact t1
              have HT1 : Hid (¬ (s.tabs.length : Int) = s.w) := t1
              clear t1
              refine (H6).mono ?_
              rintro e W6 ⟨rfl, b⟩
              have HX6 : Hid (W6.heap[w.heap.size]? = _) := Grd.carry HX5.out b
              have HB6 : Hid (Below w.heap.size w W6) := HB5.out.trans (b.mono HB5.out.size)
              clear c0 c1 c2 c3 c4 c5 c6 c7 c8 c9 c10 c11 c12 c13 c14 c15 c16 c17 c18 c19 c20 c21 b
              obtain ⟨⟨c0, c1, c2, c3, c4, c5, c6, c7, c8, c9, c10⟩, ⟨c11, c12, c13, c14, c15, c16, c17, c18, c19, c20, c21⟩, -⟩ := scr_cells HX6.out
              go_wp2_with fail
              have HR : Hid (5 = res) := by
                unfold Hid
                rw [← HC.out]
                simp [scrErr, HZ.out, HP.out, HLT.out, HLK.out, restOk, HT1.out]
              clear c0 c1 c2 c3 c4 c5 c6 c7 c8 c9 c10 c11 c12 c13 c14 c15 c16 c17 c18 c19 c20 c21
              go_wp2_with fail
              go_ret
              exact ⟨ret_int HR.out, HB6.out⟩
            have t1b : ((s.tabs.length : Int) != s.w) = false := by rw [bne_eq_false_iff_eq]; exact t1
            have HT1 : Hid ((s.tabs.length : Int) = s.w) := t1
            clear t1
            by_cases l0 : s.last = 0
            · have l0b : (s.last != 0) = false := by rw [bne_eq_false_iff_eq]; exact l0
              have HL0 : Hid ((decide (s.last = 0) || !decide (wd s.last = 0)) = true) := by unfold Hid; rw [decide_eq_true l0]; rfl
              clear l0
              refine (H6).mono ?_
              rintro e W6 ⟨rfl, b⟩
              have HX6 : Hid (W6.heap[w.heap.size]? = _) := Grd.carry HX5.out b
              have HB6 : Hid (Below w.heap.size w W6) := HB5.out.trans (b.mono HB5.out.size)
              clear c0 c1 c2 c3 c4 c5 c6 c7 c8 c9 c10 c11 c12 c13 c14 c15 c16 c17 c18 c19 c20 c21 b
              obtain ⟨⟨c0, c1, c2, c3, c4, c5, c6, c7, c8, c9, c10⟩, ⟨c11, c12, c13, c14, c15, c16, c17, c18, c19, c20, c21⟩, -⟩ := scr_cells HX6.out
              go_wp2_with fail
              clear H5 H6
              cases h9 : titleOk s.title with
              | false =>
                have H9 := isTitle_any s.title W6 (HT.out _ HB6.out) HF.out.tl
                rw [h9] at H9
                refine (H9).mono ?_
                rintro e W7 ⟨rfl, b⟩
                have HX7 : Hid (W7.heap[w.heap.size]? = _) := Grd.carry HX6.out b
                have HB7 : Hid (Below w.heap.size w W7) := HB6.out.trans (b.mono HB6.out.size)
                clear c0 c1 c2 c3 c4 c5 c6 c7 c8 c9 c10 c11 c12 c13 c14 c15 c16 c17 c18 c19 c20 c21 b
                obtain ⟨⟨c0, c1, c2, c3, c4, c5, c6, c7, c8, c9, c10⟩, ⟨c11, c12, c13, c14, c15, c16, c17, c18, c19, c20, c21⟩, -⟩ := scr_cells HX7.out
                go_wp2_with fail
                have HR : Hid (5 = res) := by
                  unfold Hid
                  rw [← HC.out]
                  simp [scrErr, HZ.out, HP.out, HLT.out, HLK.out, restOk, h9]
                clear c0 c1 c2 c3 c4 c5 c6 c7 c8 c9 c10 c11 c12 c13 c14 c15 c16 c17 c18 c19 c20 c21
                go_wp2_with fail
                go_ret
                exact ⟨ret_int HR.out, HB7.out⟩
              | true =>
                have H9 := isTitle_any s.title W6 (HT.out _ HB6.out) HF.out.tl
                rw [h9] at H9
                have HRS : Hid (restOk s = true) := by unfold Hid restOk; simp [HL0.out, HT1.out, h9]
                clear h9
                refine (H9).mono ?_
                rintro e W7 ⟨rfl, b⟩
                have HX7 : Hid (W7.heap[w.heap.size]? = _) := Grd.carry HX6.out b
                have HB7 : Hid (Below w.heap.size w W7) := HB6.out.trans (b.mono HB6.out.size)
                clear c0 c1 c2 c3 c4 c5 c6 c7 c8 c9 c10 c11 c12 c13 c14 c15 c16 c17 c18 c19 c20 c21 b
                obtain ⟨⟨c0, c1, c2, c3, c4, c5, c6, c7, c8, c9, c10⟩, ⟨c11, c12, c13, c14, c15, c16, c17, c18, c19, c20, c21⟩, -⟩ := scr_cells HX7.out
                go_wp2_with fail
                clear H9
                have HGN := checkGone_any s.gone _ W7 (HT.out _ HB7.out) (HV.out.g.next HB7.out) HF.out.gl
                have HR : Hid (goneErr s.gone = res) := by
                  unfold Hid
                  rw [← HC.out]
                  simp [scrErr, HZ.out, HP.out, HLT.out, HLK.out, HRS.out]
                generalize goneErr s.gone = ge at HGN HR
                refine HGN.mono ?_
                rintro e V ⟨rfl, b⟩
                clear c0 c1 c2 c3 c4 c5 c6 c7 c8 c9 c10 c11 c12 c13 c14 c15 c16 c17 c18 c19 c20 c21
                go_wp2_with fail
                go_ret
                exact ⟨ret_int HR.out, HB7.out.trans (b.mono HB7.out.size)⟩
            · have l0b : (s.last != 0) = true := by rw [bne_iff_ne]; exact l0
              have HL1 : Hid (¬ s.last = 0) := l0
              clear l0
              by_cases l1 : wd s.last = 0
              · have HL2 : Hid (wd s.last = 0) := l1
                clear l1
                refine (H6).mono ?_
                rintro e W6 ⟨rfl, b⟩
                have HX6 : Hid (W6.heap[w.heap.size]? = _) := Grd.carry HX5.out b
                have HB6 : Hid (Below w.heap.size w W6) := HB5.out.trans (b.mono HB5.out.size)
                clear c0 c1 c2 c3 c4 c5 c6 c7 c8 c9 c10 c11 c12 c13 c14 c15 c16 c17 c18 c19 c20 c21 b
                obtain ⟨⟨c0, c1, c2, c3, c4, c5, c6, c7, c8, c9, c10⟩, ⟨c11, c12, c13, c14, c15, c16, c17, c18, c19, c20, c21⟩, -⟩ := scr_cells HX6.out
                go_wp2_with fail
                have H8 := Grd.width_to s.last W6 (HT.out _ HB6.out) 0 HL2.out
                refine (H8).mono ?_
                rintro e W7 ⟨rfl, b⟩
                have HX7 : Hid (W7.heap[w.heap.size]? = _) := Grd.carry HX6.out b
                have HB7 : Hid (Below w.heap.size w W7) := HB6.out.trans (b.mono HB6.out.size)
                clear c0 c1 c2 c3 c4 c5 c6 c7 c8 c9 c10 c11 c12 c13 c14 c15 c16 c17 c18 c19 c20 c21 b
                obtain ⟨⟨c0, c1, c2, c3, c4, c5, c6, c7, c8, c9, c10⟩, ⟨c11, c12, c13, c14, c15, c16, c17, c18, c19, c20, c21⟩, -⟩ := scr_cells HX7.out
                go_wp2_with fail
                have HR : Hid (5 = res) := by
                  unfold Hid
                  rw [← HC.out]
                  simp [scrErr, HZ.out, HP.out, HLT.out, HLK.out, restOk, HL1.out, HL2.out]
                clear c0 c1 c2 c3 c4 c5 c6 c7 c8 c9 c10 c11 c12 c13 c14 c15 c16 c17 c18 c19 c20 c21
                go_wp2_with fail
                go_ret
                exact ⟨ret_int HR.out, HB7.out⟩
              · have l1b : (wd s.last == 0) = false := by rw [beq_eq_false_iff_ne]; exact l1
                have HL0 : Hid ((decide (s.last = 0) || !decide (wd s.last = 0)) = true) := by unfold Hid; rw [decide_eq_false l1]; simp
                clear l1
                refine (H6).mono ?_
                rintro e W6 ⟨rfl, b⟩
                have HX6 : Hid (W6.heap[w.heap.size]? = _) := Grd.carry HX5.out b
                have HB6 : Hid (Below w.heap.size w W6) := HB5.out.trans (b.mono HB5.out.size)
                clear c0 c1 c2 c3 c4 c5 c6 c7 c8 c9 c10 c11 c12 c13 c14 c15 c16 c17 c18 c19 c20 c21 b
                obtain ⟨⟨c0, c1, c2, c3, c4, c5, c6, c7, c8, c9, c10⟩, ⟨c11, c12, c13, c14, c15, c16, c17, c18, c19, c20, c21⟩, -⟩ := scr_cells HX6.out
                go_wp2_with fail
                have H8 := Grd.width_to s.last W6 (HT.out _ HB6.out) _ rfl
                refine (H8).mono ?_
                rintro e W7 ⟨rfl, b⟩
                have HX7 : Hid (W7.heap[w.heap.size]? = _) := Grd.carry HX6.out b
                have HB7 : Hid (Below w.heap.size w W7) := HB6.out.trans (b.mono HB6.out.size)
                clear c0 c1 c2 c3 c4 c5 c6 c7 c8 c9 c10 c11 c12 c13 c14 c15 c16 c17 c18 c19 c20 c21 b
                obtain ⟨⟨c0, c1, c2, c3, c4, c5, c6, c7, c8, c9, c10⟩, ⟨c11, c12, c13, c14, c15, c16, c17, c18, c19, c20, c21⟩, -⟩ := scr_cells HX7.out
                go_wp2_with fail
                clear H5 H6 H8
                cases h9 : titleOk s.title with
                | false =>
                  have H9 := isTitle_any s.title W7 (HT.out _ HB7.out) HF.out.tl
                  rw [h9] at H9
                  refine (H9).mono ?_
                  rintro e W8 ⟨rfl, b⟩
                  have HX8 : Hid (W8.heap[w.heap.size]? = _) := Grd.carry HX7.out b
                  have HB8 : Hid (Below w.heap.size w W8) := HB7.out.trans (b.mono HB7.out.size)
                  clear c0 c1 c2 c3 c4 c5 c6 c7 c8 c9 c10 c11 c12 c13 c14 c15 c16 c17 c18 c19 c20 c21 b
                  obtain ⟨⟨c0, c1, c2, c3, c4, c5, c6, c7, c8, c9, c10⟩, ⟨c11, c12, c13, c14, c15, c16, c17, c18, c19, c20, c21⟩, -⟩ := scr_cells HX8.out
                  go_wp2_with fail
                  have HR : Hid (5 = res) := by
                    unfold Hid
                    rw [← HC.out]
                    simp [scrErr, HZ.out, HP.out, HLT.out, HLK.out, restOk, h9]
                  clear c0 c1 c2 c3 c4 c5 c6 c7 c8 c9 c10 c11 c12 c13 c14 c15 c16 c17 c18 c19 c20 c21
                  go_wp2_with fail
                  go_ret
                  exact ⟨ret_int HR.out, HB8.out⟩
                | true =>
                  have H9 := isTitle_any s.title W7 (HT.out _ HB7.out) HF.out.tl
                  rw [h9] at H9
                  have HRS : Hid (restOk s = true) := by unfold Hid restOk; simp [HL0.out, HT1.out, h9]
                  clear h9
                  refine (H9).mono ?_
                  rintro e W8 ⟨rfl, b⟩
                  have HX8 : Hid (W8.heap[w.heap.size]? = _) := Grd.carry HX7.out b
                  have HB8 : Hid (Below w.heap.size w W8) := HB7.out.trans (b.mono HB7.out.size)
                  clear c0 c1 c2 c3 c4 c5 c6 c7 c8 c9 c10 c11 c12 c13 c14 c15 c16 c17 c18 c19 c20 c21 b
                  obtain ⟨⟨c0, c1, c2, c3, c4, c5, c6, c7, c8, c9, c10⟩, ⟨c11, c12, c13, c14, c15, c16, c17, c18, c19, c20, c21⟩, -⟩ := scr_cells HX8.out
                  go_wp2_with fail
                  clear H9
                  have HGN := checkGone_any s.gone _ W8 (HT.out _ HB8.out) (HV.out.g.next HB8.out) HF.out.gl
                  have HR : Hid (goneErr s.gone = res) := by
                    unfold Hid
                    rw [← HC.out]
                    simp [scrErr, HZ.out, HP.out, HLT.out, HLK.out, HRS.out]
                  generalize goneErr s.gone = ge at HGN HR
                  refine HGN.mono ?_
                  rintro e V ⟨rfl, b⟩
                  clear c0 c1 c2 c3 c4 c5 c6 c7 c8 c9 c10 c11 c12 c13 c14 c15 c16 c17 c18 c19 c20 c21
                  go_wp2_with fail
                  go_ret
                  exact ⟨ret_int HR.out, HB8.out.trans (b.mono HB8.out.size)⟩
end Put
end Go.Proofs.YtnkeahfcpbepjaaDoor

/- A sheet: a screen under way, held row by row. -/
namespace Go.Proofs.YtnkeahfcpbepjaaDoor
open Go.ChangeShapes Go.WideShapes Go.ChangeAt Go.RowKit
namespace Put
open Grd (C SliceAt CellsAt gridErr z0 nilV)
/-- The words of a sheet: a screen's, and its rows. -/
def shA (s : Scr) (cv tv gv rv : Value) : Array Value := #[.int .i64 s.w, .int .i64 s.h, cv, .int .i64 s.x, .int .i64 s.y, .bool s.late, .int .i64 s.sf, .int .i64 s.sb, .int .i64 s.sx, .int .i64 s.top, .int .i64 s.bot, .int .i64 s.modes, tv, .int .i64 s.kx, .int .i64 s.ky, .int .i64 s.kf, .int .i64 s.kb, .int .i64 s.kbits, .int .i64 s.km, .int .i32 s.last, .string s.title, gv, rv]
theorem heap_lt {W : World} {k : Nat} {o : Obj} (h : W.heap[k]? = some o) : k < W.heap.size := by
  rcases Nat.lt_or_ge k W.heap.size with h' | h'
  · exact h'
  · rw [Array.getElem?_eq_none h'] at h
    cases h
/-- The block k is one of those that were there, or one of cells. -/
def Still (W : World) (N k : Nat) : Prop := k < N ∨ ∃ A f, W.heap[k]? = some (.cells A 63 f)
/-- A row's value: its cells lie in such a block. -/
def RowIn (W : World) (N : Nat) (v : Value) (row : List C) : Prop :=
  (row = [] ∧ ∃ a c, v = .slice a 0 c) ∨ (row ≠ [] ∧ ∃ b o c, v = .slice (some ⟨b, o, none⟩) row.length c ∧ row.length ≤ c ∧ c ≤ 9223372036854775807 ∧ CellsAt W b o row ∧ Still W N b)
theorem RowIn.cells {W : World} {N : Nat} {v : Value} {row : List C} (h : RowIn W N v row) : SliceAt W v row := by
  rcases h with h | ⟨h, b, o, c, hv, h1, h2, h3, -⟩
  · exact .inl h
  · exact .inr ⟨h, b, o, c, hv, h1, h2, h3⟩
theorem lt_of_cells {W : World} {b o : Nat} {row : List C} (h : CellsAt W b o row) (hr : row ≠ []) : b < W.heap.size := by
  have h0 : 0 < row.length := List.length_pos_iff.2 hr
  obtain ⟨h1, -⟩ := h 0 h0
  exact World.block_lt_of_cell? W _ h1
theorem RowIn.of {W : World} {N : Nat} {v : Value} {row : List C} (h : SliceAt W v row) (hN : N = W.heap.size) : RowIn W N v row := by
  rcases h with h | ⟨h, b, o, c, hv, h1, h2, h3⟩
  · exact .inl h
  · exact .inr ⟨h, b, o, c, hv, h1, h2, h3, .inl (by rw [hN]; exact lt_of_cells h3 h)⟩
theorem RowIn.shape {W : World} {N : Nat} {v : Value} {row : List C} (h : RowIn W N v row) : ∃ a c, v = .slice a row.length c := h.cells.shape
/-- What was there, and cells, are kept. -/
def Kept (N : Nat) (W W' : World) : Prop := ∀ k, k < W.heap.size → Still W N k → W'.heap[k]? = W.heap[k]?
theorem Kept.refl (N : Nat) (W : World) : Kept N W W := fun _ _ _ => rfl
theorem Still.keep {W W' : World} {N k : Nat} (h : Still W N k) (hk : W'.heap[k]? = W.heap[k]?) : Still W' N k := by
  rcases h with h | ⟨A, f, h⟩
  · exact .inl h
  · exact .inr ⟨A, f, hk.trans h⟩
theorem Kept.trans {N : Nat} {a b c : World} (h : Kept N a b) (hs : a.heap.size ≤ b.heap.size) (k : Kept N b c) : Kept N a c := fun i hi hS =>
  (k i (Nat.lt_of_lt_of_le hi hs) (hS.keep (h i hi hS))).trans (h i hi hS)
theorem Kept.of_below {N : Nat} {W W' : World} (h : Below W.heap.size W W') : Kept N W W' := fun k hk _ => h.block k hk
theorem cells_kept {W W' : World} {b o : Nat} {row : List C} (h : CellsAt W b o row) (hk : W'.heap[b]? = W.heap[b]?) : CellsAt W' b o row := fun j hj => by
  obtain ⟨h0, h1, h2, h3⟩ := h j hj
  have e : ∀ i, W'.cell? ⟨b, i, none⟩ = W.cell? ⟨b, i, none⟩ := fun i => by simp [World.cell?, hk]
  exact ⟨(e _).trans h0, (e _).trans h1, (e _).trans h2, (e _).trans h3⟩
theorem RowIn.keep {W W' : World} {N : Nat} {v : Value} {row : List C} (h : RowIn W N v row) (hk : Kept N W W') : RowIn W' N v row := by
  rcases h with h | ⟨h, b, o, c, hv, h1, h2, h3, h4⟩
  · exact .inl h
  · have hb := hk b (lt_of_cells h3 h) h4
    exact .inr ⟨h, b, o, c, hv, h1, h2, cells_kept h3 hb, h4.keep hb⟩
def RowsIn (W : World) (N : Nat) (vs : List Value) (rows : List (List C)) : Prop := vs.length = rows.length ∧ ∀ i, i < rows.length → RowIn W N (vs.getD i nilV) (rows.getD i [])
theorem RowsIn.keep {W W' : World} {N : Nat} {vs : List Value} {rows : List (List C)} (h : RowsIn W N vs rows) (hk : Kept N W W') : RowsIn W' N vs rows := ⟨h.1, fun i hi => (h.2 i hi).keep hk⟩
theorem RowsIn.list {W : World} {N : Nat} {vs : List Value} {rows : List (List C)} (h : RowsIn W N vs rows) : RowsL W vs rows := ⟨h.1, fun i hi => (h.2 i hi).cells⟩
theorem RowsIn.of {W : World} {N : Nat} {vs : List Value} {rows : List (List C)} (h : RowsL W vs rows) (hN : N = W.heap.size) : RowsIn W N vs rows := ⟨h.1, fun i hi => RowIn.of (h.2 i hi) hN⟩
theorem owns_kept {w w' : World} {base : Nat} {e : TypeId} {size : Nat} {v : Value} {n : Nat} {xs : List Value} (h : w.ownsRow base e size v n xs) (hk : ∀ g, v.ownBlock = some g → w'.heap[g]? = w.heap[g]?) : w'.ownsRow base e size v n xs := by
  obtain ⟨h0, h | ⟨g, cap, cur, hv, hg, hh, hc, hm, hs, htk⟩⟩ := h
  · exact ⟨h0, .inl h⟩
  · exact ⟨h0, .inr ⟨g, cap, cur, hv, hg, (hk g (by rw [hv]; rfl)).trans hh, hc, hm, hs, htk⟩⟩
theorem owns_block {w : World} {base : Nat} {e : TypeId} {size : Nat} {v : Value} {n : Nat} {xs : List Value} (h : w.ownsRow base e size v n xs) : ∀ g, v.ownBlock = some g → base ≤ g ∧ ∃ A f, w.heap[g]? = some (.cells A e f) := by
  intro g hg
  obtain ⟨h0, h | ⟨g', cap, cur, hv, hb, hh, hc, hm, hs, htk⟩⟩ := h
  · rw [h.1] at hg
    cases hg
  · rw [hv] at hg
    have e : g' = g := by simpa [Value.ownBlock] using hg
    subst e
    exact ⟨hb, _, _, hh⟩
/-- A sheet of the type t in memory: its block p, and what its words speak of. -/
structure ShA (t : TypeId) (W : World) (M N p : Nat) (s : Scr) (rows : List (List C)) (cv tv gv rv : Value) (gvs vs : List Value) : Prop where
  blk : W.heap[p]? = some (.cells (shA s cv tv gv rv) t (0, 0))
  lo : N ≤ p
  ml : M ≤ N
  cvs : ∃ a n c, cv = .slice a n c
  tabs : W.ownsRow N 4 1 tv s.tabs.length (s.tabs.map Value.bool)
  gone : W.ownsRow N 22 1 gv s.gone.length gvs
  gin : RowsIn W M gvs s.gone
  rws : W.ownsRow N 22 1 rv rows.length vs
  rin : RowsIn W M vs rows
  two : ∀ k, rv.ownBlock = some k → gv.ownBlock ≠ some k
def IsSheet (t : TypeId) : Prop := t ≠ 4 ∧ t ≠ 22 ∧ t ≠ 63
/-- Another sheet in the same block, with the same tabs, rows and rows that are gone. -/
theorem ShA.put {t : TypeId} (ht : IsSheet t) {W W' : World} {M N p : Nat} {s s' : Scr} {rows : List (List C)} {cv tv gv rv : Value} {gvs vs : List Value} (h : ShA t W M N p s rows cv tv gv rv gvs vs)
    (hp : W'.heap[p]? = some (.cells (shA s' cv tv gv rv) t (0, 0))) (ho : ∀ k, k ≠ p → W'.heap[k]? = W.heap[k]?) (htabs : s'.tabs = s.tabs) (hgone : s'.gone = s.gone) : ShA t W' M N p s' rows cv tv gv rv gvs vs := by
  have hne : ∀ {e : TypeId} {v : Value} {n : Nat} {xs : List Value}, t ≠ e → W.ownsRow N e 1 v n xs → ∀ g, v.ownBlock = some g → W'.heap[g]? = W.heap[g]? := fun hte hw g hg => by
    obtain ⟨-, A, f, hA⟩ := owns_block hw g hg
    refine ho g fun e => ?_
    subst e
    rw [h.blk] at hA
    injection hA with hA
    injection hA with _ hA _
    exact hte hA
  have hk : Kept M W W' := fun k hk hS => by
    refine ho k fun e => ?_
    subst e
    rcases hS with hS | ⟨A, f, hS⟩
    · have := h.lo
      have := h.ml
      omega
    · rw [h.blk] at hS
      injection hS with hS
      injection hS with _ hS _
      exact ht.2.2 hS
  refine ⟨hp, h.lo, h.ml, h.cvs, ?_, ?_, ?_, owns_kept h.rws (hne ht.2.1 h.rws), h.rin.keep hk, h.two⟩
  · rw [htabs]
    exact owns_kept h.tabs (hne ht.1 h.tabs)
  · rw [hgone]
    exact owns_kept h.gone (hne ht.2.1 h.gone)
  · rw [hgone]
    exact h.gin.keep hk
theorem ShA.next {t : TypeId} {W W' : World} {M N p : Nat} {s : Scr} {rows : List (List C)} {cv tv gv rv : Value} {gvs vs : List Value} (h : ShA t W M N p s rows cv tv gv rv gvs vs) (hb : Below W.heap.size W W') : ShA t W' M N p s rows cv tv gv rv gvs vs := by
  have hk : ∀ {e : TypeId} {v : Value} {n : Nat} {xs : List Value}, W.ownsRow N e 1 v n xs → W'.ownsRow N e 1 v n xs := fun hw => owns_kept hw fun g hg => by
    obtain ⟨-, A, f, hA⟩ := owns_block hw g hg
    exact hb.block g (heap_lt hA)
  exact ⟨(hb.block p (heap_lt h.blk)).trans h.blk, h.lo, h.ml, h.cvs, hk h.tabs, hk h.gone, h.gin.keep (Kept.of_below hb), hk h.rws, h.rin.keep (Kept.of_below hb), h.two⟩
def ShAt (t : TypeId) (W : World) (M N p : Nat) (s : Scr) (rows : List (List C)) : Prop := ∃ cv tv gv rv gvs vs, ShA t W M N p s rows cv tv gv rv gvs vs
theorem sheet_is : IsSheet 109 := by unfold IsSheet; decide
theorem cells23 {W : World} {R : Nat} {t : TypeId} {v0 v1 v2 v3 v4 v5 v6 v7 v8 v9 v10 v11 v12 v13 v14 v15 v16 v17 v18 v19 v20 v21 v22 : Value} (h : W.heap[R]? = some (.cells #[v0, v1, v2, v3, v4, v5, v6, v7, v8, v9, v10, v11, v12, v13, v14, v15, v16, v17, v18, v19, v20, v21, v22] t (0, 0))) :
    (W.cell? ⟨R, 0, none⟩ = some v0 ∧ W.cell? ⟨R, 1, none⟩ = some v1 ∧ W.cell? ⟨R, 2, none⟩ = some v2 ∧ W.cell? ⟨R, 3, none⟩ = some v3 ∧ W.cell? ⟨R, 4, none⟩ = some v4 ∧ W.cell? ⟨R, 5, none⟩ = some v5 ∧ W.cell? ⟨R, 6, none⟩ = some v6 ∧ W.cell? ⟨R, 7, none⟩ = some v7 ∧ W.cell? ⟨R, 8, none⟩ = some v8 ∧ W.cell? ⟨R, 9, none⟩ = some v9 ∧ W.cell? ⟨R, 10, none⟩ = some v10) ∧
    (W.cell? ⟨R, 11, none⟩ = some v11 ∧ W.cell? ⟨R, 12, none⟩ = some v12 ∧ W.cell? ⟨R, 13, none⟩ = some v13 ∧ W.cell? ⟨R, 14, none⟩ = some v14 ∧ W.cell? ⟨R, 15, none⟩ = some v15 ∧ W.cell? ⟨R, 16, none⟩ = some v16 ∧ W.cell? ⟨R, 17, none⟩ = some v17 ∧ W.cell? ⟨R, 18, none⟩ = some v18 ∧ W.cell? ⟨R, 19, none⟩ = some v19 ∧ W.cell? ⟨R, 20, none⟩ = some v20 ∧ W.cell? ⟨R, 21, none⟩ = some v21 ∧ W.cell? ⟨R, 22, none⟩ = some v22) ∧ ∀ i, W.frozen? ⟨R, i, none⟩ = false := by
  refine ⟨?_, ?_, fun i => by simp [World.frozen?, h]⟩ <;> simp [World.cell?, h]
theorem sh_cells {W : World} {R : Nat} {t : TypeId} {s : Scr} {cv tv gv rv : Value} (h : W.heap[R]? = some (.cells (shA s cv tv gv rv) t (0, 0))) :
    (W.cell? ⟨R, 0, none⟩ = some (.int .i64 s.w) ∧ W.cell? ⟨R, 1, none⟩ = some (.int .i64 s.h) ∧ W.cell? ⟨R, 2, none⟩ = some (cv) ∧ W.cell? ⟨R, 3, none⟩ = some (.int .i64 s.x) ∧ W.cell? ⟨R, 4, none⟩ = some (.int .i64 s.y) ∧ W.cell? ⟨R, 5, none⟩ = some (.bool s.late) ∧ W.cell? ⟨R, 6, none⟩ = some (.int .i64 s.sf) ∧ W.cell? ⟨R, 7, none⟩ = some (.int .i64 s.sb) ∧ W.cell? ⟨R, 8, none⟩ = some (.int .i64 s.sx) ∧ W.cell? ⟨R, 9, none⟩ = some (.int .i64 s.top) ∧ W.cell? ⟨R, 10, none⟩ = some (.int .i64 s.bot)) ∧
    (W.cell? ⟨R, 11, none⟩ = some (.int .i64 s.modes) ∧ W.cell? ⟨R, 12, none⟩ = some (tv) ∧ W.cell? ⟨R, 13, none⟩ = some (.int .i64 s.kx) ∧ W.cell? ⟨R, 14, none⟩ = some (.int .i64 s.ky) ∧ W.cell? ⟨R, 15, none⟩ = some (.int .i64 s.kf) ∧ W.cell? ⟨R, 16, none⟩ = some (.int .i64 s.kb) ∧ W.cell? ⟨R, 17, none⟩ = some (.int .i64 s.kbits) ∧ W.cell? ⟨R, 18, none⟩ = some (.int .i64 s.km) ∧ W.cell? ⟨R, 19, none⟩ = some (.int .i32 s.last) ∧ W.cell? ⟨R, 20, none⟩ = some (.string s.title) ∧ W.cell? ⟨R, 21, none⟩ = some (gv) ∧ W.cell? ⟨R, 22, none⟩ = some (rv)) ∧ ∀ i, W.frozen? ⟨R, i, none⟩ = false := cells23 h
end Put
end Go.Proofs.YtnkeahfcpbepjaaDoor

/- slices.Chunk and slices.Collect at a grid's cells: its rows. -/
namespace Go.Proofs.YtnkeahfcpbepjaaDoor
open Go.RowKit Go.Shelf
namespace Put
attribute [local go_sem] Oper.semAt_some
/-- The value of row k: n cells of four words each. -/
def rowV (b o n k : Nat) : Value := .slice (some ⟨b, o + k * n * 4, none⟩) n n
theorem minP (a b : Int) (w : World) : (Builtin.min_ #[3, 3] 3 #[.int .i64 a, .int .i64 b]).run Tryd.prog w = .ok (.int .i64 (min a b)) w := by
  simp [Builtin.min_, Builtin.min2, go_sem]
  repeat' split
  all_goals omega
set_option maxRecDepth 100000 in
set_option maxHeartbeats 4000000 in
theorem chunk1_in (F : Fence) (q : Nat) (hf : F.fn 152) (hro : F.round = none) (hq : 1 ≤ q) (l Bs Bn n₀ b o n hh cap : Nat) (hn : 1 ≤ n) (hn' : n ≤ 1000) (hh' : hh ≤ 1000) (hcap : n * hh ≤ cap) (J Jx : List Nat → World → Prop)
    (hY : ∀ pre x W, J pre W → pre.length < hh → YieldAt F (q - 1) Tryd.prog l #[rowV b o n x] W fun e W' =>
      (e = .returned (.bool true) ∧ J (pre ++ [x]) W' ∧ Below n₀ W W') ∨ (e = .returned (.bool false) ∧ Jx (pre ++ [x]) W'))
    (W : World) (hBs : Bs < n₀) (hBn : Bn < n₀) (hs : W.cell? ⟨Bs, 0, none⟩ = some (.slice (some ⟨b, o, none⟩) (n * hh) cap)) (hc : W.cell? ⟨Bn, 0, none⟩ = some (.int .i64 (n : Int))) (hJ : AbidesFrom W.heap.size J) (h0 : J [] W) :
    CallsIn F q Tryd.prog 152 #[.func (.yield l) #[] #[], .pointer (some ⟨Bs, 0, none⟩), .pointer (some ⟨Bn, 0, none⟩)] W fun e W' => (∃ v, e = .returned v) ∧
      ((∃ ys, ys = List.range hh ∧ J ys W') ∨ (∃ pre, True ∧ Jx pre W')) := by
  refine callsIn_of_wp Tryd.func152 rfl hf ?_ hro
  simp only [Tryd.ntmps152, List.size_toArray, List.length_cons, List.length_nil, Nat.reduceAdd, Nat.reduceSub, Array.replicate_succ, Array.replicate_zero, List.push_toArray, List.append_toArray, List.nil_append, List.cons_append]
  gi_wp2
  gi_loopw [4] (fun i wr => ∃ k : Nat, k ≤ hh ∧ i = .int .i64 ((k * n : Nat) : Int) ∧ J (List.range k) wr ∧ Below n₀ W wr)
    (fun i _ => hh * n - (intOf i).toNat)
  case atStart => exact ⟨0, Nat.zero_le _, by simp, h0, Below.refl _ _⟩
  case round =>
    obtain ⟨k, hk, rfl, hJs, hnx⟩ := hrel
    have cs : ∀ m, (wr.drewN m).cell? ⟨Bs, 0, none⟩ = some (.slice (some ⟨b, o, none⟩) (n * hh) cap) := fun m => (hnx.cell (p := ⟨Bs, 0, none⟩) hBs).trans hs
    have cn : ∀ m, (wr.drewN m).cell? ⟨Bn, 0, none⟩ = some (.int .i64 (n : Int)) := fun m => (hnx.cell (p := ⟨Bn, 0, none⟩) hBn).trans hc
    have cs0 := cs 0
    have cn0 := cn 0
    simp only [World.drewN_zero] at cs0 cn0
    have hmin := minP (n : Int)
    by_cases hlt : k < hh
    · have hJd : ∀ m, J (List.range k) (wr.drewN m) := fun m => hJ _ wr _ none hJs ⟨rfl, rfl, rfl, Nat.le_refl _, fun _ _ _ => rfl⟩ (fun r e => by cases e)
      have hYk := fun m => hY _ k (wr.drewN m) (hJd m) (by simpa using hlt)
      unfold rowV at hYk
      have HN : Hid (List.range (k + 1) = List.range k ++ [k]) := List.range_succ
      have l1 : k * n + n ≤ n * hh := by
        have : (k + 1) * n ≤ hh * n := Nat.mul_le_mul_right n hlt
        rw [Nat.mul_comm n hh]
        rw [Nat.add_mul] at this
        omega
      have l2 : n * hh ≤ 1000000 := by
        have : n * hh ≤ 1000 * 1000 := Nat.mul_le_mul hn' hh'
        omega
      have HNX : Hid ((((k + 1) * n : Nat) : Int) = ((k * n : Nat) : Int) + (n : Int)) := by unfold Hid; rw [Nat.add_mul]; omega
      have HM : Hid (hh * n - (k + 1) * n < hh * n - k * n) := by
        unfold Hid
        have : hh * n = n * hh := Nat.mul_comm _ _
        rw [Nat.add_mul]
        omega
      clear hY hs hc h0 hJ hJs
      generalize n * hh = L at *
      generalize hK : k * n = K at *
      have HK : Hid (k * n = K) := hK
      clear hK
      have lt1 : ((K : Nat) : Int) < (L : Int) := by omega
      have hKL : K ≤ L := by omega
      have hcK : ¬ cap = K := by omega
      have hm1 : min (n : Int) ((L - K : Nat) : Int) = (n : Int) := by omega
      gi_wp2
      refine wpIn_region_quiet_lit hro (by kernel_rfl) (by kernel_rfl) ?_
      repeat (gi_big_quiet_step (fail))
      refine wpQuietIn_nil ?_
      intro _ hw'
      obtain ⟨nq, hw''⟩ := hw'
      subst hw''
      obtain ⟨fn, tmps, assign, body, hy, hR⟩ := hYk nq
      have cs1 := cs nq
      have cn1 := cn nq
      have hnq : Below n₀ W (wr.drewN nq) := hnx.trans ⟨rfl, rfl, rfl, Nat.le_refl _, fun _ _ => rfl⟩
      have HHN : Hid (Below n₀ W (wr.drewN nq)) := hnq
      clear hYk cs cn hJd cs0 cn0 hnq
      generalize wr.drewN nq = V at *
      gi_wp2
      refine hR.mono ?_
      rintro e W3 (⟨rfl, hJ3, hk3⟩ | ⟨rfl, hJx3⟩)
      · have cs3 : W3.cell? ⟨Bs, 0, none⟩ = _ := (hk3.cell (p := ⟨Bs, 0, none⟩) hBs).trans cs1
        have cn3 : W3.cell? ⟨Bn, 0, none⟩ = _ := (hk3.cell (p := ⟨Bn, 0, none⟩) hBn).trans cn1
        clear cs1 cn1
        gi_wp2
        go_roundw
        case rel => exact ⟨k + 1, by omega, by rw [HNX.out], by rw [HN.out]; exact hJ3, HHN.out.trans hk3⟩
        case measure =>
          have h := HM.out
          simp [intOf]
          omega
      · gi_wp2
        refine bodyPost_ret (results_none rfl _ _ _) rfl ?_
        exact ⟨⟨_, rfl⟩, .inr (by first | exact ⟨_, hJx3⟩ | exact ⟨_, trivial, hJx3⟩)⟩
    · obtain rfl : k = hh := by omega
      have l1 : ¬ ((k * n : Nat) : Int) < ((n * k : Nat) : Int) := by rw [Nat.mul_comm n k]; omega
      gi_wp2
      go_end0
      exact ⟨⟨_, rfl⟩, .inl (by first | exact hJs | exact ⟨_, rfl, hJs⟩)⟩
theorem chunk_stops (F : Fence) (q : Nat) (hf : F.fn 152) (hro : F.round = none) (hq : 1 ≤ q) (Bs Bn n₀ b o n hh cap : Nat) (hn : 1 ≤ n) (hn' : n ≤ 1000) (hh' : hh ≤ 1000) (hcap : n * hh ≤ cap) (w : World) (hBs : Bs < n₀) (hBn : Bn < n₀) (hn₀ : n₀ ≤ w.heap.size)
    (hs : w.cell? ⟨Bs, 0, none⟩ = some (.slice (some ⟨b, o, none⟩) (n * hh) cap)) (hc : w.cell? ⟨Bn, 0, none⟩ = some (.int .i64 (n : Int))) :
    SeqStopsK F q Tryd.prog 152 #[.pointer (some ⟨Bs, 0, none⟩), .pointer (some ⟨Bn, 0, none⟩)] (fun x : Nat => #[rowV b o n x]) (Below n₀) (fun ys => ys = List.range hh) (fun _ => True) hh w := fun l J Jx W hW hJ _ hY h0 =>
  chunk1_in F q hf hro hq l Bs Bn n₀ b o n hh cap hn hn' hh' hcap J Jx hY W hBs hBn ((hW.cell (p := ⟨Bs, 0, none⟩) (by show Bs < _; omega)).trans hs) ((hW.cell (p := ⟨Bn, 0, none⟩) (by show Bn < _; omega)).trans hc) hJ h0
theorem info_row : (Tryd.prog.info? 22).map (fun i => (i.zero, i.size, i.bytes)) = some (some (.slice none 0 0), 1, 24) := by kernel_rfl
set_option maxRecDepth 100000 in
set_option maxHeartbeats 4000000 in
theorem appendSeq_in (F : Fence) (q : Nat) (hfa : F.fn 151) (hf : F.fn 152) (hro : F.round = none) (hq : 3 ≤ q) (Bs Bn b o n hh cap : Nat) (hn : 1 ≤ n) (hn' : n ≤ 1000) (hh' : hh ≤ 1000) (hcap : n * hh ≤ cap) (w : World) (hBs : Bs < w.heap.size) (hBn : Bn < w.heap.size)
    (hs : w.cell? ⟨Bs, 0, none⟩ = some (.slice (some ⟨b, o, none⟩) (n * hh) cap)) (hc : w.cell? ⟨Bn, 0, none⟩ = some (.int .i64 (n : Int))) :
    CallsIn F q Tryd.prog 151 #[.slice none 0 0, .func (.func 152) #[] #[.pointer (some ⟨Bs, 0, none⟩), .pointer (some ⟨Bn, 0, none⟩)]] w fun e W' => ∃ v, e = .returned v ∧ W'.ownsRow w.heap.size 22 1 v hh ((List.range hh).map (rowV b o n)) ∧ Below w.heap.size w W' := by
  have h1 : 1 ≤ q := by omega
  obtain ⟨i0, hi, hz0, hz1, hz2⟩ := info_parts info_row
  refine callsIn_of_wp_marks Tryd.func151 rfl hfa ?_ hro
  simp only [Tryd.ntmps151, List.size_toArray, List.length_cons, List.length_nil, Nat.reduceAdd, Nat.reduceSub, Array.replicate_succ, Array.replicate_zero, List.push_toArray, List.append_toArray, List.nil_append, List.cons_append]
  gi_wp2
  have bO := Boxed.new w 30 (.slice none 0 0)
  have hB0 : Below w.heap.size w (w.alloc (.cells #[.slice none 0 0] 30)) := (Below.refl _ w).alloc (Nat.le_refl _) _
  refine wpIn_rangeFunc_ownG hro h1 (gf := 152) (lb := #[.pointer (some ⟨Bs, 0, none⟩), .pointer (some ⟨Bn, 0, none⟩)]) rfl hf (enters_of Tryd.func152 (by kernel_rfl) rfl)
    (chunk_stops F (q - 1) hf hro (by omega) Bs Bn w.heap.size b o n hh cap hn hn' hh' hcap _ hBs hBn (by simp) ((hB0.cell (p := ⟨Bs, 0, none⟩) hBs).trans hs) ((hB0.cell (p := ⟨Bn, 0, none⟩) hBn).trans hc)) belowK_t (belowK_b (by simp)) (Below.refl _ _) (fun _ => rfl)
    (fun pre W => (∃ v, Boxed W w.heap.size 30 v ∧ W.ownsRow w.heap.size 22 1 v pre.length (pre.map (rowV b o n)) ∧ (v = .slice none 0 0 ↔ pre = [])) ∧ Below w.heap.size w W)
    (fun _ _ _ => False)
    (OwnFrom.and (Own.from (holdsRow_own w.heap.size w.heap.size 30 22 1 (fun pre : List Nat => pre.length) (fun pre => pre.map (rowV b o n)) (fun pre v => v = .slice none 0 0 ↔ pre = [])) _) (ownFrom_below (Nat.le_refl _) (by simp)))
    (fun _ _ _ _ _ hs _ _ => hs)
    ⟨⟨_, bO, World.ownsRow_nil _ _ _ _, by simp⟩, hB0⟩
    (fun x => { tmps := #[.slice none 0 0, .func (.func 152) #[] #[.pointer (some ⟨Bs, 0, none⟩), .pointer (some ⟨Bn, 0, none⟩)], .pointer (some ⟨w.heap.size, 0, none⟩), undef, .slice none 0 0, rowV b o n x, .func (.func 152) #[] #[.pointer (some ⟨Bs, 0, none⟩), .pointer (some ⟨Bn, 0, none⟩)], rowV b o n x, undef, undef, undef, undef, undef], defers := [] }) ?assign ?body ?done ?stop
  case assign =>
    intro l x W K hK
    gi_wp2
    exact hK
  case body =>
    rintro l pre x W ⟨⟨v, hv, hrow, hnil⟩, hB⟩ hlt
    have hc := hv.cell
    unfold rowV
    gi_wp2_with (gi_at_builtin; refine wpListIn_append_own _ rfl _ _ 30 rfl w.heap.size 22 i0 (.slice none 0 0) 1 24 Tryd.underlying30 hi hz0 hz1 hz2 rfl (by decide) _ _ _ rfl (hrow.alloc _) ⟨W.heap.size, 0, none⟩ 1 1 [rowV b o n x] rfl rfl (cell_one_new _ _ _) (by simp [Value.oneCell', rowV]) (by simp [maxLen]; omega) (by omega) (by have := hB.size; simp; omega) ?_; intro v' w1 hown' hgrow _; obtain ⟨g', cap', rfl⟩ := ownsRow_succ hown'; obtain ⟨hv1, hv2, hr2, hk2, hb2⟩ := hv.appended (by decide) hrow hB.size (Nat.le_refl _) hown' hgrow; have hc1 := hv1.cell; have hf1 := hv1.frozen)
    exact ⟨hk2.from _, hb2, ⟨_, hv2, by rw [List.length_append, List.map_append]; exact hr2, by simp⟩, hB.trans hb2⟩
  case done =>
    rintro D ys W hD rfl ⟨⟨v, hv, hrow, hnil⟩, hB⟩ hK
    have hc := hv.cell
    rw [List.length_range] at hrow
    gi_wp2
    refine ⟨by simp, .inl ⟨_, _, rfl, run_takeDeferred hK, ?_⟩⟩
    exact ⟨_, results_tmp rfl _ _ _, v, rfl, ownsRow_putObj hrow _ hK rfl, hB.trans (belowK_b (w := w) (Nat.le_refl _) W D _ _ (by simp at hD; omega) hK rfl rfl)⟩
  case stop =>
    rintro D c pre W _ _ h _
    exact h.elim
theorem appendSeq_any (Bs Bn b o n hh cap : Nat) (hn : 1 ≤ n) (hn' : n ≤ 1000) (hh' : hh ≤ 1000) (hcap : n * hh ≤ cap) (w : World) (hBs : Bs < w.heap.size) (hBn : Bn < w.heap.size)
    (hs : w.cell? ⟨Bs, 0, none⟩ = some (.slice (some ⟨b, o, none⟩) (n * hh) cap)) (hc : w.cell? ⟨Bn, 0, none⟩ = some (.int .i64 (n : Int))) :
    Calls Tryd.prog 151 #[.slice none 0 0, .func (.func 152) #[] #[.pointer (some ⟨Bs, 0, none⟩), .pointer (some ⟨Bn, 0, none⟩)]] w fun e W' => ∃ v, e = .returned v ∧ W'.ownsRow w.heap.size 22 1 v hh ((List.range hh).map (rowV b o n)) ∧ Below w.heap.size w W' :=
  (callsIn_wide (n := 3)).1 (appendSeq_in Fence.wide 3 trivial trivial rfl (by omega) Bs Bn b o n hh cap hn hn' hh' hcap w hBs hBn hs hc)
theorem collect_any (Bs Bn b o n hh cap : Nat) (hn : 1 ≤ n) (hn' : n ≤ 1000) (hh' : hh ≤ 1000) (hcap : n * hh ≤ cap) (w : World) (hBs : Bs < w.heap.size) (hBn : Bn < w.heap.size)
    (hs : w.cell? ⟨Bs, 0, none⟩ = some (.slice (some ⟨b, o, none⟩) (n * hh) cap)) (hc : w.cell? ⟨Bn, 0, none⟩ = some (.int .i64 (n : Int))) :
    Calls Tryd.prog 132 #[.func (.func 152) #[] #[.pointer (some ⟨Bs, 0, none⟩), .pointer (some ⟨Bn, 0, none⟩)]] w fun e W' => ∃ v, e = .returned v ∧ W'.ownsRow w.heap.size 22 1 v hh ((List.range hh).map (rowV b o n)) ∧ Below w.heap.size w W' := by
  have H := appendSeq_any Bs Bn b o n hh cap hn hn' hh' hcap w hBs hBn hs hc
  go_enter Tryd.func132, Tryd.ntmps132
  go_wp2_with fail
  refine H.mono ?_
  rintro e W1 ⟨v, rfl, ho, hb⟩
  go_wp2_with fail
  go_ret
  exact ⟨v, rfl, ho, hb⟩
theorem chunk_any (a : Option Addr) (L cap n : Nat) (hn : 1 ≤ n) (w : World) :
    Calls Tryd.prog 133 #[.slice a L cap, .int .i64 (n : Int)] w fun e W' => e = .returned (.func (.func 152) #[] #[.pointer (some ⟨w.heap.size, 0, none⟩), .pointer (some ⟨w.heap.size + 1, 0, none⟩)]) ∧ W' = (w.alloc (.cells #[.slice a L cap] 22)).alloc (.cells #[.int .i64 (n : Int)] 3) := by
  have h1 : ¬ (n : Int) < 1 := by omega
  go_enter Tryd.func133, Tryd.ntmps133
  go_wp2_with fail
  go_ret
  exact ⟨rfl, rfl⟩
end Put
end Go.Proofs.YtnkeahfcpbepjaaDoor

/- sheet.open. -/
namespace Go.Proofs.YtnkeahfcpbepjaaDoor
open Go.ChangeShapes Go.WideShapes Go.ChangeAt Go.RowKit
namespace Put
open Grd (C SliceAt CellsAt gridErr z0 nilV rowsL)
/-- A pointer to the 22 words of a screen. -/
def ScrPtr (W : World) (v : Value) : Prop := ∃ R cs t fr, v = .pointer (some ⟨R, 0, none⟩) ∧ W.heap[R]? = some (.cells cs t fr) ∧ cs.size = 22
def blkAt (W : World) (v : Value) : Array Value := match v with
  | .pointer (some a) => (match W.heap[a.block]? with
    | some (.cells cs _ _) => cs
    | _ => #[])
  | _ => #[]
theorem load_scr (a : Act) (dst : Option Tmp) (x : Operand) (ty : TypeId) (pos : String) (after : Array Edge) (guard : Option (Nat × Bool)) (W : World) (h : ScrPtr W (a.eval x)) :
    (execOp a.eval { dst, op := .load 32 x, type := ty, pos, after, guard }).run Tryd.prog W = .ok (.value (.agg (blkAt W (a.eval x)))) W := by
  obtain ⟨R, cs, t, fr, h0, h1, h2⟩ := h
  have e : blkAt W (a.eval x) = cs := by rw [h0]; unfold blkAt; simp only []; rw [h1]
  rw [e]
  have hi : (Tryd.prog.info? 32).map (·.size) = some 22 := by kernel_rfl
  have hr := run_loadVar_row W R t 32 cs fr _ h1 Tryd.underlying32 rfl (by rw [h2]; exact hi)
  unfold execOp
  simp only [h0, Instr.loadAt, Instr.sureAddr, Sem.run_bind, Sem.run_pure, Result.andThen_ok, hr]
theorem scrPtr_of {W : World} {R : Nat} {t : TypeId} {s : Scr} {cv tv gv : Value} (h : W.heap[R]? = some (.cells (scrA s cv tv gv) t (0, 0))) : ScrPtr W (.pointer (some ⟨R, 0, none⟩)) ∧ blkAt W (.pointer (some ⟨R, 0, none⟩)) = scrA s cv tv gv := by
  refine ⟨⟨_, _, _, _, rfl, h, rfl⟩, ?_⟩
  unfold blkAt
  simp only []
  rw [h]
/-- The 22 words of a screen, as a value. -/
def IsScrV (v : Value) : Prop := ∃ s cv tv gv, v = .agg (scrA s cv tv gv)
theorem isScrV (s : Scr) (cv tv gv : Value) : IsScrV (.agg (scrA s cv tv gv)) := ⟨s, cv, tv, gv, rfl⟩
def IsSliceV (v : Value) : Prop := ∃ a n c, v = .slice a n c
theorem isSliceV (a : Option Addr) (n c : Nat) : IsSliceV (.slice a n c) := ⟨a, n, c, rfl⟩
/-- A screen and its rows: a sheet's words. -/
def sheetOf (v : Value) (rv : Value) : Array Value := match v with
  | .agg cs => cs.push rv
  | _ => #[]
theorem sheetOf_scr (s : Scr) (cv tv gv rv : Value) : sheetOf (.agg (scrA s cv tv gv)) rv = shA s cv tv gv rv := rfl
theorem build_run (W : World) (s : Scr) (cv tv gv : Value) (a : Option Addr) (n c : Nat) : (Instr.build 109 #[(0, .agg (scrA s cv tv gv)), (1, .slice a n c)]).run Tryd.prog W = .ok (.agg (shA s cv tv gv (.slice a n c))) W := by
  kernel_rfl
theorem build_scr (a : Act) (dst : Option Tmp) (x y : Operand) (ty : TypeId) (pos : String) (after : Array Edge) (guard : Option (Nat × Bool)) (W : World) (h : IsScrV (a.eval x)) (hy : IsSliceV (a.eval y)) :
    (execOp a.eval { dst, op := .build 109 #[(0, x), (1, y)], type := ty, pos, after, guard }).run Tryd.prog W = .ok (.value (.agg (sheetOf (a.eval x) (a.eval y)))) W := by
  obtain ⟨s, cv, tv, gv, hx⟩ := h
  obtain ⟨p, n, c, hy⟩ := hy
  unfold execOp
  simp only [List.map_toArray, List.map_cons, List.map_nil, hx, hy, sheetOf_scr, Sem.run_bind, build_run, Sem.run_pure, Result.andThen_ok]
theorem own_shape {w : World} {base : Nat} {e : TypeId} {size : Nat} {v : Value} {n : Nat} {xs : List Value} (h : w.ownsRow base e size v n xs) (hn : 0 < n) : ∃ g c, v = .slice (some ⟨g, 0, none⟩) n c := by
  obtain ⟨h0, h | ⟨g', cap, cur, hv, -⟩⟩ := h
  · omega
  · exact ⟨g', cap, hv⟩
theorem own_slice {w : World} {base : Nat} {e : TypeId} {size : Nat} {v : Value} {n : Nat} {xs : List Value} (h : w.ownsRow base e size v n xs) : ∃ a c, v = .slice a n c := by
  obtain ⟨h0, ⟨rfl, rfl⟩ | ⟨g', cap, cur, hv, -⟩⟩ := h
  · exact ⟨_, _, rfl⟩
  · exact ⟨_, cap, hv⟩
theorem store_at {W : World} {p i : Nat} {A A' : Array Value} {t : TypeId} {v : Value} (h : W.heap[p]? = some (.cells A t (0, 0))) (e : A.setIfInBounds i v = A') : (W.setCell ⟨p, i, none⟩ v).heap[p]? = some (.cells A' t (0, 0)) := by
  rw [← e]
  exact heap_setCell_same W p i _ _ v h
theorem store_off {W : World} {p i k : Nat} {v : Value} (h : k ≠ p) : (W.setCell ⟨p, i, none⟩ v).heap[k]? = W.heap[k]? := heap_setCell_other W ⟨p, i, none⟩ k v h
theorem own_off {W : World} {N p i : Nat} {e : TypeId} {v u : Value} {n : Nat} {xs : List Value} {A : Array Value} {t : TypeId} (h : W.ownsRow N e 1 u n xs) (hp : W.heap[p]? = some (.cells A t (0, 0))) (ht : t ≠ e) : (W.setCell ⟨p, i, none⟩ v).ownsRow N e 1 u n xs :=
  owns_kept h fun g hg => store_off fun eq => by
    obtain ⟨-, B, f, hB⟩ := owns_block h g hg
    rw [eq, hp] at hB
    injection hB with hB
    injection hB with _ hB _
    exact ht hB
theorem own_next {W W' : World} {N : Nat} {e : TypeId} {u : Value} {n : Nat} {xs : List Value} (h : W.ownsRow N e 1 u n xs) (hb : Below W.heap.size W W') : W'.ownsRow N e 1 u n xs :=
  owns_kept h fun g hg => by
    obtain ⟨-, B, f, hB⟩ := owns_block h g hg
    exact hb.block g (heap_lt hB)
theorem chunk_at (a : Option Addr) (L cap n : Nat) (hn : 1 ≤ n) (w : World) :
    Calls Tryd.prog 133 #[.slice a L cap, .int .i64 (n : Int)] w fun e W' => ∃ Bs Bn, e = .returned (.func (.func 152) #[] #[.pointer (some ⟨Bs, 0, none⟩), .pointer (some ⟨Bn, 0, none⟩)]) ∧ Bs < W'.heap.size ∧ Bn < W'.heap.size ∧ W'.cell? ⟨Bs, 0, none⟩ = some (.slice a L cap) ∧ W'.cell? ⟨Bn, 0, none⟩ = some (.int .i64 (n : Int)) ∧ Below w.heap.size w W' := by
  refine (chunk_any a L cap n hn w).mono ?_
  rintro e W ⟨rfl, rfl⟩
  have x0 := heap_alloc_new w (.cells #[.slice a L cap] 22)
  have x1 := heap_alloc_new (w.alloc (.cells #[.slice a L cap] 22)) (.cells #[.int .i64 (n : Int)] 3)
  have y0 : ((w.alloc (.cells #[.slice a L cap] 22)).alloc (.cells #[.int .i64 (n : Int)] 3)).heap[w.heap.size]? = _ := (Below.heap_alloc _ _ _ (by simp)).trans x0
  refine ⟨w.heap.size, w.heap.size + 1, rfl, by simp; omega, by simp, ?_, ?_, ((Below.refl _ _).alloc (Nat.le_refl _) _).alloc (by simp) _⟩
  · simp [World.cell?, y0]
  · have e : (w.alloc (.cells #[.slice a L cap] 22)).heap.size = w.heap.size + 1 := by simp
    rw [e] at x1
    unfold World.cell?
    rw [x1]
    rfl
section
attribute [local go_sem ↓] load_scr build_scr
attribute [local go_sem] isScrV isSliceV sheetOf_scr
set_option maxHeartbeats 4000000 in
theorem open_any (n hh : Nat) (s : Scr) (cv tv gv : Value) (w0 w : World) (hV : ScrV w0 s cv tv gv) (hb0 : Below w0.heap.size w0 w) (hF : Fits s) (hw : s.w = n) (hh' : s.h = hh) (hz : gridErr n hh s.cs = 0) :
    Calls Tryd.prog 99 #[.agg (scrA s cv tv gv)] w fun e W' => ∃ p, e = .returned (.pointer (some ⟨p, 0, none⟩)) ∧ ShAt 109 W' w0.heap.size w.heap.size p s (rowsL n s.cs hh) ∧ Below w.heap.size w W' := by
  have hzz := (Grd.gridErr_zero n hh s.cs).1 hz
  obtain ⟨hsz, hL, -⟩ := hzz
  have hsz' : 1 ≤ (n : Int) ∧ (n : Int) ≤ 120 ∧ 1 ≤ (hh : Int) ∧ (hh : Int) ≤ 60 := by simpa [Grd.isSize] using hsz
  obtain ⟨w1, w2, w3, w4⟩ := hsz'
  have hne : s.cs ≠ [] := by
    intro e
    rw [e] at hL
    have : 1 ≤ n * hh := Nat.mul_pos (by omega) (by omega)
    simp at hL
    omega
  rcases hV.c with ⟨he, -⟩ | ⟨-, b, o, cap, rfl, hc1, hc2, hC⟩
  · exact absurd he hne
  have HL : Hid (s.cs.length = n * hh) := hL
  rw [hL] at hc1 hV ⊢
  have HC : Hid (CellsAt w0 b o s.cs) := hC
  have HB00 : Hid (Below w0.heap.size w0 w) := hb0
  have HW : Hid (s.w = n ∧ s.h = hh) := ⟨hw, hh'⟩
  clear hL hC hz hsz hne hw hh'
  have x0 := heap_alloc_new w (.cells (scrA s (.slice (some ⟨b, o, none⟩) (n * hh) cap) tv gv) 32)
  have kb : Below w.heap.size w (w.alloc (.cells (scrA s (.slice (some ⟨b, o, none⟩) (n * hh) cap) tv gv) 32)) := (Below.refl _ _).alloc (Nat.le_refl _) _
  have HX0 : Hid _ := x0
  have HB0 : Hid _ := kb
  have HV : Hid (ScrV w0 s _ tv gv) := hV
  have HF : Hid (Fits s) := hF
  clear x0 kb hV hF hb0
  have hl0 : w.heap.size < (w.alloc (.cells (scrA s (.slice (some ⟨b, o, none⟩) (n * hh) cap) tv gv) 32)).heap.size := by simp
  go_enter Tryd.func99, Tryd.ntmps99
  go_upto_region 1 with fail
  generalize w.alloc (.cells (scrA s (.slice (some ⟨b, o, none⟩) (n * hh) cap) tv gv) 32) = W1 at *
  go_cut [3] from 3 to 14 (fun c wx => ∃ p rv, c = .pointer (some ⟨p, 0, none⟩) ∧ w.heap.size ≤ p ∧ wx.heap[p]? = some (.cells (shA s (.slice (some ⟨b, o, none⟩) (n * hh) cap) tv gv rv) 109 (0, 0)) ∧ wx.ownsRow w.heap.size 22 1 rv hh ((List.range hh).map (rowV b o n)) ∧ Below W1.heap.size W1 wx)
  case first =>
    have hn1 : 1 ≤ n := by omega
    have SK : Hid (∀ w', Below W1.heap.size W1 w' → Below W1.heap.size W1 w' ∧ ScrPtr w' (.pointer (some ⟨w.heap.size, 0, none⟩)) ∧ blkAt w' (.pointer (some ⟨w.heap.size, 0, none⟩)) = scrA s (.slice (some ⟨b, o, none⟩) (n * hh) cap) tv gv ∧ w'.cell? ⟨w.heap.size, 0, none⟩ = some (.int .i64 (n : Int)) ∧ w'.cell? ⟨w.heap.size, 2, none⟩ = some (.slice (some ⟨b, o, none⟩) (n * hh) cap)) := fun w' hb => by
      have hx := Grd.carry HX0.out hb
      have q := scr_cells hx
      rw [HW.out.1] at q
      exact ⟨hb, (scrPtr_of hx).1, (scrPtr_of hx).2, q.1.1, q.1.2.2.1⟩
    have b0 : Below W1.heap.size W1 W1.drew := (Below.refl _ _).drew
    have HC1 : Hid (n * hh ≤ cap) := hc1
    have hh1 : 0 < hh := by omega
    clear hc1
    go_region_held3 (fun w' => Below W1.heap.size W1 w' ∧ ScrPtr w' (.pointer (some ⟨w.heap.size, 0, none⟩)) ∧ blkAt w' (.pointer (some ⟨w.heap.size, 0, none⟩)) = scrA s (.slice (some ⟨b, o, none⟩) (n * hh) cap) tv gv ∧ w'.cell? ⟨w.heap.size, 0, none⟩ = some (.int .i64 (n : Int)) ∧ w'.cell? ⟨w.heap.size, 2, none⟩ = some (.slice (some ⟨b, o, none⟩) (n * hh) cap))
      (first | exact SK.out _ (c2.alloc c2.size _) | exact SK.out _ c2 | exact SK.out _ c1 | exact SK.out _ b0)
      (first | (go_at_call 133; refine (chunk_at _ _ _ n hn1 _).mono ?_; rintro e V1 ⟨Bs, Bn, rfl, l1, l2, q1, q2, b1⟩; have c1 := b0.trans (b1.mono b0.size); clear b1) | (go_at_call 132; refine (collect_any Bs Bn b o n hh cap hn1 (by omega) (by omega) HC1.out _ l1 l2 q1 q2).mono ?_; rintro e V2 ⟨v, rfl, ho, b2⟩; have c2 := c1.trans (b2.mono c1.size); have HO : Hid (V2.ownsRow V1.heap.size 22 1 v hh ((List.range hh).map (rowV b o n))) := ho; obtain ⟨g, cp, rfl⟩ := own_shape ho hh1; clear b2 ho q1 q2))
    go_wp2_with fail
    go_meet
    exact ⟨V2.heap.size, _, rfl, Nat.le_trans (Nat.le_of_lt hl0) c2.size, heap_alloc_new _ _, Grd.ownsRow_mono (World.ownsRow.alloc HO.out _) (by have := c1.size; omega), c2.alloc c2.size _⟩
  case rest =>
    obtain ⟨p, rv, rfl, hp, hblk, hown, hb⟩ := hcut
    have hne : w.heap.size ≠ p := by
      intro e
      rw [← e, Grd.carry HX0.out hb] at hblk
      injection hblk with hblk
      injection hblk with _ hblk _
      exact absurd hblk (by decide)
    have HX1 : Hid _ := Grd.carry HX0.out hb
    have HP1 : Hid _ := hblk
    have HO1 : Hid _ := hown
    have HB1 : Hid (Below w.heap.size w wc) := HB0.out.trans (hb.mono HB0.out.size)
    clear hblk hown hb
    obtain ⟨-, ⟨-, c12, -⟩, -⟩ := scr_cells HX1.out
    go_wp2_with fail
    refine (cloneBools_any tv s.tabs wc (BoolsV.next HV.out.t (HB00.out.trans (HB1.out.mono HB00.out.size))) HF.out.bl).mono ?_
    rintro e W2 ⟨tv', rfl, ho2, b2⟩
    obtain ⟨ta, tc, rfl⟩ := own_slice ho2
    have hp2 := Grd.carry HP1.out b2
    have f12 := (sh_cells hp2).2.2 12
    have c12' := (sh_cells hp2).2.1.2.1
    clear c12
    have HP2 : Hid _ := store_at (i := 12) (v := .slice ta s.tabs.length tc) hp2 rfl
    have HX2 : Hid _ := (store_off (i := 12) (v := .slice ta s.tabs.length tc) hne).trans (Grd.carry HX1.out b2)
    have HT2 : Hid _ := own_off (i := 12) (v := .slice ta s.tabs.length tc) ho2 hp2 (by decide)
    have HO2 : Hid _ := own_off (i := 12) (v := .slice ta s.tabs.length tc) (own_next HO1.out b2) hp2 (by decide)
    have HB2 : Hid (Below w.heap.size w (W2.setCell ⟨p, 12, none⟩ (.slice ta s.tabs.length tc))) := (HB1.out.trans (b2.mono HB1.out.size)).setCell hp _
    have c20 := (scr_cells (Grd.carry HX1.out b2)).2.1.2.2.2.2.2.2.2.2.2.1
    clear ho2 b2 hp2
    go_wp2_with fail
    refine (Txt.clone_any s.title _ (by have := HF.out.tl; omega)).mono ?_
    rintro e W4 ⟨rfl, b4⟩
    have hp4 := Grd.carry HP2.out b4
    have f20 := (sh_cells hp4).2.2 20
    have c20' := (sh_cells hp4).2.1.2.2.2.2.2.2.2.2.2.1
    have HP4 : Hid _ := store_at (i := 20) (v := .string s.title) hp4 rfl
    have HX4 : Hid _ := (store_off (i := 20) (v := .string s.title) hne).trans (Grd.carry HX2.out b4)
    have HT4 : Hid _ := own_off (i := 20) (v := .string s.title) (own_next HT2.out b4) hp4 (by decide)
    have HO4 : Hid _ := own_off (i := 20) (v := .string s.title) (own_next HO2.out b4) hp4 (by decide)
    have HB4 : Hid (Below w.heap.size w (W4.setCell ⟨p, 20, none⟩ (.string s.title))) := (HB2.out.trans (b4.mono HB2.out.size)).setCell hp _
    have c21 := (scr_cells (Grd.carry HX2.out b4)).2.1.2.2.2.2.2.2.2.2.2.2
    clear b4 hp4 c20 c12' f12
    go_wp2_with fail
    refine (cloneRows_any gv s.gone _ (RowsV.next HV.out.g (HB00.out.trans (HB4.out.mono HB00.out.size))) HF.out.gl).mono ?_
    rintro e W6 ⟨gv', gvs, rfl, ho6, -, hr6, b6⟩
    have HR6 : Hid (RowsL w0 gvs s.gone) := hr6 w0 (HB00.out.trans (HB4.out.mono HB00.out.size)) HV.out.g
    obtain ⟨ga, gc, rfl⟩ := own_slice ho6
    have hp6 := Grd.carry HP4.out b6
    have f21 := (sh_cells hp6).2.2 21
    have c21' := (sh_cells hp6).2.1.2.2.2.2.2.2.2.2.2.2.1
    have HP6 : Hid _ := store_at (i := 21) (v := .slice ga s.gone.length gc) hp6 rfl
    have HT6 : Hid _ := own_off (i := 21) (v := .slice ga s.gone.length gc) (own_next HT4.out b6) hp6 (by decide)
    have HO6 : Hid _ := own_off (i := 21) (v := .slice ga s.gone.length gc) (own_next HO4.out b6) hp6 (by decide)
    have HG6 : Hid _ := own_off (i := 21) (v := .slice ga s.gone.length gc) ho6 hp6 (by decide)
    have HB6 : Hid (Below w.heap.size w (W6.setCell ⟨p, 21, none⟩ (.slice ga s.gone.length gc))) := (HB4.out.trans (b6.mono HB4.out.size)).setCell hp _
    clear ho6 b6 hp6 c21 c20' f20 hr6
    go_wp2_with fail
    go_ret
    have hk : Kept w0.heap.size w0 (W6.setCell ⟨p, 21, none⟩ (.slice ga s.gone.length gc)) := fun k hk _ => (HB00.out.trans (HB6.out.mono HB00.out.size)).block k hk
    have hbw : b < w0.heap.size := lt_of_cells HC.out (by intro e; have := HL.out; rw [e] at this; have h1 : 1 ≤ n * hh := Nat.mul_pos (by omega) (by omega); simp at this; omega)
    refine ⟨p, rfl, ⟨_, _, _, _, gvs, (List.range hh).map (rowV b o n), HP6.out, hp, HB00.out.size, ⟨_, _, _, rfl⟩, Grd.ownsRow_mono HT6.out HB1.out.size, Grd.ownsRow_mono HG6.out HB4.out.size, (RowsIn.of HR6.out rfl).keep hk, ?_, ?_, ?_⟩, HB6.out⟩
    · rw [Grd.rowsL_len]
      exact HO6.out
    · refine ⟨by rw [Grd.rowsL_len]; simp, fun i hi => ?_⟩
      rw [Grd.rowsL_len] at hi
      have e1 : ((List.range hh).map (rowV b o n)).getD i nilV = rowV b o n i := by simp [List.getD, hi]
      have e2 : (rowsL n s.cs hh).getD i [] = Grd.rowAt n s.cs i := by simp [rowsL, List.getD, hi]
      have hle : i * n + n ≤ n * hh := by
        have : (i + 1) * n ≤ hh * n := Nat.mul_le_mul_right n hi
        rw [Nat.mul_comm n hh]
        rw [Nat.add_mul] at this
        omega
      have hlen : (Grd.rowAt n s.cs i).length = n := by
        unfold Grd.rowAt
        rw [List.length_take, List.length_drop, HL.out]
        omega
      have hC2 := HC.out.part (i * n) n (by rw [HL.out]; exact hle)
      have hr : RowIn w0 w0.heap.size (rowV b o n i) (Grd.rowAt n s.cs i) := .inr ⟨by intro e; rw [e] at hlen; simp at hlen; omega, b, _, n, by unfold rowV; rw [hlen], by omega, by omega, hC2, .inl hbw⟩
      rw [e1, e2]
      exact hr.keep hk
    · intro k h1 h2
      obtain ⟨-, A, f, hA⟩ := owns_block HO4.out k h1
      obtain ⟨hB, -⟩ := owns_block HG6.out k h2
      have := heap_lt hA
      omega
end
end Put
end Go.Proofs.YtnkeahfcpbepjaaDoor
