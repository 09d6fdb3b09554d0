/- The law ShiftHolds. (Written by gen_shiftholds.py.) -/
import Derived.Test.YthokeflechajlaaDoorPartJ
import Derived.Test.YthokeflechajlaaDoorPartK
import Derived.Test.YthokeflechajlaaDoorPartL
import Derived.Deep.RegionHeld3
import Derived.BigRegion
import Derived.BigQuiet
import Derived.Lib.QuietBelow
namespace Go.Proofs.YthokeflechajlaaDoor
open Go.ChangeShapes Go.WideShapes Go.ChangeAt Go.RowKit
namespace Put
open Grd (C SliceAt CellsAt gridErr z0 nilV rowsL RowsAt RowB flat)
set_option maxHeartbeats 8000000 in
set_option maxRecDepth 100000 in
theorem holds_bad (s : Scr) (cv tv gv : Value) (k : Int) (w : World) (hT : Txt.Tab w) (hV : ScrV w s cv tv gv) (hF : Fits s) (hz : scrErr s ≠ 0) :
    Calls Tryd.prog 3 #[.agg (scrA s cv tv gv), .int .i64 k] w fun e w' => e = .returned (.bool true) ∧ Below w.heap.size w w' := by
  have x0 := heap_alloc_new w (.cells (scrA s cv tv gv) 32)
  have kb : Below w.heap.size w (w.alloc (.cells (scrA s cv tv gv) 32)) := (Below.refl _ _).alloc (Nat.le_refl _) _
  have HP : Hid (∀ W, Below w.heap.size w W → Calls Tryd.prog 6 #[] W fun e w' => e = .returned (.bool true) ∧ Below W.heap.size W w') := fun W h => printed_any W (Grd.Tab.next hT h)
  have HCK : Hid (∀ W, Below w.heap.size w W → Calls Tryd.prog 7 #[.agg (scrA s cv tv gv)] W fun e w' => e = .returned (.int .i64 (scrErr s)) ∧ Below W.heap.size W w') := fun W h => putCheck_any s _ _ _ W (Grd.Tab.next hT h) (hV.next h) hF
  have HX0 : Hid _ := x0
  have HKB : Hid _ := kb
  have hzb : (scrErr s != 0) = true := by simp [bne, hz]
  clear hz
  clear x0 kb hT hV hF
  generalize scrErr s = er at *
  go_enter Tryd.func3, Tryd.ntmps3
  go_wp2_with fail
  refine (HP.out _ HKB.out).mono ?_
  rintro e V1 ⟨rfl, b1⟩
  have HB1 : Hid (Below w.heap.size w V1) := HKB.out.trans (b1.mono HKB.out.size)
  have HX1 : Hid (V1.heap[w.heap.size]? = _) := Grd.carry HX0.out b1
  clear b1 HX0 HKB
  go_wp2_with (refine BigFrame.wpList_want rfl fun K hK => wp_load_row 32 (.tmp 2) rfl w.heap.size rfl _ _ _ _ HX1.out Tryd.underlying32 rfl (by kernel_rfl) (hK _ _ ?_))
  refine (HCK.out _ HB1.out).mono ?_
  rintro e V2 ⟨rfl, b2⟩
  have HB2 : Hid (Below w.heap.size w V2) := HB1.out.trans (b2.mono HB1.out.size)
  have HX2 : Hid (V2.heap[w.heap.size]? = _) := Grd.carry HX1.out b2
  obtain ⟨⟨-, -, -, -, -, -, -, -, -, c9, c10⟩, -, -⟩ := scr_cells HX2.out
  clear b2 HX1 HB1 HCK
  go_wp2_with fail
  refine (HP.out _ HB2.out).mono ?_
  rintro e V3 ⟨rfl, b3⟩
  have HB3 : Hid (Below w.heap.size w V3) := HB2.out.trans (b3.mono HB2.out.size)
  clear b3
  go_wp2_with fail
  go_ret
  exact ⟨rfl, HB3.out⟩
set_option maxHeartbeats 8000000 in
set_option maxRecDepth 100000 in
theorem holds_low (s : Scr) (cv tv gv : Value) (k : Int) (w : World) (hT : Txt.Tab w) (hV : ScrV w s cv tv gv) (hF : Fits s) (hz : scrErr s = 0) (hk : k < 1) :
    Calls Tryd.prog 3 #[.agg (scrA s cv tv gv), .int .i64 k] w fun e w' => e = .returned (.bool true) ∧ Below w.heap.size w w' := by
  have x0 := heap_alloc_new w (.cells (scrA s cv tv gv) 32)
  have kb : Below w.heap.size w (w.alloc (.cells (scrA s cv tv gv) 32)) := (Below.refl _ _).alloc (Nat.le_refl _) _
  have HP : Hid (∀ W, Below w.heap.size w W → Calls Tryd.prog 6 #[] W fun e w' => e = .returned (.bool true) ∧ Below W.heap.size W w') := fun W h => printed_any W (Grd.Tab.next hT h)
  have HCK : Hid (∀ W, Below w.heap.size w W → Calls Tryd.prog 7 #[.agg (scrA s cv tv gv)] W fun e w' => e = .returned (.int .i64 (scrErr s)) ∧ Below W.heap.size W w') := fun W h => putCheck_any s _ _ _ W (Grd.Tab.next hT h) (hV.next h) hF
  have HX0 : Hid _ := x0
  have HKB : Hid _ := kb
  rw [hz] at HCK
  clear hz
  clear x0 kb hT hV hF
  generalize scrErr s = er at *
  go_enter Tryd.func3, Tryd.ntmps3
  go_wp2_with fail
  refine (HP.out _ HKB.out).mono ?_
  rintro e V1 ⟨rfl, b1⟩
  have HB1 : Hid (Below w.heap.size w V1) := HKB.out.trans (b1.mono HKB.out.size)
  have HX1 : Hid (V1.heap[w.heap.size]? = _) := Grd.carry HX0.out b1
  clear b1 HX0 HKB
  go_wp2_with (refine BigFrame.wpList_want rfl fun K hK => wp_load_row 32 (.tmp 2) rfl w.heap.size rfl _ _ _ _ HX1.out Tryd.underlying32 rfl (by kernel_rfl) (hK _ _ ?_))
  refine (HCK.out _ HB1.out).mono ?_
  rintro e V2 ⟨rfl, b2⟩
  have HB2 : Hid (Below w.heap.size w V2) := HB1.out.trans (b2.mono HB1.out.size)
  have HX2 : Hid (V2.heap[w.heap.size]? = _) := Grd.carry HX1.out b2
  obtain ⟨⟨-, -, -, -, -, -, -, -, -, c9, c10⟩, -, -⟩ := scr_cells HX2.out
  clear b2 HX1 HB1 HCK
  go_wp2_with fail
  refine (HP.out _ HB2.out).mono ?_
  rintro e V3 ⟨rfl, b3⟩
  have HB3 : Hid (Below w.heap.size w V3) := HB2.out.trans (b3.mono HB2.out.size)
  clear b3
  go_wp2_with fail
  go_ret
  exact ⟨rfl, HB3.out⟩
set_option maxHeartbeats 8000000 in
set_option maxRecDepth 100000 in
theorem holds_high (s : Scr) (cv tv gv : Value) (k : Int) (w : World) (hT : Txt.Tab w) (hV : ScrV w s cv tv gv) (hF : Fits s) (hz : scrErr s = 0) (hk : ¬ k < 1) (hb0 : 0 ≤ s.bot) (hb1 : s.bot ≤ 59) (ht0 : 0 ≤ s.top) (ht1 : s.top ≤ 59) (hk2 : s.bot - s.top < k) :
    Calls Tryd.prog 3 #[.agg (scrA s cv tv gv), .int .i64 k] w fun e w' => e = .returned (.bool true) ∧ Below w.heap.size w w' := by
  have x0 := heap_alloc_new w (.cells (scrA s cv tv gv) 32)
  have kb : Below w.heap.size w (w.alloc (.cells (scrA s cv tv gv) 32)) := (Below.refl _ _).alloc (Nat.le_refl _) _
  have HP : Hid (∀ W, Below w.heap.size w W → Calls Tryd.prog 6 #[] W fun e w' => e = .returned (.bool true) ∧ Below W.heap.size W w') := fun W h => printed_any W (Grd.Tab.next hT h)
  have HCK : Hid (∀ W, Below w.heap.size w W → Calls Tryd.prog 7 #[.agg (scrA s cv tv gv)] W fun e w' => e = .returned (.int .i64 (scrErr s)) ∧ Below W.heap.size W w') := fun W h => putCheck_any s _ _ _ W (Grd.Tab.next hT h) (hV.next h) hF
  have HX0 : Hid _ := x0
  have HKB : Hid _ := kb
  rw [hz] at HCK
  clear hz
  have hwb : IntKind.i64.wrap (s.bot - s.top) = s.bot - s.top := wrap_id _ (by omega) (by omega)
  clear x0 kb hT hV hF
  generalize scrErr s = er at *
  go_enter Tryd.func3, Tryd.ntmps3
  go_wp2_with fail
  refine (HP.out _ HKB.out).mono ?_
  rintro e V1 ⟨rfl, b1⟩
  have HB1 : Hid (Below w.heap.size w V1) := HKB.out.trans (b1.mono HKB.out.size)
  have HX1 : Hid (V1.heap[w.heap.size]? = _) := Grd.carry HX0.out b1
  clear b1 HX0 HKB
  go_wp2_with (refine BigFrame.wpList_want rfl fun K hK => wp_load_row 32 (.tmp 2) rfl w.heap.size rfl _ _ _ _ HX1.out Tryd.underlying32 rfl (by kernel_rfl) (hK _ _ ?_))
  refine (HCK.out _ HB1.out).mono ?_
  rintro e V2 ⟨rfl, b2⟩
  have HB2 : Hid (Below w.heap.size w V2) := HB1.out.trans (b2.mono HB1.out.size)
  have HX2 : Hid (V2.heap[w.heap.size]? = _) := Grd.carry HX1.out b2
  obtain ⟨⟨-, -, -, -, -, -, -, -, -, c9, c10⟩, -, -⟩ := scr_cells HX2.out
  clear b2 HX1 HB1 HCK
  go_wp2_with fail
  refine (HP.out _ HB2.out).mono ?_
  rintro e V3 ⟨rfl, b3⟩
  have HB3 : Hid (Below w.heap.size w V3) := HB2.out.trans (b3.mono HB2.out.size)
  clear b3
  go_wp2_with fail
  go_ret
  exact ⟨rfl, HB3.out⟩
theorem RowsA.next {w w' : World} {b : Nat} {l : List (List C)} (h : RowsA w b 0 l) (hb : Below w.heap.size w w') : RowsA w' b 0 l := fun j hj => by
  obtain ⟨rv, h1, h2⟩ := h j hj
  exact ⟨rv, cell_stay hb h1, h2.below hb⟩
/-- What moved up and down again, row by row. -/
structure HoldsR (top bot m hh : Nat) (A B D : List (List C)) : Prop where
  la : A.length = hh
  lb : B.length = hh
  ld : D.length = hh
  out1 : ∀ y, y < top ∨ bot < y → B.getD y [] = A.getD y []
  out2 : ∀ y, y < top ∨ bot < y → D.getD y [] = A.getD y []
  up : ∀ y, top ≤ y → y + m ≤ bot → B.getD y [] = A.getD (y + m) []
  back : ∀ y, top + m ≤ y → y ≤ bot → D.getD y [] = A.getD y []
  small : ∀ y, y < hh → (A.getD y []).length ≤ 120
theorem holds_of {s : Scr} {n hh top bot m : Nat} (hR : RightS s n hh) (ht : s.top = top) (hb : s.bot = bot) (htb : top ≤ bot) (hbh : bot < hh) (s1 s2 : Scr)
    (h1 : s1 = { (iterN (rUp n top bot true) m (s, rowsL n s.cs hh)).1 with cs := (iterN (rUp n top bot true) m (s, rowsL n s.cs hh)).2.flatten })
    (h2 : s2 = { (iterN (rDn n top bot) m (s1, rowsL n s1.cs hh)).1 with cs := (iterN (rDn n top bot) m (s1, rowsL n s1.cs hh)).2.flatten }) :
    RightS s1 n hh ∧ RightS s2 n hh ∧ s1.top = top ∧ s1.bot = bot ∧ s1.modes = s.modes ∧ s1.km = s.km ∧ s1.title = s.title ∧ s1.tabs = s.tabs ∧ HoldsR top bot m hh (rowsL n s.cs hh) (rowsL n s1.cs hh) (rowsL n s2.cs hh) := by
  have r1 := RollsR.iter (f := rUp n top bot true) (fun x hx => hx.up hR top bot true htb hbh) (s, rowsL n s.cs hh) (RollsR.start hR) m
  obtain ⟨q1, q2⟩ := r1.right hR
  have e1 := r1.e
  have hA := Grd.rowsL_len n s.cs hh
  have o1 := fun y hy => iterUp_out n top bot true htb (s, rowsL n s.cs hh) (by show bot < (rowsL n s.cs hh).length; omega) y hy m
  have u1 := fun y => iterUp_in n top bot true htb (s, rowsL n s.cs hh) (by show bot < (rowsL n s.cs hh).length; omega) m y
  rw [← h1] at q1
  have hs1 : s1 = { s with gone := s1.gone, cs := s1.cs } := by
    rw [h1]
    generalize (iterN (rUp n top bot true) m (s, rowsL n s.cs hh)).2.flatten = ff
    generalize (iterN (rUp n top bot true) m (s, rowsL n s.cs hh)).1 = a at e1 ⊢
    rw [e1]
  have hc1 : s1.cs = (iterN (rUp n top bot true) m (s, rowsL n s.cs hh)).2.flatten := by rw [h1]
  rw [← hc1] at q2
  rw [← q2] at o1 u1
  have t1 : s1.top = top := by rw [hs1]; exact ht
  have b1 : s1.bot = bot := by rw [hs1]; exact hb
  have r2 := RollsR.iter (f := rDn n top bot) (fun x hx => hx.dn q1 top bot htb hbh) (s1, rowsL n s1.cs hh) (RollsR.start q1) m
  obtain ⟨q3, q4⟩ := r2.right q1
  have hB := Grd.rowsL_len n s1.cs hh
  have o2 := fun y hy => iterDn_out n top bot htb (s1, rowsL n s1.cs hh) (by show bot < (rowsL n s1.cs hh).length; omega) y hy m
  have u2 := fun y => iterDn_in n top bot htb (s1, rowsL n s1.cs hh) (by show bot < (rowsL n s1.cs hh).length; omega) m y
  rw [← h2] at q3
  have hc2 : s2.cs = (iterN (rDn n top bot) m (s1, rowsL n s1.cs hh)).2.flatten := by rw [h2]
  rw [← hc2] at q4
  rw [← q4] at o2 u2
  refine ⟨q1, q3, t1, b1, by rw [hs1], by rw [hs1], by rw [hs1], by rw [hs1], ⟨hA, hB, Grd.rowsL_len _ _ _, o1, fun y hy => (o2 y hy).trans (o1 y hy), u1, fun y h3 h4 => ?_, fun y hy => ?_⟩⟩
  · rw [u2 y h3 h4]
    show (rowsL n s1.cs hh).getD (y - m) [] = _
    rw [u1 (y - m) (by omega) (by omega)]
    show (rowsL n s.cs hh).getD (y - m + m) [] = _
    rw [show y - m + m = y by omega]
  · rw [rowsL_row hR y (by omega)]
    exact hR.n2
section
set_option maxHeartbeats 16000000 in
set_option maxRecDepth 100000 in
theorem holds_good (s : Scr) (cv tv gv : Value) (m : Nat) (w : World) (hT : Txt.Tab w) (hV : ScrV w s cv tv gv) (hF : Fits s) (n hh top bot : Nat) (hR : RightS s n hh) (ht : s.top = top) (hbt : s.bot = bot) (htb : top ≤ bot) (hbh : bot < hh) (hm1 : 1 ≤ m) (hm2 : top + m ≤ bot) :
    Calls Tryd.prog 3 #[.agg (scrA s cv tv gv), .int .i64 (m : Int)] w fun e w' => e = .returned (.bool true) ∧ Below w.heap.size w w' := by
  have hz := rightErr hR
  have hh60 := hR.h2
  have hKK : oftK (m : Int) top bot = m := by unfold oftK cnt withinI; omega
  have x0 := heap_alloc_new w (.cells (scrA s cv tv gv) 32)
  have kb : Below w.heap.size w (w.alloc (.cells (scrA s cv tv gv) 32)) := (Below.refl _ _).alloc (Nat.le_refl _) _
  have HP : Hid (∀ W, Below w.heap.size w W → Calls Tryd.prog 6 #[] W fun e w' => e = .returned (.bool true) ∧ Below W.heap.size W w') := fun W h => printed_any W (Grd.Tab.next hT h)
  have HCK : Hid (∀ W, Below w.heap.size w W → Calls Tryd.prog 7 #[.agg (scrA s cv tv gv)] W fun e w' => e = .returned (.int .i64 (scrErr s)) ∧ Below W.heap.size W w') := fun W h => putCheck_any s _ _ _ W (Grd.Tab.next hT h) (hV.next h) hF
  have HX0 : Hid _ := x0
  have HKB : Hid _ := kb
  rw [hz] at HCK
  obtain ⟨s1, hs1⟩ : ∃ s1 : Scr, s1 = { (iterN (rUp n top bot true) m (s, rowsL n s.cs hh)).1 with cs := (iterN (rUp n top bot true) m (s, rowsL n s.cs hh)).2.flatten } := ⟨_, rfl⟩
  obtain ⟨s2, hs2⟩ : ∃ s2 : Scr, s2 = { (iterN (rDn n top bot) m (s1, rowsL n s1.cs hh)).1 with cs := (iterN (rDn n top bot) m (s1, rowsL n s1.cs hh)).2.flatten } := ⟨_, rfl⟩
  obtain ⟨hR1, hR2, ht1, hb1, hmo, hkm, hti, htb1, hHR⟩ := holds_of hR ht hbt htb hbh s1 s2 hs1 hs2
  have hF1 : Fits s1 := ⟨by rw [hmo]; exact hF.m0, by rw [hmo]; exact hF.m1, by rw [hkm]; exact hF.k0, by rw [hkm]; exact hF.k1, by rw [hti]; exact hF.tl, by have := hR1.gl; omega, by rw [htb1]; exact hF.bl⟩
  have HUP : Hid (∀ W, Below w.heap.size w W → Calls Tryd.prog 8 #[.agg (scrA s cv tv gv), .int .i64 (m : Int)] W (Made w W s1 0)) := fun W h => by
    have h2 := sup_any (w0 := w) ⟨Grd.Tab.next hT h, hV, h, hF⟩ hR top bot ht hbt (m : Int)
    rw [hKK, ← hs1] at h2
    exact h2
  have HDN : Hid (∀ w0 W cv' tv' gv', Below w.heap.size w W → ScrV w0 s1 cv' tv' gv' → Below w0.heap.size w0 W → Calls Tryd.prog 9 #[.agg (scrA s1 cv' tv' gv'), .int .i64 (m : Int)] W (Made w0 W s2 0)) := fun w0 W cv' tv' gv' h hv hb => by
    have h2 := sdown_any (w0 := w0) ⟨Grd.Tab.next hT h, hv, hb, hF1⟩ hR1 top bot ht1 hb1 (m : Int)
    rw [hKK, ← hs2] at h2
    exact h2
  have HRW : Hid (∀ (V : World) (z : Scr) (cv' tv' gv' : Value), RightS z n hh → ScrV V z cv' tv' gv' → Calls Tryd.prog 10 #[.agg #[.int .i64 z.w, .int .i64 z.h, cv']] V fun e w' => ∃ G rc, e = .returned (.slice (some ⟨G, 0, none⟩) hh rc) ∧ hh ≤ rc ∧ RowsA w' G 0 (rowsL n z.cs hh) ∧ Below V.heap.size V w') := fun V z cv' tv' gv' hz hv => by
    have hcl := hz.cl
    have hsize : Grd.isSize n hh = true := ((Grd.gridErr_zero n hh z.cs).1 hz.gz).1
    rcases hv.c with ⟨he, -⟩ | ⟨-, cb, co, cc, rfl, hcc1, hcc2, hCC⟩
    · rw [he] at hcl
      have := Nat.mul_pos hz.n1 hz.h1
      simp at hcl
      omega
    rw [hz.w, hz.h]
    refine (Grd.rows_any n hh cb co cc z.cs V hCC hsize hcl hcc1).mono ?_
    rintro e w' ⟨v, vs, gs, rfl, h1, h2, h3⟩
    have hh0 := hz.h1
    obtain ⟨G, rc, hv, hG1, hG2, hG3, hG4, hG5, -⟩ := own_cells h1 (by omega)
    subst hv
    refine ⟨G, rc, rfl, hG2, fun j hj => ?_, h3⟩
    rw [Nat.zero_add]
    exact ⟨_, hG5 j (by rw [Grd.rowsL_len] at hj; exact hj), (rowsAt_list h2).2 j hj⟩
  have HR0 : Hid (RightS s n hh) := hR
  have HR1 : Hid (RightS s1 n hh) := hR1
  have HR2 : Hid (RightS s2 n hh) := hR2
  have HHR : Hid (HoldsR top bot m hh (rowsL n s.cs hh) (rowsL n s1.cs hh) (rowsL n s2.cs hh)) := hHR
  have HV : Hid (ScrV w s cv tv gv) := hV
  obtain ⟨ca, cc, rfl⟩ := hV.c.shape
  obtain ⟨ta, tc, rfl⟩ := hV.t.slice
  obtain ⟨ga, gc, rfl⟩ := hV.g.slice
  have hwb : IntKind.i64.wrap ((bot : Int) - (top : Int)) = (bot : Int) - (top : Int) := wrap_id _ (by omega) (by omega)
  have hnk1 : ¬ ((m : Int) < 1) := by omega
  have hnk2 : ¬ ((bot : Int) - (top : Int) < (m : Int)) := by omega
  clear x0 kb hT hF hz hs1 hs2 hKK hR hR1 hR2 hHR hV ht1 hb1 hmo hkm hti htb1 hF1
  go_enter Tryd.func3, Tryd.ntmps3
  go_wp2_with fail
  refine (HP.out _ HKB.out).mono ?_
  rintro e V1 ⟨rfl, b1⟩
  have HB1 : Hid (Below w.heap.size w V1) := HKB.out.trans (b1.mono HKB.out.size)
  have HX1 : Hid (V1.heap[w.heap.size]? = _) := Grd.carry HX0.out b1
  clear b1 HX0 HKB
  go_wp2_with (refine BigFrame.wpList_want rfl fun K hK => wp_load_row 32 (.tmp 2) rfl w.heap.size rfl _ _ _ _ HX1.out Tryd.underlying32 rfl (by kernel_rfl) (hK _ _ ?_))
  refine (HCK.out _ HB1.out).mono ?_
  rintro e V2 ⟨rfl, b2⟩
  have HB2 : Hid (Below w.heap.size w V2) := HB1.out.trans (b2.mono HB1.out.size)
  have HX2 : Hid (V2.heap[w.heap.size]? = _) := Grd.carry HX1.out b2
  obtain ⟨⟨-, -, -, -, -, -, -, -, -, c9, c10⟩, -, -⟩ := scr_cells HX2.out
  clear b2 HX1 HB1 HCK
  rw [ht] at c9
  rw [hbt] at c10
  go_upto_region 3 with fail
  clear c9 c10
  go_wp2_with (refine wpList_load_row rfl 32 (.tmp 2) rfl w.heap.size rfl _ _ _ _ HX2.out Tryd.underlying32 rfl (by kernel_rfl) ?_)
  refine (HUP.out _ HB2.out).mono ?_
  rintro e V3 ⟨cv1, tv1, gv1, rfl, hO1, b3⟩
  obtain ⟨d1, m1, e1, d2, m2, e2, d3, m3, e3, rfl, rfl, rfl⟩ := hO1.shapes
  have HB3 : Hid (Below w.heap.size w V3) := HB2.out.trans (b3.mono HB2.out.size)
  have HX3 : Hid (V3.heap[w.heap.size]? = _) := Grd.carry HX2.out b3
  have HV3 : Hid (ScrV V3 s1 _ _ _) := hO1.scr
  obtain ⟨k1, k2, k3, k4⟩ := kept_g (A := (scrA s1 (.slice d1 m1 e1) (.slice d2 m2 e2) (.slice d3 m3 e3))) HB3.out
  have HM1 : Hid _ := k1
  have HM2 : Hid _ := k2
  have HM3 : Hid _ := k3
  have HM4 : Hid _ := k4
  have HX4 : Hid _ := Grd.carry HX3.out k2
  clear hO1 b3 k1 k2 k3 k4 HUP HX2 HB2 HP
  go_upto_region 4 with (refine wpList_store_row rfl 32 (.tmp 5) _ rfl V3.heap.size (scrA s1 (.slice d1 m1 e1) (.slice d2 m2 e2) (.slice d3 m3 e3)) rfl rfl _ _ HM4.out (by kernel_rfl) rfl (scr_one _ _ _ _ _ _ _ _ _ _) ?_)
  clear HM4 HX3
  have HLL := HDN.out V3 _ _ _ _ HM3.out HV3.out HM2.out
  have HV4 : Hid (ScrV _ s1 _ _ _) := HV3.out.next HM2.out
  generalize ((V3.alloc (.cells #[.int .i64 0, .int .i64 0, .slice none 0 0, .int .i64 0, .int .i64 0, .bool false, .int .i64 0, .int .i64 0, .int .i64 0, .int .i64 0, .int .i64 0, .int .i64 0, .slice none 0 0, .int .i64 0, .int .i64 0, .int .i64 0, .int .i64 0, .int .i64 0, .int .i64 0, .int .i32 0, .string ⟨#[]⟩, .slice none 0 0] 32)).setRow V3.heap.size (scrA s1 (.slice d1 m1 e1) (.slice d2 m2 e2) (.slice d3 m3 e3))) = X at *
  go_wp2_with (refine wpList_load_row rfl 32 (.tmp 5) rfl V3.heap.size rfl _ _ _ _ HM1.out Tryd.underlying32 rfl (by kernel_rfl) ?_)
  refine HLL.mono ?_
  rintro e V4 ⟨cv4, tv4, gv4, rfl, hO4, b4⟩
  obtain ⟨f1, p1, g1, f2, p2, g2, f3, p3, g3, rfl, rfl, rfl⟩ := hO4.shapes
  have HB4 : Hid (Below w.heap.size w V4) := HM3.out.trans (b4.mono HM3.out.size)
  obtain ⟨k1, k2, k3, k4⟩ := kept_g (A := (scrA s2 (.slice f1 p1 g1) (.slice f2 p2 g2) (.slice f3 p3 g3))) HB4.out
  have HN1 : Hid _ := k1
  have HN3 : Hid _ := k3
  have HN4 : Hid _ := k4
  have HY0 : Hid _ := Grd.carry (Grd.carry HX4.out b4) k2
  have HY1 : Hid _ := Grd.carry (Grd.carry HM1.out b4) k2
  have HW1 : Hid (ScrV _ s1 _ _ _) := (HV4.out.next b4).next k2
  have HW2 : Hid (ScrV _ s2 _ _ _) := hO4.scr.next k2
  have HW0 : Hid (ScrV _ s _ _ _) := HV.out.next k3
  clear hO4 b4 k1 k2 k3 k4 HLL HDN HM1 HM2 HM3 HX4 HV3 HV4 HV HB3
  go_upto_region 7 with (refine wpList_store_row rfl 32 (.tmp 7) _ rfl V4.heap.size (scrA s2 (.slice f1 p1 g1) (.slice f2 p2 g2) (.slice f3 p3 g3)) rfl rfl _ _ HN4.out (by kernel_rfl) rfl (scr_one _ _ _ _ _ _ _ _ _ _) ?_)
  clear HN4 HB4
  generalize ((V4.alloc (.cells #[.int .i64 0, .int .i64 0, .slice none 0 0, .int .i64 0, .int .i64 0, .bool false, .int .i64 0, .int .i64 0, .int .i64 0, .int .i64 0, .int .i64 0, .int .i64 0, .slice none 0 0, .int .i64 0, .int .i64 0, .int .i64 0, .int .i64 0, .int .i64 0, .int .i64 0, .int .i32 0, .string ⟨#[]⟩, .slice none 0 0] 32)).setRow V4.heap.size (scrA s2 (.slice f1 p1 g1) (.slice f2 p2 g2) (.slice f3 p3 g3))) = Y at *
  have SK : Hid (∀ V, Below Y.heap.size Y V → V.cell? ⟨w.heap.size, 0, none⟩ = some (.int .i64 s.w) ∧ V.cell? ⟨w.heap.size, 1, none⟩ = some (.int .i64 s.h) ∧ V.cell? ⟨w.heap.size, 2, none⟩ = some (.slice ca s.cs.length cc) ∧ V.cell? ⟨V3.heap.size, 0, none⟩ = some (.int .i64 s1.w) ∧ V.cell? ⟨V3.heap.size, 1, none⟩ = some (.int .i64 s1.h) ∧ V.cell? ⟨V3.heap.size, 2, none⟩ = some (.slice d1 m1 e1) ∧ V.cell? ⟨V4.heap.size, 0, none⟩ = some (.int .i64 s2.w) ∧ V.cell? ⟨V4.heap.size, 1, none⟩ = some (.int .i64 s2.h) ∧ V.cell? ⟨V4.heap.size, 2, none⟩ = some (.slice f1 p1 g1)) := fun V h => by
    obtain ⟨⟨a0, a1, a2, -⟩, -⟩ := scr_cells (Grd.carry HY0.out h)
    obtain ⟨⟨a3, a4, a5, -⟩, -⟩ := scr_cells (Grd.carry HY1.out h)
    obtain ⟨⟨a6, a7, a8, -⟩, -⟩ := scr_cells (Grd.carry HN1.out h)
    exact ⟨a0, a1, a2, a3, a4, a5, a6, a7, a8⟩
  have HQ0 : Hid (∀ V, Below Y.heap.size Y V → _) := fun V h => HRW.out V s _ _ _ HR0.out (HW0.out.next h)
  have HQ1 : Hid (∀ V, Below Y.heap.size Y V → _) := fun V h => HRW.out V s1 _ _ _ HR1.out (HW1.out.next h)
  have HQ2 : Hid (∀ V, Below Y.heap.size Y V → _) := fun V h => HRW.out V s2 _ _ _ HR2.out (HW2.out.next h)
  have b0 : Below Y.heap.size Y Y.drew := (Below.refl _ _).drew
  clear HRW HR0 HR1 HR2 HW0 HW1 HW2
  generalize rowsL n s.cs hh = A at *
  generalize rowsL n s1.cs hh = B at *
  generalize rowsL n s2.cs hh = D at *
  go_region_held3 (fun w' => w'.cell? ⟨w.heap.size, 0, none⟩ = some (.int .i64 s.w) ∧ w'.cell? ⟨w.heap.size, 1, none⟩ = some (.int .i64 s.h) ∧ w'.cell? ⟨w.heap.size, 2, none⟩ = some (.slice ca s.cs.length cc) ∧ w'.cell? ⟨V3.heap.size, 0, none⟩ = some (.int .i64 s1.w) ∧ w'.cell? ⟨V3.heap.size, 1, none⟩ = some (.int .i64 s1.h) ∧ w'.cell? ⟨V3.heap.size, 2, none⟩ = some (.slice d1 m1 e1) ∧ w'.cell? ⟨V4.heap.size, 0, none⟩ = some (.int .i64 s2.w) ∧ w'.cell? ⟨V4.heap.size, 1, none⟩ = some (.int .i64 s2.h) ∧ w'.cell? ⟨V4.heap.size, 2, none⟩ = some (.slice f1 p1 g1))
    (first | exact SK.out _ q7 | exact SK.out _ q6 | exact SK.out _ q5 | exact SK.out _ b0)
    (first
      | (go_at_call 10; refine (HQ2.out _ q6).mono ?_; rintro e V7 ⟨Gd, rd, rfl, hrd, hD7, b7⟩; have q7 : Below Y.heap.size Y V7 := q6.trans (b7.mono q6.size))
      | (go_at_call 10; refine (HQ1.out _ q5).mono ?_; rintro e V6 ⟨Gb, rb, rfl, hrb, hB6, b6⟩; have q6 : Below Y.heap.size Y V6 := q5.trans (b6.mono q5.size))
      | (go_at_call 10; refine (HQ0.out _ b0).mono ?_; rintro e V5 ⟨Ga, ra, rfl, hra, hA5, b5⟩; have q5 : Below Y.heap.size Y V5 := b0.trans (b5.mono b0.size)))
  · have HA : Hid (RowsA V7 Ga 0 A) := (hA5.next b6).next b7
    have HBB : Hid (RowsA V7 Gb 0 B) := hB6.next b7
    have HD : Hid (RowsA V7 Gd 0 D) := hD7
    have HCB : Hid (Below Y.heap.size Y V7) := q7
    have HFB : Hid (Below w.heap.size w V7) := HN3.out.trans (q7.mono HN3.out.size)
    clear hA5 hB6 hD7 b5 b6 b7 q5 q6 q7 SK HQ0 HQ1 HQ2 b0
    clear V5 V6
    generalize V7 = wc at *
    go_wp2_with fail
    go_loopg [64] hh (fun q y wr => ∃ k : Nat, y = .int .i64 (k : Int) ∧ k ≤ hh ∧ hh - k ≤ q ∧ Below wc.heap.size wc wr)
    case atStart => exact ⟨0, rfl, by omega, by omega, Below.refl _ _⟩
    case round =>
      obtain ⟨k, rfl, hk, hq, hb⟩ := hrel
      by_cases hlt : k < hh
      · have lt1 : ((k : Int) < (hh : Int)) := by omega
        obtain ⟨r1, p1, s1'⟩ := (RowsA.next HA.out hb) k (by rw [HHR.out.la]; exact hlt)
        obtain ⟨r2, p2, s2'⟩ := (RowsA.next HBB.out hb) k (by rw [HHR.out.lb]; exact hlt)
        obtain ⟨r3, p3, s3'⟩ := (RowsA.next HD.out hb) k (by rw [HHR.out.ld]; exact hlt)
        rw [Nat.zero_add] at p1 p2 p3
        have hbox := Grd.carry (Grd.carry HY0.out HCB.out) hb
        obtain ⟨⟨-, -, -, -, -, -, -, -, -, c9, c10⟩, -, -⟩ := scr_cells hbox
        rw [ht] at c9
        rw [hbt] at c10
        have HS1 : Hid (SliceAt wr r1 (A.getD k [])) := s1'
        have HS2 : Hid (SliceAt wr r2 (B.getD k [])) := s2'
        have HS3 : Hid (SliceAt wr r3 (D.getD k [])) := s3'
        have HBW : Hid (Below wc.heap.size wc wr) := hb
        have hsm := HHR.out.small k hlt
        obtain ⟨xa, xc, hx⟩ := s1'.shape
        obtain ⟨ya, yc, hy⟩ := s2'.shape
        obtain ⟨za, zc, hz⟩ := s3'.shape
        rw [hx] at HS1 p1
        rw [hy] at HS2 p2
        rw [hz] at HS3 p3
        have SKW0 : Hid (∀ V, Below wr.heap.size wr V → _ ∧ _ ∧ _ ∧ _ ∧ _) := fun V h => ⟨cell_stay h p1, cell_stay h p2, cell_stay h p3, cell_stay h c9, cell_stay h c10⟩
        clear hx hy hz s1' s2' s3' hbox
        by_cases hout : k < top ∨ bot < k
        · have e1 := HHR.out.out1 k hout
          have e2 := HHR.out.out2 k hout
          have HE1 : Hid (∀ V, Below wr.heap.size wr V → Calls Tryd.prog 11 #[.slice xa (A.getD k []).length xc, .slice ya (B.getD k []).length yc] V fun e w' => e = .returned (.bool true) ∧ Below V.heap.size V w') := fun V h => Grd.equal_slices _ _ (A.getD k []) V (SliceAt.below HS1.out h) (by have h2 := SliceAt.below HS2.out h; rw [e1] at h2; rwa [e1]) (by omega)
          have HE2 : Hid (∀ V, Below wr.heap.size wr V → Calls Tryd.prog 11 #[.slice xa (A.getD k []).length xc, .slice za (D.getD k []).length zc] V fun e w' => e = .returned (.bool true) ∧ Below V.heap.size V w') := fun V h => Grd.equal_slices _ _ (A.getD k []) V (SliceAt.below HS1.out h) (by have h2 := SliceAt.below HS3.out h; rw [e2] at h2; rwa [e2]) (by omega)
          clear HS1 HS2 HS3 e1 e2 hsm hb
          generalize (A.getD k []).length = na at *
          generalize (B.getD k []).length = nb at *
          generalize (D.getD k []).length = nd at *
          have SKW : Hid (∀ V, Below wr.heap.size wr V → V.cell? ⟨Ga, k, none⟩ = some (.slice xa na xc) ∧ V.cell? ⟨Gb, k, none⟩ = some (.slice ya nb yc) ∧ V.cell? ⟨Gd, k, none⟩ = some (.slice za nd zc) ∧ V.cell? ⟨w.heap.size, 9, none⟩ = some (.int .i64 (top : Int)) ∧ V.cell? ⟨w.heap.size, 10, none⟩ = some (.int .i64 (bot : Int))) := SKW0
          clear SKW0
          by_cases g1 : k < top
          · have l1 : ((k : Int) < (top : Int)) := by omega
            have h0 : Below wr.heap.size wr wr := Below.refl _ _
            go_upto_region 12 with fail
            obtain ⟨y0, y1, y2, y3, y4⟩ := SKW.out _ h0
            have z0 : ∀ d os, (Sort.grow (redrawn wr d) os).cell? ⟨Ga, k, none⟩ = some (.slice xa na xc) := fun d os => cell_regrown y0 d os
            have z1 : ∀ d os, (Sort.grow (redrawn wr d) os).cell? ⟨Gb, k, none⟩ = some (.slice ya nb yc) := fun d os => cell_regrown y1 d os
            have z2 : ∀ d os, (Sort.grow (redrawn wr d) os).cell? ⟨Gd, k, none⟩ = some (.slice za nd zc) := fun d os => cell_regrown y2 d os
            have z3 : ∀ d os, (Sort.grow (redrawn wr d) os).cell? ⟨w.heap.size, 9, none⟩ = some (.int .i64 (top : Int)) := fun d os => cell_regrown y3 d os
            have z4 : ∀ d os, (Sort.grow (redrawn wr d) os).cell? ⟨w.heap.size, 10, none⟩ = some (.int .i64 (bot : Int)) := fun d os => cell_regrown y4 d os
            have K0 : Hid (∀ d os, Calls Tryd.prog 11 #[.slice xa na xc, .slice za nd zc] (Sort.grow (redrawn wr d) os) fun e w'' => e = .returned (.bool true) ∧ ∃ p : Regrown, w'' = Sort.grow (redrawn wr p.d) p.os) := fun d os => Calls.regrown_of (HE2.out _ (h0.trans ((below_regrown wr d os).mono h0.size)))
            have K1 : Hid (∀ d os, Calls Tryd.prog 11 #[.slice xa na xc, .slice ya nb yc] (Sort.grow (redrawn wr d) os) fun e w'' => e = .returned (.bool true) ∧ ∃ p : Regrown, w'' = Sort.grow (redrawn wr p.d) p.os) := fun d os => Calls.regrown_of (HE1.out _ (h0.trans ((below_regrown wr d os).mono h0.size)))
            clear y0 y1 y2 y3 y4
            refine wp_region_quiet_below (by kernel_rfl) (by kernel_rfl) ?_
            repeat (first | go_big_quiet_skip | quiet_step (first | (go_at_call_of 11 za; exact K0.out _ _) | (go_at_call_of 11 ya; exact K1.out _ _)))
            refine wpQuiet_nil ?_
            intro _ hw'
            obtain ⟨⟨dq, os⟩, hw''⟩ := hw'
            subst hw''
            have h1 : Below wr.heap.size wr (Sort.grow (redrawn wr dq) os) := h0.trans ((below_regrown wr dq os).mono h0.size)
            clear z0 z1 z2 z3 z4 K0 K1
            generalize Sort.grow (redrawn wr dq) os = U1 at *
            go_upto_region 14 with fail
            obtain ⟨y0, y1, y2, y3, y4⟩ := SKW.out _ h1
            have z0 : ∀ d os, (Sort.grow (redrawn U1 d) os).cell? ⟨Ga, k, none⟩ = some (.slice xa na xc) := fun d os => cell_regrown y0 d os
            have z1 : ∀ d os, (Sort.grow (redrawn U1 d) os).cell? ⟨Gb, k, none⟩ = some (.slice ya nb yc) := fun d os => cell_regrown y1 d os
            have z2 : ∀ d os, (Sort.grow (redrawn U1 d) os).cell? ⟨Gd, k, none⟩ = some (.slice za nd zc) := fun d os => cell_regrown y2 d os
            have z3 : ∀ d os, (Sort.grow (redrawn U1 d) os).cell? ⟨w.heap.size, 9, none⟩ = some (.int .i64 (top : Int)) := fun d os => cell_regrown y3 d os
            have z4 : ∀ d os, (Sort.grow (redrawn U1 d) os).cell? ⟨w.heap.size, 10, none⟩ = some (.int .i64 (bot : Int)) := fun d os => cell_regrown y4 d os
            clear y0 y1 y2 y3 y4
            refine wp_region_quiet_below (by kernel_rfl) (by kernel_rfl) ?_
            repeat (first | go_big_quiet_skip | quiet_step (fail))
            refine wpQuiet_nil ?_
            intro _ hw'
            obtain ⟨⟨dq, os⟩, hw''⟩ := hw'
            subst hw''
            have h2 : Below wr.heap.size wr (Sort.grow (redrawn U1 dq) os) := h1.trans ((below_regrown U1 dq os).mono h1.size)
            clear z0 z1 z2 z3 z4 
            generalize Sort.grow (redrawn U1 dq) os = U2 at *
            go_upto_region 16 with fail
            obtain ⟨y0, y1, y2, y3, y4⟩ := SKW.out _ h2
            have z0 : ∀ d os, (Sort.grow (redrawn U2 d) os).cell? ⟨Ga, k, none⟩ = some (.slice xa na xc) := fun d os => cell_regrown y0 d os
            have z1 : ∀ d os, (Sort.grow (redrawn U2 d) os).cell? ⟨Gb, k, none⟩ = some (.slice ya nb yc) := fun d os => cell_regrown y1 d os
            have z2 : ∀ d os, (Sort.grow (redrawn U2 d) os).cell? ⟨Gd, k, none⟩ = some (.slice za nd zc) := fun d os => cell_regrown y2 d os
            have z3 : ∀ d os, (Sort.grow (redrawn U2 d) os).cell? ⟨w.heap.size, 9, none⟩ = some (.int .i64 (top : Int)) := fun d os => cell_regrown y3 d os
            have z4 : ∀ d os, (Sort.grow (redrawn U2 d) os).cell? ⟨w.heap.size, 10, none⟩ = some (.int .i64 (bot : Int)) := fun d os => cell_regrown y4 d os
            clear y0 y1 y2 y3 y4
            refine wp_region_quiet_below (by kernel_rfl) (by kernel_rfl) ?_
            repeat (first | go_big_quiet_skip | quiet_step (fail))
            refine wpQuiet_nil ?_
            intro _ hw'
            obtain ⟨⟨dq, os⟩, hw''⟩ := hw'
            subst hw''
            have h3 : Below wr.heap.size wr (Sort.grow (redrawn U2 dq) os) := h2.trans ((below_regrown U2 dq os).mono h2.size)
            clear z0 z1 z2 z3 z4 
            generalize Sort.grow (redrawn U2 dq) os = U3 at *
            go_wp2_with fail
            go_roundg (hh - (k + 1))
            case measure => omega
            case rel => exact ⟨k + 1, rfl, by omega, by omega, HBW.out.trans (h3.mono HBW.out.size)⟩
          · have l1 : ¬ ((k : Int) < (top : Int)) := by omega
            have l2 : ((bot : Int) < (k : Int)) := by omega
            have h0 : Below wr.heap.size wr wr := Below.refl _ _
            go_upto_region 12 with fail
            obtain ⟨y0, y1, y2, y3, y4⟩ := SKW.out _ h0
            have z0 : ∀ d os, (Sort.grow (redrawn wr d) os).cell? ⟨Ga, k, none⟩ = some (.slice xa na xc) := fun d os => cell_regrown y0 d os
            have z1 : ∀ d os, (Sort.grow (redrawn wr d) os).cell? ⟨Gb, k, none⟩ = some (.slice ya nb yc) := fun d os => cell_regrown y1 d os
            have z2 : ∀ d os, (Sort.grow (redrawn wr d) os).cell? ⟨Gd, k, none⟩ = some (.slice za nd zc) := fun d os => cell_regrown y2 d os
            have z3 : ∀ d os, (Sort.grow (redrawn wr d) os).cell? ⟨w.heap.size, 9, none⟩ = some (.int .i64 (top : Int)) := fun d os => cell_regrown y3 d os
            have z4 : ∀ d os, (Sort.grow (redrawn wr d) os).cell? ⟨w.heap.size, 10, none⟩ = some (.int .i64 (bot : Int)) := fun d os => cell_regrown y4 d os
            have K0 : Hid (∀ d os, Calls Tryd.prog 11 #[.slice xa na xc, .slice za nd zc] (Sort.grow (redrawn wr d) os) fun e w'' => e = .returned (.bool true) ∧ ∃ p : Regrown, w'' = Sort.grow (redrawn wr p.d) p.os) := fun d os => Calls.regrown_of (HE2.out _ (h0.trans ((below_regrown wr d os).mono h0.size)))
            have K1 : Hid (∀ d os, Calls Tryd.prog 11 #[.slice xa na xc, .slice ya nb yc] (Sort.grow (redrawn wr d) os) fun e w'' => e = .returned (.bool true) ∧ ∃ p : Regrown, w'' = Sort.grow (redrawn wr p.d) p.os) := fun d os => Calls.regrown_of (HE1.out _ (h0.trans ((below_regrown wr d os).mono h0.size)))
            clear y0 y1 y2 y3 y4
            refine wp_region_quiet_below (by kernel_rfl) (by kernel_rfl) ?_
            repeat (first | go_big_quiet_skip | quiet_step (first | (go_at_call_of 11 za; exact K0.out _ _) | (go_at_call_of 11 ya; exact K1.out _ _)))
            refine wpQuiet_nil ?_
            intro _ hw'
            obtain ⟨⟨dq, os⟩, hw''⟩ := hw'
            subst hw''
            have h1 : Below wr.heap.size wr (Sort.grow (redrawn wr dq) os) := h0.trans ((below_regrown wr dq os).mono h0.size)
            clear z0 z1 z2 z3 z4 K0 K1
            generalize Sort.grow (redrawn wr dq) os = U1 at *
            go_upto_region 14 with fail
            obtain ⟨y0, y1, y2, y3, y4⟩ := SKW.out _ h1
            have z0 : ∀ d os, (Sort.grow (redrawn U1 d) os).cell? ⟨Ga, k, none⟩ = some (.slice xa na xc) := fun d os => cell_regrown y0 d os
            have z1 : ∀ d os, (Sort.grow (redrawn U1 d) os).cell? ⟨Gb, k, none⟩ = some (.slice ya nb yc) := fun d os => cell_regrown y1 d os
            have z2 : ∀ d os, (Sort.grow (redrawn U1 d) os).cell? ⟨Gd, k, none⟩ = some (.slice za nd zc) := fun d os => cell_regrown y2 d os
            have z3 : ∀ d os, (Sort.grow (redrawn U1 d) os).cell? ⟨w.heap.size, 9, none⟩ = some (.int .i64 (top : Int)) := fun d os => cell_regrown y3 d os
            have z4 : ∀ d os, (Sort.grow (redrawn U1 d) os).cell? ⟨w.heap.size, 10, none⟩ = some (.int .i64 (bot : Int)) := fun d os => cell_regrown y4 d os
            clear y0 y1 y2 y3 y4
            refine wp_region_quiet_below (by kernel_rfl) (by kernel_rfl) ?_
            repeat (first | go_big_quiet_skip | quiet_step (fail))
            refine wpQuiet_nil ?_
            intro _ hw'
            obtain ⟨⟨dq, os⟩, hw''⟩ := hw'
            subst hw''
            have h2 : Below wr.heap.size wr (Sort.grow (redrawn U1 dq) os) := h1.trans ((below_regrown U1 dq os).mono h1.size)
            clear z0 z1 z2 z3 z4 
            generalize Sort.grow (redrawn U1 dq) os = U2 at *
            go_upto_region 16 with fail
            obtain ⟨y0, y1, y2, y3, y4⟩ := SKW.out _ h2
            have z0 : ∀ d os, (Sort.grow (redrawn U2 d) os).cell? ⟨Ga, k, none⟩ = some (.slice xa na xc) := fun d os => cell_regrown y0 d os
            have z1 : ∀ d os, (Sort.grow (redrawn U2 d) os).cell? ⟨Gb, k, none⟩ = some (.slice ya nb yc) := fun d os => cell_regrown y1 d os
            have z2 : ∀ d os, (Sort.grow (redrawn U2 d) os).cell? ⟨Gd, k, none⟩ = some (.slice za nd zc) := fun d os => cell_regrown y2 d os
            have z3 : ∀ d os, (Sort.grow (redrawn U2 d) os).cell? ⟨w.heap.size, 9, none⟩ = some (.int .i64 (top : Int)) := fun d os => cell_regrown y3 d os
            have z4 : ∀ d os, (Sort.grow (redrawn U2 d) os).cell? ⟨w.heap.size, 10, none⟩ = some (.int .i64 (bot : Int)) := fun d os => cell_regrown y4 d os
            clear y0 y1 y2 y3 y4
            refine wp_region_quiet_below (by kernel_rfl) (by kernel_rfl) ?_
            repeat (first | go_big_quiet_skip | quiet_step (fail))
            refine wpQuiet_nil ?_
            intro _ hw'
            obtain ⟨⟨dq, os⟩, hw''⟩ := hw'
            subst hw''
            have h3 : Below wr.heap.size wr (Sort.grow (redrawn U2 dq) os) := h2.trans ((below_regrown U2 dq os).mono h2.size)
            clear z0 z1 z2 z3 z4 
            generalize Sort.grow (redrawn U2 dq) os = U3 at *
            go_wp2_with fail
            go_roundg (hh - (k + 1))
            case measure => omega
            case rel => exact ⟨k + 1, rfl, by omega, by omega, HBW.out.trans (h3.mono HBW.out.size)⟩
        · have l1 : ¬ ((k : Int) < (top : Int)) := by omega
          have l2 : ¬ ((bot : Int) < (k : Int)) := by omega
          have hws : IntKind.i64.wrap ((k : Int) - (m : Int)) = (k : Int) - (m : Int) := wrap_id _ (by omega) (by omega)
          obtain ⟨km, hkm⟩ : ∃ km, km = k + m := ⟨_, rfl⟩
          have hwa : IntKind.i64.wrap ((k : Int) + (m : Int)) = (km : Int) := by
            rw [wrap_id _ (by omega) (by omega)]
            omega
          by_cases g1 : k + m ≤ bot
          · have i1 : (km : Int) ≤ (bot : Int) := by omega
            have i2 : (km : Int) < (hh : Int) := by omega
            have e1 := HHR.out.up k (by omega) g1
            rw [← hkm] at e1
            obtain ⟨r4, p4, s4'⟩ := (RowsA.next HA.out hb) km (by rw [HHR.out.la]; omega)
            rw [Nat.zero_add] at p4
            have hsm4 := HHR.out.small km (by omega)
            obtain ⟨oa, oc, hx4⟩ := s4'.shape
            rw [hx4] at s4' p4
            have HE1 : Hid (∀ V, Below wr.heap.size wr V → Calls Tryd.prog 11 #[.slice ya (B.getD k []).length yc, .slice oa (A.getD km []).length oc] V fun e w' => e = .returned (.bool true) ∧ Below V.heap.size V w') := fun V h => by
              have h2 := SliceAt.below HS2.out h
              rw [e1] at h2 ⊢
              exact Grd.equal_slices _ _ (A.getD km []) V h2 (s4'.below h) (by omega)
            have SKX0 : Hid (∀ V, Below wr.heap.size wr V → _ ∧ _ ∧ _ ∧ _ ∧ _ ∧ _) := fun V h => ⟨(SKW0.out V h).1, (SKW0.out V h).2.1, (SKW0.out V h).2.2.1, (SKW0.out V h).2.2.2.1, (SKW0.out V h).2.2.2.2, cell_stay h p4⟩
            by_cases g2 : top + m ≤ k
            · have i3 : (top : Int) ≤ (k : Int) - (m : Int) := by omega
              have e2 := HHR.out.back k g2 (by omega)
              have HE2 : Hid (∀ V, Below wr.heap.size wr V → Calls Tryd.prog 11 #[.slice za (D.getD k []).length zc, .slice xa (A.getD k []).length xc] V fun e w' => e = .returned (.bool true) ∧ Below V.heap.size V w') := fun V h => by
                have h2 := SliceAt.below HS3.out h
                rw [e2] at h2 ⊢
                exact Grd.equal_slices _ _ (A.getD k []) V h2 (SliceAt.below HS1.out h) (by omega)
              clear HS1 HS2 HS3 e1 e2 hsm hb hkm hx4 s4' hsm4
              generalize (A.getD k []).length = na at *
              generalize (B.getD k []).length = nb at *
              generalize (D.getD k []).length = nd at *
              generalize (A.getD km []).length = no at *
              have SKX : Hid (∀ V, Below wr.heap.size wr V → V.cell? ⟨Ga, k, none⟩ = some (.slice xa na xc) ∧ V.cell? ⟨Gb, k, none⟩ = some (.slice ya nb yc) ∧ V.cell? ⟨Gd, k, none⟩ = some (.slice za nd zc) ∧ V.cell? ⟨w.heap.size, 9, none⟩ = some (.int .i64 (top : Int)) ∧ V.cell? ⟨w.heap.size, 10, none⟩ = some (.int .i64 (bot : Int)) ∧ V.cell? ⟨Ga, km, none⟩ = some (.slice oa no oc)) := SKX0
              clear SKX0 SKW0
              have h0 : Below wr.heap.size wr wr := Below.refl _ _
              go_upto_region 12 with fail
              obtain ⟨y0, y1, y2, y3, y4, y5⟩ := SKX.out _ h0
              have z0 : ∀ d os, (Sort.grow (redrawn wr d) os).cell? ⟨Ga, k, none⟩ = some (.slice xa na xc) := fun d os => cell_regrown y0 d os
              have z1 : ∀ d os, (Sort.grow (redrawn wr d) os).cell? ⟨Gb, k, none⟩ = some (.slice ya nb yc) := fun d os => cell_regrown y1 d os
              have z2 : ∀ d os, (Sort.grow (redrawn wr d) os).cell? ⟨Gd, k, none⟩ = some (.slice za nd zc) := fun d os => cell_regrown y2 d os
              have z3 : ∀ d os, (Sort.grow (redrawn wr d) os).cell? ⟨w.heap.size, 9, none⟩ = some (.int .i64 (top : Int)) := fun d os => cell_regrown y3 d os
              have z4 : ∀ d os, (Sort.grow (redrawn wr d) os).cell? ⟨w.heap.size, 10, none⟩ = some (.int .i64 (bot : Int)) := fun d os => cell_regrown y4 d os
              have z5 : ∀ d os, (Sort.grow (redrawn wr d) os).cell? ⟨Ga, km, none⟩ = some (.slice oa no oc) := fun d os => cell_regrown y5 d os
              clear y0 y1 y2 y3 y4 y5
              refine wp_region_quiet_below (by kernel_rfl) (by kernel_rfl) ?_
              repeat (first | go_big_quiet_skip | quiet_step (fail))
              refine wpQuiet_nil ?_
              intro _ hw'
              obtain ⟨⟨dq, os⟩, hw''⟩ := hw'
              subst hw''
              have h1 : Below wr.heap.size wr (Sort.grow (redrawn wr dq) os) := h0.trans ((below_regrown wr dq os).mono h0.size)
              clear z0 z1 z2 z3 z4 z5 
              generalize Sort.grow (redrawn wr dq) os = U1 at *
              go_upto_region 14 with fail
              obtain ⟨y0, y1, y2, y3, y4, y5⟩ := SKX.out _ h1
              have z0 : ∀ d os, (Sort.grow (redrawn U1 d) os).cell? ⟨Ga, k, none⟩ = some (.slice xa na xc) := fun d os => cell_regrown y0 d os
              have z1 : ∀ d os, (Sort.grow (redrawn U1 d) os).cell? ⟨Gb, k, none⟩ = some (.slice ya nb yc) := fun d os => cell_regrown y1 d os
              have z2 : ∀ d os, (Sort.grow (redrawn U1 d) os).cell? ⟨Gd, k, none⟩ = some (.slice za nd zc) := fun d os => cell_regrown y2 d os
              have z3 : ∀ d os, (Sort.grow (redrawn U1 d) os).cell? ⟨w.heap.size, 9, none⟩ = some (.int .i64 (top : Int)) := fun d os => cell_regrown y3 d os
              have z4 : ∀ d os, (Sort.grow (redrawn U1 d) os).cell? ⟨w.heap.size, 10, none⟩ = some (.int .i64 (bot : Int)) := fun d os => cell_regrown y4 d os
              have z5 : ∀ d os, (Sort.grow (redrawn U1 d) os).cell? ⟨Ga, km, none⟩ = some (.slice oa no oc) := fun d os => cell_regrown y5 d os
              have K0 : Hid (∀ d os, Calls Tryd.prog 11 #[.slice ya nb yc, .slice oa no oc] (Sort.grow (redrawn U1 d) os) fun e w'' => e = .returned (.bool true) ∧ ∃ p : Regrown, w'' = Sort.grow (redrawn U1 p.d) p.os) := fun d os => Calls.regrown_of (HE1.out _ (h1.trans ((below_regrown U1 d os).mono h1.size)))
              clear y0 y1 y2 y3 y4 y5
              refine wp_region_quiet_below (by kernel_rfl) (by kernel_rfl) ?_
              repeat (first | go_big_quiet_skip | quiet_step (first | (go_at_call_of 11 oa; exact K0.out _ _)))
              refine wpQuiet_nil ?_
              intro _ hw'
              obtain ⟨⟨dq, os⟩, hw''⟩ := hw'
              subst hw''
              have h2 : Below wr.heap.size wr (Sort.grow (redrawn U1 dq) os) := h1.trans ((below_regrown U1 dq os).mono h1.size)
              clear z0 z1 z2 z3 z4 z5 K0
              generalize Sort.grow (redrawn U1 dq) os = U2 at *
              go_upto_region 16 with fail
              obtain ⟨y0, y1, y2, y3, y4, y5⟩ := SKX.out _ h2
              have z0 : ∀ d os, (Sort.grow (redrawn U2 d) os).cell? ⟨Ga, k, none⟩ = some (.slice xa na xc) := fun d os => cell_regrown y0 d os
              have z1 : ∀ d os, (Sort.grow (redrawn U2 d) os).cell? ⟨Gb, k, none⟩ = some (.slice ya nb yc) := fun d os => cell_regrown y1 d os
              have z2 : ∀ d os, (Sort.grow (redrawn U2 d) os).cell? ⟨Gd, k, none⟩ = some (.slice za nd zc) := fun d os => cell_regrown y2 d os
              have z3 : ∀ d os, (Sort.grow (redrawn U2 d) os).cell? ⟨w.heap.size, 9, none⟩ = some (.int .i64 (top : Int)) := fun d os => cell_regrown y3 d os
              have z4 : ∀ d os, (Sort.grow (redrawn U2 d) os).cell? ⟨w.heap.size, 10, none⟩ = some (.int .i64 (bot : Int)) := fun d os => cell_regrown y4 d os
              have z5 : ∀ d os, (Sort.grow (redrawn U2 d) os).cell? ⟨Ga, km, none⟩ = some (.slice oa no oc) := fun d os => cell_regrown y5 d os
              have K0 : Hid (∀ d os, Calls Tryd.prog 11 #[.slice za nd zc, .slice xa na xc] (Sort.grow (redrawn U2 d) os) fun e w'' => e = .returned (.bool true) ∧ ∃ p : Regrown, w'' = Sort.grow (redrawn U2 p.d) p.os) := fun d os => Calls.regrown_of (HE2.out _ (h2.trans ((below_regrown U2 d os).mono h2.size)))
              clear y0 y1 y2 y3 y4 y5
              refine wp_region_quiet_below (by kernel_rfl) (by kernel_rfl) ?_
              repeat (first | go_big_quiet_skip | quiet_step (first | (go_at_call_of 11 za; exact K0.out _ _)))
              refine wpQuiet_nil ?_
              intro _ hw'
              obtain ⟨⟨dq, os⟩, hw''⟩ := hw'
              subst hw''
              have h3 : Below wr.heap.size wr (Sort.grow (redrawn U2 dq) os) := h2.trans ((below_regrown U2 dq os).mono h2.size)
              clear z0 z1 z2 z3 z4 z5 K0
              generalize Sort.grow (redrawn U2 dq) os = U3 at *
              go_wp2_with fail
              go_roundg (hh - (k + 1))
              case measure => omega
              case rel => exact ⟨k + 1, rfl, by omega, by omega, HBW.out.trans (h3.mono HBW.out.size)⟩
            · have i3 : ¬ ((top : Int) ≤ (k : Int) - (m : Int)) := by omega
              clear HS1 HS2 HS3 e1 hsm hb hkm hx4 s4' hsm4
              generalize (A.getD k []).length = na at *
              generalize (B.getD k []).length = nb at *
              generalize (D.getD k []).length = nd at *
              generalize (A.getD km []).length = no at *
              have SKX : Hid (∀ V, Below wr.heap.size wr V → V.cell? ⟨Ga, k, none⟩ = some (.slice xa na xc) ∧ V.cell? ⟨Gb, k, none⟩ = some (.slice ya nb yc) ∧ V.cell? ⟨Gd, k, none⟩ = some (.slice za nd zc) ∧ V.cell? ⟨w.heap.size, 9, none⟩ = some (.int .i64 (top : Int)) ∧ V.cell? ⟨w.heap.size, 10, none⟩ = some (.int .i64 (bot : Int)) ∧ V.cell? ⟨Ga, km, none⟩ = some (.slice oa no oc)) := SKX0
              clear SKX0 SKW0
              have h0 : Below wr.heap.size wr wr := Below.refl _ _
              go_upto_region 12 with fail
              obtain ⟨y0, y1, y2, y3, y4, y5⟩ := SKX.out _ h0
              have z0 : ∀ d os, (Sort.grow (redrawn wr d) os).cell? ⟨Ga, k, none⟩ = some (.slice xa na xc) := fun d os => cell_regrown y0 d os
              have z1 : ∀ d os, (Sort.grow (redrawn wr d) os).cell? ⟨Gb, k, none⟩ = some (.slice ya nb yc) := fun d os => cell_regrown y1 d os
              have z2 : ∀ d os, (Sort.grow (redrawn wr d) os).cell? ⟨Gd, k, none⟩ = some (.slice za nd zc) := fun d os => cell_regrown y2 d os
              have z3 : ∀ d os, (Sort.grow (redrawn wr d) os).cell? ⟨w.heap.size, 9, none⟩ = some (.int .i64 (top : Int)) := fun d os => cell_regrown y3 d os
              have z4 : ∀ d os, (Sort.grow (redrawn wr d) os).cell? ⟨w.heap.size, 10, none⟩ = some (.int .i64 (bot : Int)) := fun d os => cell_regrown y4 d os
              have z5 : ∀ d os, (Sort.grow (redrawn wr d) os).cell? ⟨Ga, km, none⟩ = some (.slice oa no oc) := fun d os => cell_regrown y5 d os
              clear y0 y1 y2 y3 y4 y5
              refine wp_region_quiet_below (by kernel_rfl) (by kernel_rfl) ?_
              repeat (first | go_big_quiet_skip | quiet_step (fail))
              refine wpQuiet_nil ?_
              intro _ hw'
              obtain ⟨⟨dq, os⟩, hw''⟩ := hw'
              subst hw''
              have h1 : Below wr.heap.size wr (Sort.grow (redrawn wr dq) os) := h0.trans ((below_regrown wr dq os).mono h0.size)
              clear z0 z1 z2 z3 z4 z5 
              generalize Sort.grow (redrawn wr dq) os = U1 at *
              go_upto_region 14 with fail
              obtain ⟨y0, y1, y2, y3, y4, y5⟩ := SKX.out _ h1
              have z0 : ∀ d os, (Sort.grow (redrawn U1 d) os).cell? ⟨Ga, k, none⟩ = some (.slice xa na xc) := fun d os => cell_regrown y0 d os
              have z1 : ∀ d os, (Sort.grow (redrawn U1 d) os).cell? ⟨Gb, k, none⟩ = some (.slice ya nb yc) := fun d os => cell_regrown y1 d os
              have z2 : ∀ d os, (Sort.grow (redrawn U1 d) os).cell? ⟨Gd, k, none⟩ = some (.slice za nd zc) := fun d os => cell_regrown y2 d os
              have z3 : ∀ d os, (Sort.grow (redrawn U1 d) os).cell? ⟨w.heap.size, 9, none⟩ = some (.int .i64 (top : Int)) := fun d os => cell_regrown y3 d os
              have z4 : ∀ d os, (Sort.grow (redrawn U1 d) os).cell? ⟨w.heap.size, 10, none⟩ = some (.int .i64 (bot : Int)) := fun d os => cell_regrown y4 d os
              have z5 : ∀ d os, (Sort.grow (redrawn U1 d) os).cell? ⟨Ga, km, none⟩ = some (.slice oa no oc) := fun d os => cell_regrown y5 d os
              have K0 : Hid (∀ d os, Calls Tryd.prog 11 #[.slice ya nb yc, .slice oa no oc] (Sort.grow (redrawn U1 d) os) fun e w'' => e = .returned (.bool true) ∧ ∃ p : Regrown, w'' = Sort.grow (redrawn U1 p.d) p.os) := fun d os => Calls.regrown_of (HE1.out _ (h1.trans ((below_regrown U1 d os).mono h1.size)))
              clear y0 y1 y2 y3 y4 y5
              refine wp_region_quiet_below (by kernel_rfl) (by kernel_rfl) ?_
              repeat (first | go_big_quiet_skip | quiet_step (first | (go_at_call_of 11 oa; exact K0.out _ _)))
              refine wpQuiet_nil ?_
              intro _ hw'
              obtain ⟨⟨dq, os⟩, hw''⟩ := hw'
              subst hw''
              have h2 : Below wr.heap.size wr (Sort.grow (redrawn U1 dq) os) := h1.trans ((below_regrown U1 dq os).mono h1.size)
              clear z0 z1 z2 z3 z4 z5 K0
              generalize Sort.grow (redrawn U1 dq) os = U2 at *
              go_upto_region 16 with fail
              obtain ⟨y0, y1, y2, y3, y4, y5⟩ := SKX.out _ h2
              have z0 : ∀ d os, (Sort.grow (redrawn U2 d) os).cell? ⟨Ga, k, none⟩ = some (.slice xa na xc) := fun d os => cell_regrown y0 d os
              have z1 : ∀ d os, (Sort.grow (redrawn U2 d) os).cell? ⟨Gb, k, none⟩ = some (.slice ya nb yc) := fun d os => cell_regrown y1 d os
              have z2 : ∀ d os, (Sort.grow (redrawn U2 d) os).cell? ⟨Gd, k, none⟩ = some (.slice za nd zc) := fun d os => cell_regrown y2 d os
              have z3 : ∀ d os, (Sort.grow (redrawn U2 d) os).cell? ⟨w.heap.size, 9, none⟩ = some (.int .i64 (top : Int)) := fun d os => cell_regrown y3 d os
              have z4 : ∀ d os, (Sort.grow (redrawn U2 d) os).cell? ⟨w.heap.size, 10, none⟩ = some (.int .i64 (bot : Int)) := fun d os => cell_regrown y4 d os
              have z5 : ∀ d os, (Sort.grow (redrawn U2 d) os).cell? ⟨Ga, km, none⟩ = some (.slice oa no oc) := fun d os => cell_regrown y5 d os
              clear y0 y1 y2 y3 y4 y5
              refine wp_region_quiet_below (by kernel_rfl) (by kernel_rfl) ?_
              repeat (first | go_big_quiet_skip | quiet_step (fail))
              refine wpQuiet_nil ?_
              intro _ hw'
              obtain ⟨⟨dq, os⟩, hw''⟩ := hw'
              subst hw''
              have h3 : Below wr.heap.size wr (Sort.grow (redrawn U2 dq) os) := h2.trans ((below_regrown U2 dq os).mono h2.size)
              clear z0 z1 z2 z3 z4 z5 
              generalize Sort.grow (redrawn U2 dq) os = U3 at *
              go_wp2_with fail
              go_roundg (hh - (k + 1))
              case measure => omega
              case rel => exact ⟨k + 1, rfl, by omega, by omega, HBW.out.trans (h3.mono HBW.out.size)⟩
          · have i1 : ¬ ((km : Int) ≤ (bot : Int)) := by omega
            by_cases g2 : top + m ≤ k
            · have i3 : (top : Int) ≤ (k : Int) - (m : Int) := by omega
              have e2 := HHR.out.back k g2 (by omega)
              have HE2 : Hid (∀ V, Below wr.heap.size wr V → Calls Tryd.prog 11 #[.slice za (D.getD k []).length zc, .slice xa (A.getD k []).length xc] V fun e w' => e = .returned (.bool true) ∧ Below V.heap.size V w') := fun V h => by
                have h2 := SliceAt.below HS3.out h
                rw [e2] at h2 ⊢
                exact Grd.equal_slices _ _ (A.getD k []) V h2 (SliceAt.below HS1.out h) (by omega)
              clear HS1 HS2 HS3 e2 hsm hb hkm
              generalize (A.getD k []).length = na at *
              generalize (B.getD k []).length = nb at *
              generalize (D.getD k []).length = nd at *
              have SKW : Hid (∀ V, Below wr.heap.size wr V → V.cell? ⟨Ga, k, none⟩ = some (.slice xa na xc) ∧ V.cell? ⟨Gb, k, none⟩ = some (.slice ya nb yc) ∧ V.cell? ⟨Gd, k, none⟩ = some (.slice za nd zc) ∧ V.cell? ⟨w.heap.size, 9, none⟩ = some (.int .i64 (top : Int)) ∧ V.cell? ⟨w.heap.size, 10, none⟩ = some (.int .i64 (bot : Int))) := SKW0
              clear SKW0
              have h0 : Below wr.heap.size wr wr := Below.refl _ _
              go_upto_region 12 with fail
              obtain ⟨y0, y1, y2, y3, y4⟩ := SKW.out _ h0
              have z0 : ∀ d os, (Sort.grow (redrawn wr d) os).cell? ⟨Ga, k, none⟩ = some (.slice xa na xc) := fun d os => cell_regrown y0 d os
              have z1 : ∀ d os, (Sort.grow (redrawn wr d) os).cell? ⟨Gb, k, none⟩ = some (.slice ya nb yc) := fun d os => cell_regrown y1 d os
              have z2 : ∀ d os, (Sort.grow (redrawn wr d) os).cell? ⟨Gd, k, none⟩ = some (.slice za nd zc) := fun d os => cell_regrown y2 d os
              have z3 : ∀ d os, (Sort.grow (redrawn wr d) os).cell? ⟨w.heap.size, 9, none⟩ = some (.int .i64 (top : Int)) := fun d os => cell_regrown y3 d os
              have z4 : ∀ d os, (Sort.grow (redrawn wr d) os).cell? ⟨w.heap.size, 10, none⟩ = some (.int .i64 (bot : Int)) := fun d os => cell_regrown y4 d os
              clear y0 y1 y2 y3 y4
              refine wp_region_quiet_below (by kernel_rfl) (by kernel_rfl) ?_
              repeat (first | go_big_quiet_skip | quiet_step (fail))
              refine wpQuiet_nil ?_
              intro _ hw'
              obtain ⟨⟨dq, os⟩, hw''⟩ := hw'
              subst hw''
              have h1 : Below wr.heap.size wr (Sort.grow (redrawn wr dq) os) := h0.trans ((below_regrown wr dq os).mono h0.size)
              clear z0 z1 z2 z3 z4 
              generalize Sort.grow (redrawn wr dq) os = U1 at *
              go_upto_region 14 with fail
              obtain ⟨y0, y1, y2, y3, y4⟩ := SKW.out _ h1
              have z0 : ∀ d os, (Sort.grow (redrawn U1 d) os).cell? ⟨Ga, k, none⟩ = some (.slice xa na xc) := fun d os => cell_regrown y0 d os
              have z1 : ∀ d os, (Sort.grow (redrawn U1 d) os).cell? ⟨Gb, k, none⟩ = some (.slice ya nb yc) := fun d os => cell_regrown y1 d os
              have z2 : ∀ d os, (Sort.grow (redrawn U1 d) os).cell? ⟨Gd, k, none⟩ = some (.slice za nd zc) := fun d os => cell_regrown y2 d os
              have z3 : ∀ d os, (Sort.grow (redrawn U1 d) os).cell? ⟨w.heap.size, 9, none⟩ = some (.int .i64 (top : Int)) := fun d os => cell_regrown y3 d os
              have z4 : ∀ d os, (Sort.grow (redrawn U1 d) os).cell? ⟨w.heap.size, 10, none⟩ = some (.int .i64 (bot : Int)) := fun d os => cell_regrown y4 d os
              clear y0 y1 y2 y3 y4
              refine wp_region_quiet_below (by kernel_rfl) (by kernel_rfl) ?_
              repeat (first | go_big_quiet_skip | quiet_step (fail))
              refine wpQuiet_nil ?_
              intro _ hw'
              obtain ⟨⟨dq, os⟩, hw''⟩ := hw'
              subst hw''
              have h2 : Below wr.heap.size wr (Sort.grow (redrawn U1 dq) os) := h1.trans ((below_regrown U1 dq os).mono h1.size)
              clear z0 z1 z2 z3 z4 
              generalize Sort.grow (redrawn U1 dq) os = U2 at *
              go_upto_region 16 with fail
              obtain ⟨y0, y1, y2, y3, y4⟩ := SKW.out _ h2
              have z0 : ∀ d os, (Sort.grow (redrawn U2 d) os).cell? ⟨Ga, k, none⟩ = some (.slice xa na xc) := fun d os => cell_regrown y0 d os
              have z1 : ∀ d os, (Sort.grow (redrawn U2 d) os).cell? ⟨Gb, k, none⟩ = some (.slice ya nb yc) := fun d os => cell_regrown y1 d os
              have z2 : ∀ d os, (Sort.grow (redrawn U2 d) os).cell? ⟨Gd, k, none⟩ = some (.slice za nd zc) := fun d os => cell_regrown y2 d os
              have z3 : ∀ d os, (Sort.grow (redrawn U2 d) os).cell? ⟨w.heap.size, 9, none⟩ = some (.int .i64 (top : Int)) := fun d os => cell_regrown y3 d os
              have z4 : ∀ d os, (Sort.grow (redrawn U2 d) os).cell? ⟨w.heap.size, 10, none⟩ = some (.int .i64 (bot : Int)) := fun d os => cell_regrown y4 d os
              have K0 : Hid (∀ d os, Calls Tryd.prog 11 #[.slice za nd zc, .slice xa na xc] (Sort.grow (redrawn U2 d) os) fun e w'' => e = .returned (.bool true) ∧ ∃ p : Regrown, w'' = Sort.grow (redrawn U2 p.d) p.os) := fun d os => Calls.regrown_of (HE2.out _ (h2.trans ((below_regrown U2 d os).mono h2.size)))
              clear y0 y1 y2 y3 y4
              refine wp_region_quiet_below (by kernel_rfl) (by kernel_rfl) ?_
              repeat (first | go_big_quiet_skip | quiet_step (first | (go_at_call_of 11 za; exact K0.out _ _)))
              refine wpQuiet_nil ?_
              intro _ hw'
              obtain ⟨⟨dq, os⟩, hw''⟩ := hw'
              subst hw''
              have h3 : Below wr.heap.size wr (Sort.grow (redrawn U2 dq) os) := h2.trans ((below_regrown U2 dq os).mono h2.size)
              clear z0 z1 z2 z3 z4 K0
              generalize Sort.grow (redrawn U2 dq) os = U3 at *
              go_wp2_with fail
              go_roundg (hh - (k + 1))
              case measure => omega
              case rel => exact ⟨k + 1, rfl, by omega, by omega, HBW.out.trans (h3.mono HBW.out.size)⟩
            · have i3 : ¬ ((top : Int) ≤ (k : Int) - (m : Int)) := by omega
              clear HS1 HS2 HS3 hsm hb hkm
              generalize (A.getD k []).length = na at *
              generalize (B.getD k []).length = nb at *
              generalize (D.getD k []).length = nd at *
              have SKW : Hid (∀ V, Below wr.heap.size wr V → V.cell? ⟨Ga, k, none⟩ = some (.slice xa na xc) ∧ V.cell? ⟨Gb, k, none⟩ = some (.slice ya nb yc) ∧ V.cell? ⟨Gd, k, none⟩ = some (.slice za nd zc) ∧ V.cell? ⟨w.heap.size, 9, none⟩ = some (.int .i64 (top : Int)) ∧ V.cell? ⟨w.heap.size, 10, none⟩ = some (.int .i64 (bot : Int))) := SKW0
              clear SKW0
              have h0 : Below wr.heap.size wr wr := Below.refl _ _
              go_upto_region 12 with fail
              obtain ⟨y0, y1, y2, y3, y4⟩ := SKW.out _ h0
              have z0 : ∀ d os, (Sort.grow (redrawn wr d) os).cell? ⟨Ga, k, none⟩ = some (.slice xa na xc) := fun d os => cell_regrown y0 d os
              have z1 : ∀ d os, (Sort.grow (redrawn wr d) os).cell? ⟨Gb, k, none⟩ = some (.slice ya nb yc) := fun d os => cell_regrown y1 d os
              have z2 : ∀ d os, (Sort.grow (redrawn wr d) os).cell? ⟨Gd, k, none⟩ = some (.slice za nd zc) := fun d os => cell_regrown y2 d os
              have z3 : ∀ d os, (Sort.grow (redrawn wr d) os).cell? ⟨w.heap.size, 9, none⟩ = some (.int .i64 (top : Int)) := fun d os => cell_regrown y3 d os
              have z4 : ∀ d os, (Sort.grow (redrawn wr d) os).cell? ⟨w.heap.size, 10, none⟩ = some (.int .i64 (bot : Int)) := fun d os => cell_regrown y4 d os
              clear y0 y1 y2 y3 y4
              refine wp_region_quiet_below (by kernel_rfl) (by kernel_rfl) ?_
              repeat (first | go_big_quiet_skip | quiet_step (fail))
              refine wpQuiet_nil ?_
              intro _ hw'
              obtain ⟨⟨dq, os⟩, hw''⟩ := hw'
              subst hw''
              have h1 : Below wr.heap.size wr (Sort.grow (redrawn wr dq) os) := h0.trans ((below_regrown wr dq os).mono h0.size)
              clear z0 z1 z2 z3 z4 
              generalize Sort.grow (redrawn wr dq) os = U1 at *
              go_upto_region 14 with fail
              obtain ⟨y0, y1, y2, y3, y4⟩ := SKW.out _ h1
              have z0 : ∀ d os, (Sort.grow (redrawn U1 d) os).cell? ⟨Ga, k, none⟩ = some (.slice xa na xc) := fun d os => cell_regrown y0 d os
              have z1 : ∀ d os, (Sort.grow (redrawn U1 d) os).cell? ⟨Gb, k, none⟩ = some (.slice ya nb yc) := fun d os => cell_regrown y1 d os
              have z2 : ∀ d os, (Sort.grow (redrawn U1 d) os).cell? ⟨Gd, k, none⟩ = some (.slice za nd zc) := fun d os => cell_regrown y2 d os
              have z3 : ∀ d os, (Sort.grow (redrawn U1 d) os).cell? ⟨w.heap.size, 9, none⟩ = some (.int .i64 (top : Int)) := fun d os => cell_regrown y3 d os
              have z4 : ∀ d os, (Sort.grow (redrawn U1 d) os).cell? ⟨w.heap.size, 10, none⟩ = some (.int .i64 (bot : Int)) := fun d os => cell_regrown y4 d os
              clear y0 y1 y2 y3 y4
              refine wp_region_quiet_below (by kernel_rfl) (by kernel_rfl) ?_
              repeat (first | go_big_quiet_skip | quiet_step (fail))
              refine wpQuiet_nil ?_
              intro _ hw'
              obtain ⟨⟨dq, os⟩, hw''⟩ := hw'
              subst hw''
              have h2 : Below wr.heap.size wr (Sort.grow (redrawn U1 dq) os) := h1.trans ((below_regrown U1 dq os).mono h1.size)
              clear z0 z1 z2 z3 z4 
              generalize Sort.grow (redrawn U1 dq) os = U2 at *
              go_upto_region 16 with fail
              obtain ⟨y0, y1, y2, y3, y4⟩ := SKW.out _ h2
              have z0 : ∀ d os, (Sort.grow (redrawn U2 d) os).cell? ⟨Ga, k, none⟩ = some (.slice xa na xc) := fun d os => cell_regrown y0 d os
              have z1 : ∀ d os, (Sort.grow (redrawn U2 d) os).cell? ⟨Gb, k, none⟩ = some (.slice ya nb yc) := fun d os => cell_regrown y1 d os
              have z2 : ∀ d os, (Sort.grow (redrawn U2 d) os).cell? ⟨Gd, k, none⟩ = some (.slice za nd zc) := fun d os => cell_regrown y2 d os
              have z3 : ∀ d os, (Sort.grow (redrawn U2 d) os).cell? ⟨w.heap.size, 9, none⟩ = some (.int .i64 (top : Int)) := fun d os => cell_regrown y3 d os
              have z4 : ∀ d os, (Sort.grow (redrawn U2 d) os).cell? ⟨w.heap.size, 10, none⟩ = some (.int .i64 (bot : Int)) := fun d os => cell_regrown y4 d os
              clear y0 y1 y2 y3 y4
              refine wp_region_quiet_below (by kernel_rfl) (by kernel_rfl) ?_
              repeat (first | go_big_quiet_skip | quiet_step (fail))
              refine wpQuiet_nil ?_
              intro _ hw'
              obtain ⟨⟨dq, os⟩, hw''⟩ := hw'
              subst hw''
              have h3 : Below wr.heap.size wr (Sort.grow (redrawn U2 dq) os) := h2.trans ((below_regrown U2 dq os).mono h2.size)
              clear z0 z1 z2 z3 z4 
              generalize Sort.grow (redrawn U2 dq) os = U3 at *
              go_wp2_with fail
              go_roundg (hh - (k + 1))
              case measure => omega
              case rel => exact ⟨k + 1, rfl, by omega, by omega, HBW.out.trans (h3.mono HBW.out.size)⟩
      · have lt1 : ¬ ((k : Int) < (hh : Int)) := by omega
        have HB9 : Hid (Below w.heap.size w wr) := HFB.out.trans (hb.mono HFB.out.size)
        clear hb
        go_wp2_with fail
        go_ret
        exact ⟨rfl, HB9.out⟩
end
theorem shiftHolds_walk (s : Scr) (cv tv gv : Value) (k : Int) (w : World) (hT : Txt.Tab w) (hV : ScrV w s cv tv gv) (hF : Fits s) :
    Calls Tryd.prog 3 #[.agg (scrA s cv tv gv), .int .i64 k] w fun e w' => e = .returned (.bool true) ∧ Below w.heap.size w w' := by
  by_cases hz : scrErr s = 0
  · obtain ⟨n, hh, hR⟩ := right_of s hz
    by_cases hk1 : k < 1
    · exact holds_low s cv tv gv k w hT hV hF hz hk1
    · have t0 := hR.t0
      have t1 := hR.t1
      have t2 := hR.t2
      have h2 := hR.h2
      have eh := hR.h
      by_cases hk2 : s.bot - s.top < k
      · exact holds_high s cv tv gv k w hT hV hF hz hk1 (by omega) (by omega) (by omega) (by omega) hk2
      · obtain ⟨kk, hkk⟩ : ∃ kk : Nat, k = (kk : Int) := ⟨k.toNat, by omega⟩
        subst hkk
        exact holds_good s cv tv gv kk w hT hV hF n hh s.top.toNat s.bot.toNat hR (by omega) (by omega) (by omega) (by omega) (by omega) (by omega)
  · exact holds_bad s cv tv gv k w hT hV hF hz
end Put
end Go.Proofs.YthokeflechajlaaDoor
