/- The law WipeLine. -/
import Derived.Test.YtnkeahfcpbepjaaGreatDoorPartP
namespace Go.Proofs.YtnkeahfcpbepjaaGreatDoor
open Go.ChangeShapes Go.WideShapes Go.ChangeAt Go.RowKit
namespace Put
open Grd (C SliceAt CellsAt gridErr z0 nilV flat rowsL RightRow)
open Sty (isSt)
theorem right_errW {s : Scr} {n hh : Nat} (h : RightS s n hh) : scrErr s = 0 := by
  have hz := h.gz
  rw [← h.w, ← h.h] at hz
  have hp : placeOk s = true := by
    have := h.w
    have := h.h
    have := h.x0
    have := h.x1
    have := h.y0
    have := h.y1
    have := h.kx0
    have := h.kx1
    have := h.ky0
    have := h.ky1
    have := h.t0
    have := h.t1
    have := h.t2
    have := h.t3
    simp only [placeOk, hasC, regionOk, Bool.and_eq_true, Bool.or_eq_true, decide_eq_true_eq]
    omega
  have hr : restOk s = true := by
    simp only [restOk, Bool.and_eq_true, Bool.or_eq_true, Bool.not_eq_true', decide_eq_true_eq, decide_eq_false_iff_not]
    exact ⟨by rw [h.w, h.tl], h.la, h.ti⟩
  have hg : goneErr s.gone = 0 := by
    unfold goneErr
    rw [if_neg (by have := h.gl; omega)]
    have hb : goneBad s.gone = false := by
      unfold goneBad
      rw [List.any_eq_false]
      intro row hrow
      simp [h.gr row hrow]
    rw [hb]
    rfl
  unfold scrErr
  rw [if_neg (by rw [hz]; simp), if_neg (by rw [hp]; simp), if_neg (by rw [h.late]; simp), if_neg (by rw [h.looks]; simp), if_neg (by rw [hr]; simp), hg]
theorem right_smallW {s : Scr} {n hh : Nat} (h : RightS s n hh) : Small s := by
  refine ⟨?_, ?_, ?_, ?_⟩
  · have h1 := h.cl
    have h2 := Nat.mul_le_mul h.n2 h.h2
    omega
  · have := h.tl
    have := h.n2
    omega
  · have := h.gl
    omega
  · intro row hrow
    have := (grid_size (h.gr row hrow)).2.1
    omega
theorem plainF_wline : Plain 15 := by
  intro args W
  kernel_rfl
theorem plainF_wscreen : Plain 16 := by
  intro args W
  kernel_rfl
theorem plainF_wchars : Plain 17 := by
  intro args W
  kernel_rfl
theorem Met.wipe {w0 w : World} {s : Scr} {cv tv gv : Value} (h : Met w0 w s cv tv gv) : CameW w0 w s cv tv gv := ⟨h.t, h.v, h.b, h.f⟩
theorem agree_rows {what : ByteArray} {a b : Int} {s : Scr} {n hh : Nat} (hR : RightS s n hh) (rows2 : List (List C)) (hl : rows2.length = hh) (hRR : RightRows n rows2) (hA : ActMakes what a b s { s with late := false } (rowsL n s.cs hh) rows2) : Agrees what a b s { s with late := false, cs := rows2.flatten } n hh := by
  refine ⟨right_smallW (right_rows hR rows2 hl hRR).1, _, _, hA, hl, fun i hi => (hRR i hi).1, ?_⟩
  rw [← hR.w, ← hR.h]
theorem line_law (s : Scr) (cv tv gv : Value) (k : Int) (w : World) (hT : Txt.Tab w) (hV : ScrV w s cv tv gv) (hB : Bulk s) :
    Calls Tryz.prog 8 #[.agg (scrA s cv tv gv), .func (.func 15) #[] #[], .string ⟨#[108, 105, 110, 101]⟩, .int .i64 k] w fun e w' => e = .returned (.bool true) ∧ Below w.heap.size w w' :=
  one_any s cv tv gv _ plainF_wline _ k w hT hV hB { s with late := false, cs := (lineS s k s.w.toNat s.h.toNat).flatten } (fun hz _ _ _ _ _ hm => wline_bad hm.wipe hz k) fun nn hh hR => by
    have e1 := hR.w
    have e2 := hR.h
    have n1 := hR.n1
    have n2 := hR.n2
    have h1 := hR.h1
    have h2 := hR.h2
    have x0 := hR.x0
    have x1 := hR.x1
    have y0 := hR.y0
    have y1 := hR.y1
    have hwn : s.w.toNat = nn := by omega
    have hhn : s.h.toNat = hh := by omega
    have hyl : s.y.toNat < (rowsL nn s.cs hh).length := by rw [Grd.rowsL_len]; omega
    have hyy : s.y = (s.y.toNat : Int) := by omega
    have hxx : s.x = (s.x.toNat : Int) := by omega
    rw [hwn, hhn]
    obtain ⟨l1, l2⟩ := lineS_right hR k
    exact ⟨fun _ _ _ _ _ hm => wline_good hm.wipe hR (right_errW hR) k, agree_rows hR _ l1 l2 (act_line k 0 s _ nn s.y.toNat s.x.toNat e1 hyy hxx n2 hyl (by rw [Grd.rowsL_len]; exact h2) (by omega) (rightRows_of hR))⟩
theorem chars_law (s : Scr) (cv tv gv : Value) (k : Int) (w : World) (hT : Txt.Tab w) (hV : ScrV w s cv tv gv) (hB : Bulk s) :
    Calls Tryz.prog 8 #[.agg (scrA s cv tv gv), .func (.func 17) #[] #[], .string ⟨#[99, 104, 97, 114, 115]⟩, .int .i64 k] w fun e w' => e = .returned (.bool true) ∧ Below w.heap.size w w' :=
  one_any s cv tv gv _ plainF_wchars _ k w hT hV hB { s with late := false, cs := (charsS s k s.w.toNat s.h.toNat).flatten } (fun hz _ _ _ _ _ hm => wchars_bad hm.wipe hz k) fun nn hh hR => by
    have e1 := hR.w
    have e2 := hR.h
    have n1 := hR.n1
    have n2 := hR.n2
    have h1 := hR.h1
    have h2 := hR.h2
    have x0 := hR.x0
    have x1 := hR.x1
    have y0 := hR.y0
    have y1 := hR.y1
    have hwn : s.w.toNat = nn := by omega
    have hhn : s.h.toNat = hh := by omega
    have hyl : s.y.toNat < (rowsL nn s.cs hh).length := by rw [Grd.rowsL_len]; omega
    have hyy : s.y = (s.y.toNat : Int) := by omega
    have hxx : s.x = (s.x.toNat : Int) := by omega
    rw [hwn, hhn]
    obtain ⟨l1, l2⟩ := charsS_right hR k
    exact ⟨fun _ _ _ _ _ hm => wchars_good hm.wipe hR (right_errW hR) k, agree_rows hR _ l1 l2 (act_chars k 0 s _ nn s.y.toNat s.x.toNat e1 hyy hxx n2 hyl (by rw [Grd.rowsL_len]; exact h2) (by omega) (rightRows_of hR))⟩
theorem screen_law (s : Scr) (cv tv gv : Value) (k : Int) (w : World) (hT : Txt.Tab w) (hV : ScrV w s cv tv gv) (hB : Bulk s) :
    Calls Tryz.prog 8 #[.agg (scrA s cv tv gv), .func (.func 16) #[] #[], .string ⟨#[115, 99, 114, 101, 101, 110]⟩, .int .i64 k] w fun e w' => e = .returned (.bool true) ∧ Below w.heap.size w w' := by
  by_cases hk : k ≤ 2
  · exact one_any s cv tv gv _ plainF_wscreen _ k w hT hV hB { s with late := false, cs := (screenS s k s.w.toNat s.h.toNat).flatten } (fun hz _ _ _ _ _ hm => wscreen_bad hm.wipe hz k) fun nn hh hR => by
      have e1 := hR.w
      have e2 := hR.h
      have n1 := hR.n1
      have n2 := hR.n2
      have h1 := hR.h1
      have h2 := hR.h2
      have x0 := hR.x0
      have x1 := hR.x1
      have y0 := hR.y0
      have y1 := hR.y1
      have hwn : s.w.toNat = nn := by omega
      have hhn : s.h.toNat = hh := by omega
      have hyl : s.y.toNat < (rowsL nn s.cs hh).length := by rw [Grd.rowsL_len]; omega
      have hyy : s.y = (s.y.toNat : Int) := by omega
      have hxx : s.x = (s.x.toNat : Int) := by omega
      rw [hwn, hhn]
      obtain ⟨l1, l2⟩ := screenS_right hR k
      have h0 := rightRows_of hR
      have hA := act_wscreen k 0 s (rowsL nn s.cs hh) nn s.y.toNat s.x.toNat hk e1 hyy hxx n1 n2 hyl (by rw [Grd.rowsL_len]; exact h2) (by omega) h0
      have hll := (lineS_right hR k).1
      have heq : wipeC ((rowsL nn s.cs hh).set s.y.toNat (lineRow s k s.x.toNat nn ((rowsL nn s.cs hh).getD s.y.toNat []))) nn s.sb k s.y.toNat (rowsL nn s.cs hh).length = screenS s k nn hh := by
        have h3 := wipeC_to (lineS s k nn hh) nn s.sb k s.y.toNat (by rw [hll]; omega) hk (fun k2 => by
          subst k2
          unfold lineS lineRow
          rw [getD_set_same _ _ _ _ hyl]
          show wipeRow s.sb _ 0 nn = _
          rw [wipe_whole s.sb _ nn (by rw [(h0 _ hyl).1]; exact Nat.le_refl _), (h0 _ hyl).1])
        rw [hll] at h3
        rw [Grd.rowsL_len]
        exact h3
      rw [heq] at hA
      exact ⟨fun _ _ _ _ _ hm => wscreen_good hm.wipe hR (right_errW hR) k hk, agree_rows hR _ l1 l2 hA⟩
  · exact one_any s cv tv gv _ plainF_wscreen _ k w hT hV hB { (if k = 3 then { s with gone := [] } else s) with cs := s.cs } (fun hz _ _ _ _ _ hm => wscreen_bad hm.wipe hz k) fun nn hh hR => by
      have hsm := right_smallW hR
      refine ⟨fun _ _ _ _ _ hm => wscreen_more hm.wipe hR (right_errW hR) k hk, ?_, _, _, act_more k 0 s (rowsL nn s.cs hh) hk, Grd.rowsL_len _ _ _, fun i hi => (rightRows_of hR i hi).1, ?_⟩
      · split
        · exact ⟨hsm.c, hsm.t, by simp, by simp⟩
        · exact ⟨hsm.c, hsm.t, hsm.g, hsm.r⟩
      · rw [hR.flatten, ← hR.w, ← hR.h]
        split <;> rfl
set_option maxHeartbeats 4000000 in
set_option maxRecDepth 100000 in
theorem wipeLine_walk (s : Scr) (cv tv gv : Value) (a c : Int) (w : World) (hT : Txt.Tab w) (hV : ScrV w s cv tv gv) (hB : Bulk s) :
    Calls Tryz.prog 5 #[.agg (scrA s cv tv gv), .int .i64 a, .int .i64 c] w fun e w' => e = .returned (.bool true) ∧ Below w.heap.size w w' := by
  have HC_line : Hid (∀ W, Below w.heap.size w W → Calls Tryz.prog 8 #[.agg (scrA s cv tv gv), .func (.func 15) #[] #[], .string ⟨#[108, 105, 110, 101]⟩, .int .i64 a] W fun e w' => e = .returned (.bool true) ∧ Below W.heap.size W w') := fun W h => line_law s cv tv gv a W (Grd.Tab.next hT h) (hV.next h) hB
  have HC_screen : Hid (∀ W, Below w.heap.size w W → Calls Tryz.prog 8 #[.agg (scrA s cv tv gv), .func (.func 16) #[] #[], .string ⟨#[115, 99, 114, 101, 101, 110]⟩, .int .i64 a] W fun e w' => e = .returned (.bool true) ∧ Below W.heap.size W w') := fun W h => screen_law s cv tv gv a W (Grd.Tab.next hT h) (hV.next h) hB
  have HC_chars : Hid (∀ W, Below w.heap.size w W → Calls Tryz.prog 8 #[.agg (scrA s cv tv gv), .func (.func 17) #[] #[], .string ⟨#[99, 104, 97, 114, 115]⟩, .int .i64 c] W fun e w' => e = .returned (.bool true) ∧ Below W.heap.size W w') := fun W h => chars_law s cv tv gv c W (Grd.Tab.next hT h) (hV.next h) hB
  have x0 := heap_alloc_new w (.cells (scrA s cv tv gv) 32)
  have kb : Below w.heap.size w (w.alloc (.cells (scrA s cv tv gv) 32)) := (Below.refl _ _).alloc (Nat.le_refl _) _
  have HX0 : Hid _ := x0
  have HB0 : Hid _ := kb
  clear x0 kb hV hT hB
  go_enter Tryz.func5, Tryz.ntmps5
  go_wp2_with (refine wpList_load_row rfl 32 (.tmp 3) rfl w.heap.size rfl _ _ _ _ HX0.out Tryz.underlying32 rfl (by kernel_rfl) ?_)
  refine (HC_line.out _ HB0.out).mono ?_
  rintro e V1 ⟨rfl, b1⟩
  have HB1 : Hid (Below w.heap.size w V1) := HB0.out.trans (b1.mono HB0.out.size)
  have HX1 : Hid (V1.heap[w.heap.size]? = _) := Grd.carry HX0.out b1
  clear b1
  go_wp2_with (refine BigFrame.wpList_want rfl fun K hK => wp_load_row 32 (.tmp 3) rfl w.heap.size rfl _ _ _ _ HX1.out Tryz.underlying32 rfl (by kernel_rfl) (hK _ _ ?_))
  refine (HC_screen.out _ HB1.out).mono ?_
  rintro e V2 ⟨rfl, b2⟩
  have HB2 : Hid (Below w.heap.size w V2) := HB1.out.trans (b2.mono HB1.out.size)
  have HX2 : Hid (V2.heap[w.heap.size]? = _) := Grd.carry HX1.out b2
  clear b2
  go_wp2_with (refine BigFrame.wpList_want rfl fun K hK => wp_load_row 32 (.tmp 3) rfl w.heap.size rfl _ _ _ _ HX2.out Tryz.underlying32 rfl (by kernel_rfl) (hK _ _ ?_))
  refine (HC_chars.out _ HB2.out).mono ?_
  rintro e V3 ⟨rfl, b3⟩
  have HB3 : Hid (Below w.heap.size w V3) := HB2.out.trans (b3.mono HB2.out.size)
  have HX3 : Hid (V3.heap[w.heap.size]? = _) := Grd.carry HX2.out b3
  clear b3
  go_wp2_with fail
  go_ret
  exact ⟨rfl, HB3.out⟩
end Put
end Go.Proofs.YtnkeahfcpbepjaaGreatDoor
