/- The law PutRow. (Written by gen_putrow.py.) -/
import Derived.Test.YtmeeojgjboppoaaDoorPartM
import Derived.Test.YtmeeojgjboppoaaDoorPartL
import Derived.Test.YtmeeojgjboppoaaDoorPartH
import Derived.Test.YtmeeojgjboppoaaDoorPartI
import Derived.Deep.Cut
import Derived.Deep.CutRange
import Derived.Test.YtmeeojgjboppoaaDoorPartK
import Derived.Test.YtmeeojgjboppoaaDoorPartF
import Derived.Test.YtmeeojgjboppoaaDoorPartE
namespace Go.Proofs.YtmeeojgjboppoaaDoor
open Go.ChangeShapes Go.WideShapes Go.ChangeAt Go.RowKit
namespace Put
open Grd (C SliceAt CellsAt gridErr z0 nilV rowsL RowsAt RowB flat)
theorem ptext_bad {w0 w : World} {s : Scr} {cv tv gv : Value} (h : Met w0 w s cv tv gv) (hz : scrErr s ≠ 0) (t : ByteArray) (ht : t.size ≤ 4000) : Calls Tryd.prog 7 #[.agg (scrA s cv tv gv), .string t] w (Made w0 w zScr (scrErr s)) :=
  putText_any s zScr cv tv gv t ht w0 w h.t h.v h.b h.f fun W _ _ _ => made_bad s cv tv gv (scrErr s) hz _ w0 W h.v
theorem ptext_good {w0 w : World} {s : Scr} {cv tv gv : Value} {n hh : Nat} (h : Met w0 w s cv tv gv) (hR : RightS s n hh) (t : ByteArray) (ht : t.size ≤ 4000) : Calls Tryd.prog 7 #[.agg (scrA s cv tv gv), .string t] w (Made w0 w (textS n hh t s) 0) := by
  have := (ptext_any h hR t ht).1
  rwa [textS_st] at this
theorem textS_right {s : Scr} {n hh : Nat} (hR : RightS s n hh) (t : ByteArray) : RightS (textS n hh t s) n hh := by
  have := ((PJ.start hR).text t (Txt.runes t).length).r
  rwa [textS_st] at this
theorem textS_title (n hh : Nat) (t : ByteArray) (s : Scr) : (textS n hh t s).title = s.title := by
  have h := stP_held n t s (rowsL n s.cs hh) (Txt.runes t).length
  rw [← textS_st]
  exact h.2.2.2.2.2.2.2.2.2.2.2.2.2.2.2
theorem fits_text {s : Scr} {n hh : Nat} (h : RightS s n hh) (ht : s.title.size ≤ 1048576) : Fits s := by
  have hk := h.looks
  simp only [looksOk, Bool.and_eq_true, decide_eq_true_eq] at hk
  have hm := hk.2.2.1
  have h4 : s.km = 0 ∨ s.km = 2 ∨ s.km = 4 ∨ s.km = 6 := by simpa [keptOk] using hk.2.2.2
  exact ⟨by omega, by omega, by omega, by omega, ht, by have := h.gl; omega, by have := h.tl; have := h.n2; omega⟩
set_option linter.unusedVariables false in
set_option maxHeartbeats 8000000 in
set_option maxRecDepth 100000 in
theorem row_a (s : Scr) (cv tv gv : Value) (a b : ByteArray) (w : World) (hT : Txt.Tab w) (hU : VTabs w) (hV : ScrV w s cv tv gv) (hF : Fits s) (ha : Lib.validD a.data.toList = false) (hs : a.size ≤ 1048576) :
    Calls Tryd.prog 3 #[.agg (scrA s cv tv gv), .string a, .string b] w fun e w' => e = .returned (.bool true) ∧ Below w.heap.size w w' := by
  have x0 := heap_alloc_new w (.cells (scrA s cv tv gv) 32)
  have kb : Below w.heap.size w (w.alloc (.cells (scrA s cv tv gv) 32)) := (Below.refl _ _).alloc (Nat.le_refl _) _
  have HP : Hid (∀ W, Below w.heap.size w W → Calls Tryd.prog 6 #[] W fun e w' => e = .returned (.bool true) ∧ Below W.heap.size W w') := fun W h => printed_any W (Grd.Tab.next hT h)
  have HVS : Hid (∀ W (t : ByteArray), Below w.heap.size w W → t.size ≤ 9223372036854775807 → Calls Tryd.prog 5 #[.string t] W fun e w' => e = .returned (.bool (Lib.validD t.data.toList)) ∧ Below W.heap.size W w') := fun W t h ht => valid_any t W ht (vtabs_next hU h)
  have HX0b : Hid _ := x0
  have HKB : Hid _ := kb
  clear x0 kb hT hV hF hU
  go_enter Tryd.func3, Tryd.ntmps3
  go_wp2_with fail
  refine (HVS.out _ a HKB.out (by omega)).mono ?_
  rintro e U1 ⟨rfl, b1⟩
  rw [ha]
  have HBU1 : Hid (Below w.heap.size w U1) := HKB.out.trans (b1.mono HKB.out.size)
  have HXU1 : Hid (U1.heap[w.heap.size]? = _) := Grd.carry HX0b.out b1
  clear b1
  go_wp2_with fail
  refine (HP.out _ HBU1.out).mono ?_
  rintro e V ⟨rfl, bp⟩
  have HBV : Hid (Below w.heap.size w V) := HBU1.out.trans (bp.mono HBU1.out.size)
  go_wp2_with fail
  go_ret
  exact ⟨rfl, HBV.out⟩
set_option linter.unusedVariables false in
set_option maxHeartbeats 8000000 in
set_option maxRecDepth 100000 in
theorem row_b (s : Scr) (cv tv gv : Value) (a b : ByteArray) (w : World) (hT : Txt.Tab w) (hU : VTabs w) (hV : ScrV w s cv tv gv) (hF : Fits s) (ha : Lib.validD a.data.toList = true) (hb : Lib.validD b.data.toList = false) (hs : a.size ≤ 1048576) (hs2 : b.size ≤ 1048576) :
    Calls Tryd.prog 3 #[.agg (scrA s cv tv gv), .string a, .string b] w fun e w' => e = .returned (.bool true) ∧ Below w.heap.size w w' := by
  have x0 := heap_alloc_new w (.cells (scrA s cv tv gv) 32)
  have kb : Below w.heap.size w (w.alloc (.cells (scrA s cv tv gv) 32)) := (Below.refl _ _).alloc (Nat.le_refl _) _
  have HP : Hid (∀ W, Below w.heap.size w W → Calls Tryd.prog 6 #[] W fun e w' => e = .returned (.bool true) ∧ Below W.heap.size W w') := fun W h => printed_any W (Grd.Tab.next hT h)
  have HVS : Hid (∀ W (t : ByteArray), Below w.heap.size w W → t.size ≤ 9223372036854775807 → Calls Tryd.prog 5 #[.string t] W fun e w' => e = .returned (.bool (Lib.validD t.data.toList)) ∧ Below W.heap.size W w') := fun W t h ht => valid_any t W ht (vtabs_next hU h)
  have HX0b : Hid _ := x0
  have HKB : Hid _ := kb
  clear x0 kb hT hV hF hU
  go_enter Tryd.func3, Tryd.ntmps3
  go_wp2_with fail
  refine (HVS.out _ a HKB.out (by omega)).mono ?_
  rintro e U1 ⟨rfl, b1⟩
  rw [ha]
  have HBU1 : Hid (Below w.heap.size w U1) := HKB.out.trans (b1.mono HKB.out.size)
  have HXU1 : Hid (U1.heap[w.heap.size]? = _) := Grd.carry HX0b.out b1
  clear b1
  go_wp2_with fail
  refine (HVS.out _ b HBU1.out (by omega)).mono ?_
  rintro e U2 ⟨rfl, b2⟩
  rw [hb]
  have HBU2 : Hid (Below w.heap.size w U2) := HBU1.out.trans (b2.mono HBU1.out.size)
  have HXU2 : Hid (U2.heap[w.heap.size]? = _) := Grd.carry HXU1.out b2
  clear b2
  go_wp2_with fail
  refine (HP.out _ HBU2.out).mono ?_
  rintro e V ⟨rfl, bp⟩
  have HBV : Hid (Below w.heap.size w V) := HBU2.out.trans (bp.mono HBU2.out.size)
  go_wp2_with fail
  go_ret
  exact ⟨rfl, HBV.out⟩
set_option linter.unusedVariables false in
set_option maxHeartbeats 8000000 in
set_option maxRecDepth 100000 in
theorem row_long (s : Scr) (cv tv gv : Value) (a b : ByteArray) (w : World) (hT : Txt.Tab w) (hU : VTabs w) (hV : ScrV w s cv tv gv) (hF : Fits s) (ha : Lib.validD a.data.toList = true) (hb : Lib.validD b.data.toList = true) (hs : a.size ≤ 1048576) (hs2 : b.size ≤ 1048576) (hl : 4000 < a.size + b.size) :
    Calls Tryd.prog 3 #[.agg (scrA s cv tv gv), .string a, .string b] w fun e w' => e = .returned (.bool true) ∧ Below w.heap.size w w' := by
  have x0 := heap_alloc_new w (.cells (scrA s cv tv gv) 32)
  have kb : Below w.heap.size w (w.alloc (.cells (scrA s cv tv gv) 32)) := (Below.refl _ _).alloc (Nat.le_refl _) _
  have HP : Hid (∀ W, Below w.heap.size w W → Calls Tryd.prog 6 #[] W fun e w' => e = .returned (.bool true) ∧ Below W.heap.size W w') := fun W h => printed_any W (Grd.Tab.next hT h)
  have HVS : Hid (∀ W (t : ByteArray), Below w.heap.size w W → t.size ≤ 9223372036854775807 → Calls Tryd.prog 5 #[.string t] W fun e w' => e = .returned (.bool (Lib.validD t.data.toList)) ∧ Below W.heap.size W w') := fun W t h ht => valid_any t W ht (vtabs_next hU h)
  have hlt : (4000 : Int) < (a.size : Int) + (b.size : Int) := by omega
  have HX0b : Hid _ := x0
  have HKB : Hid _ := kb
  clear x0 kb hT hV hF hU
  go_enter Tryd.func3, Tryd.ntmps3
  go_wp2_with fail
  refine (HVS.out _ a HKB.out (by omega)).mono ?_
  rintro e U1 ⟨rfl, b1⟩
  rw [ha]
  have HBU1 : Hid (Below w.heap.size w U1) := HKB.out.trans (b1.mono HKB.out.size)
  have HXU1 : Hid (U1.heap[w.heap.size]? = _) := Grd.carry HX0b.out b1
  clear b1
  go_wp2_with fail
  refine (HVS.out _ b HBU1.out (by omega)).mono ?_
  rintro e U2 ⟨rfl, b2⟩
  rw [hb]
  have HBU2 : Hid (Below w.heap.size w U2) := HBU1.out.trans (b2.mono HBU1.out.size)
  have HXU2 : Hid (U2.heap[w.heap.size]? = _) := Grd.carry HXU1.out b2
  clear b2
  go_wp2_with fail
  refine (HP.out _ HBU2.out).mono ?_
  rintro e V ⟨rfl, bp⟩
  have HBV : Hid (Below w.heap.size w V) := HBU2.out.trans (bp.mono HBU2.out.size)
  go_wp2_with fail
  go_ret
  exact ⟨rfl, HBV.out⟩
set_option linter.unusedVariables false in
set_option maxHeartbeats 8000000 in
set_option maxRecDepth 100000 in
theorem row_bad (s : Scr) (cv tv gv : Value) (a b : ByteArray) (w : World) (hT : Txt.Tab w) (hU : VTabs w) (hV : ScrV w s cv tv gv) (hF : Fits s) (ha : Lib.validD a.data.toList = true) (hb : Lib.validD b.data.toList = true) (hs : a.size ≤ 1048576) (hs2 : b.size ≤ 1048576) (hl : a.size + b.size ≤ 4000) (hz : scrErr s ≠ 0) :
    Calls Tryd.prog 3 #[.agg (scrA s cv tv gv), .string a, .string b] w fun e w' => e = .returned (.bool true) ∧ Below w.heap.size w w' := by
  have x0 := heap_alloc_new w (.cells (scrA s cv tv gv) 32)
  have kb : Below w.heap.size w (w.alloc (.cells (scrA s cv tv gv) 32)) := (Below.refl _ _).alloc (Nat.le_refl _) _
  have HP : Hid (∀ W, Below w.heap.size w W → Calls Tryd.prog 6 #[] W fun e w' => e = .returned (.bool true) ∧ Below W.heap.size W w') := fun W h => printed_any W (Grd.Tab.next hT h)
  have HVS : Hid (∀ W (t : ByteArray), Below w.heap.size w W → t.size ≤ 9223372036854775807 → Calls Tryd.prog 5 #[.string t] W fun e w' => e = .returned (.bool (Lib.validD t.data.toList)) ∧ Below W.heap.size W w') := fun W t h ht => valid_any t W ht (vtabs_next hU h)
  have hlt : ¬ ((4000 : Int) < (a.size : Int) + (b.size : Int)) := by omega
  have HC1 : Hid (∀ W, Below w.heap.size w W → Calls Tryd.prog 7 #[.agg (scrA s cv tv gv), .string a] W (Made w W zScr (scrErr s))) := fun W h => ptext_bad (w0 := w) ⟨Grd.Tab.next hT h, hV, h, hF⟩ hz a (by omega)
  have hzb : (scrErr s != 0) = true := by simp [bne, hz]
  clear hz
  generalize scrErr s = er at *
  have HX0b : Hid _ := x0
  have HKB : Hid _ := kb
  clear x0 kb hT hV hF hU
  go_enter Tryd.func3, Tryd.ntmps3
  go_wp2_with fail
  refine (HVS.out _ a HKB.out (by omega)).mono ?_
  rintro e U1 ⟨rfl, b1⟩
  rw [ha]
  have HBU1 : Hid (Below w.heap.size w U1) := HKB.out.trans (b1.mono HKB.out.size)
  have HXU1 : Hid (U1.heap[w.heap.size]? = _) := Grd.carry HX0b.out b1
  clear b1
  go_wp2_with fail
  refine (HVS.out _ b HBU1.out (by omega)).mono ?_
  rintro e U2 ⟨rfl, b2⟩
  rw [hb]
  have HBU2 : Hid (Below w.heap.size w U2) := HBU1.out.trans (b2.mono HBU1.out.size)
  have HXU2 : Hid (U2.heap[w.heap.size]? = _) := Grd.carry HXU1.out b2
  clear b2
  go_wp2_with (refine wpList_load_row rfl 32 (.tmp 3) rfl w.heap.size rfl _ _ _ _ HXU2.out Tryd.underlying32 rfl (by kernel_rfl) ?_)
  refine (HC1.out _ HBU2.out).mono ?_
  rintro e V1 ⟨cv1, tv1, gv1, rfl, hO, b1⟩
  have hv1 := hO.scr
  obtain ⟨d11, m11, e11, d12, m12, e12, d13, m13, e13, rfl, rfl, rfl⟩ := hO.shapes
  have HB1 : Hid (Below w.heap.size w V1) := HBU2.out.trans (b1.mono HBU2.out.size)
  have HX1 : Hid (V1.heap[w.heap.size]? = _) := Grd.carry HXU2.out b1
  obtain ⟨k1, k2, k3, k4⟩ := kept_g (A := (scrA zScr (.slice d11 m11 e11) (.slice d12 m12 e12) (.slice d13 m13 e13))) HB1.out
  have HM1 : Hid _ := k1
  have HN1 : Hid _ := k3
  have HL1 : Hid _ := k4
  have HK1 : Hid _ := b1.trans (k2.mono b1.size)
  have HX1b : Hid _ := Grd.carry HX1.out k2
  have HV1 : Hid (ScrV _ zScr _ _ _) := hv1.next k2
  clear hO b1 k1 k2 k3 k4 hv1 HX1
  go_upto_region 4 with (refine wpList_store_row rfl 32 (.tmp 7) _ rfl V1.heap.size (scrA zScr (.slice d11 m11 e11) (.slice d12 m12 e12) (.slice d13 m13 e13)) rfl rfl _ _ HL1.out (by kernel_rfl) rfl (scr_one _ _ _ _ _ _ _ _ _ _) ?_)
  clear HL1 HB1
  generalize ((V1.alloc (.cells #[.int .i64 0, .int .i64 0, .slice none 0 0, .int .i64 0, .int .i64 0, .bool false, .int .i64 0, .int .i64 0, .int .i64 0, .int .i64 0, .int .i64 0, .int .i64 0, .slice none 0 0, .int .i64 0, .int .i64 0, .int .i64 0, .int .i64 0, .int .i64 0, .int .i64 0, .int .i32 0, .string ⟨#[]⟩, .slice none 0 0] 32)).setRow V1.heap.size (scrA zScr (.slice d11 m11 e11) (.slice d12 m12 e12) (.slice d13 m13 e13))) = X1 at *
  go_wp2_with fail
  refine (HP.out _ HN1.out).mono ?_
  rintro e Y ⟨rfl, bp⟩
  have HBY : Hid (Below w.heap.size w Y) := HN1.out.trans (bp.mono HN1.out.size)
  clear bp
  go_wp2_with fail
  refine (HP.out _ HBY.out).mono ?_
  rintro e V ⟨rfl, bp⟩
  have HBV : Hid (Below w.heap.size w V) := HBY.out.trans (bp.mono HBY.out.size)
  go_wp2_with fail
  go_ret
  exact ⟨rfl, HBV.out⟩
set_option linter.unusedVariables false in
set_option maxHeartbeats 8000000 in
set_option maxRecDepth 100000 in
theorem row_good (s : Scr) (cv tv gv : Value) (a b : ByteArray) (w : World) (hT : Txt.Tab w) (hU : VTabs w) (hV : ScrV w s cv tv gv) (hF : Fits s) (ha : Lib.validD a.data.toList = true) (hb : Lib.validD b.data.toList = true) (hs : a.size ≤ 1048576) (hs2 : b.size ≤ 1048576) (hl : a.size + b.size ≤ 4000) (n hh : Nat) (hR : RightS s n hh) :
    Calls Tryd.prog 3 #[.agg (scrA s cv tv gv), .string a, .string b] w fun e w' => e = .returned (.bool true) ∧ Below w.heap.size w w' := by
  have x0 := heap_alloc_new w (.cells (scrA s cv tv gv) 32)
  have kb : Below w.heap.size w (w.alloc (.cells (scrA s cv tv gv) 32)) := (Below.refl _ _).alloc (Nat.le_refl _) _
  have HP : Hid (∀ W, Below w.heap.size w W → Calls Tryd.prog 6 #[] W fun e w' => e = .returned (.bool true) ∧ Below W.heap.size W w') := fun W h => printed_any W (Grd.Tab.next hT h)
  have HVS : Hid (∀ W (t : ByteArray), Below w.heap.size w W → t.size ≤ 9223372036854775807 → Calls Tryd.prog 5 #[.string t] W fun e w' => e = .returned (.bool (Lib.validD t.data.toList)) ∧ Below W.heap.size W w') := fun W t h ht => valid_any t W ht (vtabs_next hU h)
  have hlt : ¬ ((4000 : Int) < (a.size : Int) + (b.size : Int)) := by omega
  have hab : (a ++ b).size ≤ 4000 := by rw [ByteArray.size_append]; exact hl
  have hrow := textS_row hR a b ha
  have HC1 : Hid (∀ W, Below w.heap.size w W → Calls Tryd.prog 7 #[.agg (scrA s cv tv gv), .string a] W (Made w W (textS n hh a s) 0)) := fun W h => ptext_good (w0 := w) ⟨Grd.Tab.next hT h, hV, h, hF⟩ hR a (by omega)
  have HC3 : Hid (∀ W, Below w.heap.size w W → Calls Tryd.prog 7 #[.agg (scrA s cv tv gv), .string (a ++ b)] W (Made w W (textS n hh (a ++ b) s) 0)) := fun W h => ptext_good (w0 := w) ⟨Grd.Tab.next hT h, hV, h, hF⟩ hR (a ++ b) hab
  rw [← hrow] at HC3
  have hR1 := textS_right hR a
  have hF1 := fits_text hR1 (by rw [textS_title]; exact hF.tl)
  have hR2 := textS_right hR1 b
  have HSM : Hid (Small (textS n hh b (textS n hh a s))) := smallOf hR2
  generalize textS n hh a s = s1 at *
  have HC2 : Hid (∀ W cv' tv' gv', Below w.heap.size w W → ScrV W s1 cv' tv' gv' → Calls Tryd.prog 7 #[.agg (scrA s1 cv' tv' gv'), .string b] W (Made W W (textS n hh b s1) 0)) := fun W cv' tv' gv' h hv => ptext_good (w0 := W) ⟨Grd.Tab.next hT h, hv, Below.refl _ _, hF1⟩ hR1 b (by omega)
  generalize textS n hh b s1 = s2 at *
  clear hrow hR1 hF1 hR2 hR hab
  have HX0b : Hid _ := x0
  have HKB : Hid _ := kb
  clear x0 kb hT hV hF hU
  go_enter Tryd.func3, Tryd.ntmps3
  go_wp2_with fail
  refine (HVS.out _ a HKB.out (by omega)).mono ?_
  rintro e U1 ⟨rfl, b1⟩
  rw [ha]
  have HBU1 : Hid (Below w.heap.size w U1) := HKB.out.trans (b1.mono HKB.out.size)
  have HXU1 : Hid (U1.heap[w.heap.size]? = _) := Grd.carry HX0b.out b1
  clear b1
  go_wp2_with fail
  refine (HVS.out _ b HBU1.out (by omega)).mono ?_
  rintro e U2 ⟨rfl, b2⟩
  rw [hb]
  have HBU2 : Hid (Below w.heap.size w U2) := HBU1.out.trans (b2.mono HBU1.out.size)
  have HXU2 : Hid (U2.heap[w.heap.size]? = _) := Grd.carry HXU1.out b2
  clear b2
  go_wp2_with (refine wpList_load_row rfl 32 (.tmp 3) rfl w.heap.size rfl _ _ _ _ HXU2.out Tryd.underlying32 rfl (by kernel_rfl) ?_)
  refine (HC1.out _ HBU2.out).mono ?_
  rintro e V1 ⟨cv1, tv1, gv1, rfl, hO, b1⟩
  have hv1 := hO.scr
  obtain ⟨d11, m11, e11, d12, m12, e12, d13, m13, e13, rfl, rfl, rfl⟩ := hO.shapes
  have HB1 : Hid (Below w.heap.size w V1) := HBU2.out.trans (b1.mono HBU2.out.size)
  have HX1 : Hid (V1.heap[w.heap.size]? = _) := Grd.carry HXU2.out b1
  obtain ⟨k1, k2, k3, k4⟩ := kept_g (A := (scrA s1 (.slice d11 m11 e11) (.slice d12 m12 e12) (.slice d13 m13 e13))) HB1.out
  have HM1 : Hid _ := k1
  have HN1 : Hid _ := k3
  have HL1 : Hid _ := k4
  have HK1 : Hid _ := b1.trans (k2.mono b1.size)
  have HX1b : Hid _ := Grd.carry HX1.out k2
  have HV1 : Hid (ScrV _ s1 _ _ _) := hv1.next k2
  clear hO b1 k1 k2 k3 k4 hv1 HX1
  go_upto_region 4 with (refine wpList_store_row rfl 32 (.tmp 7) _ rfl V1.heap.size (scrA s1 (.slice d11 m11 e11) (.slice d12 m12 e12) (.slice d13 m13 e13)) rfl rfl _ _ HL1.out (by kernel_rfl) rfl (scr_one _ _ _ _ _ _ _ _ _ _) ?_)
  clear HL1 HB1
  generalize ((V1.alloc (.cells #[.int .i64 0, .int .i64 0, .slice none 0 0, .int .i64 0, .int .i64 0, .bool false, .int .i64 0, .int .i64 0, .int .i64 0, .int .i64 0, .int .i64 0, .int .i64 0, .slice none 0 0, .int .i64 0, .int .i64 0, .int .i64 0, .int .i64 0, .int .i64 0, .int .i64 0, .int .i32 0, .string ⟨#[]⟩, .slice none 0 0] 32)).setRow V1.heap.size (scrA s1 (.slice d11 m11 e11) (.slice d12 m12 e12) (.slice d13 m13 e13))) = X1 at *
  go_wp2_with fail
  refine (HP.out _ HN1.out).mono ?_
  rintro e Y ⟨rfl, bp⟩
  have HBY : Hid (Below w.heap.size w Y) := HN1.out.trans (bp.mono HN1.out.size)
  have HVY : Hid (ScrV Y s1 _ _ _) := HV1.out.next bp
  have HMY : Hid (Y.heap[V1.heap.size]? = _) := Grd.carry HM1.out bp
  have HXY : Hid (Y.heap[w.heap.size]? = _) := Grd.carry HX1b.out bp
  clear bp HV1 HM1 HX1b HN1 HK1 HBU1 HXU1 HXU2 HBU2 HP HVS
  go_wp2_with (refine wpList_load_row rfl 32 (.tmp 7) rfl V1.heap.size rfl _ _ _ _ HMY.out Tryd.underlying32 rfl (by kernel_rfl) ?_)
  refine (HC2.out Y _ _ _ HBY.out HVY.out).mono ?_
  rintro e V2 ⟨cv2, tv2, gv2, rfl, hO, b1⟩
  have hv2 := hO.scr
  obtain ⟨d21, m21, e21, d22, m22, e22, d23, m23, e23, rfl, rfl, rfl⟩ := hO.shapes
  have HB2 : Hid (Below w.heap.size w V2) := HBY.out.trans (b1.mono HBY.out.size)
  have HX2 : Hid (V2.heap[w.heap.size]? = _) := Grd.carry HXY.out b1
  obtain ⟨k1, k2, k3, k4⟩ := kept_g (A := (scrA s2 (.slice d21 m21 e21) (.slice d22 m22 e22) (.slice d23 m23 e23))) HB2.out
  have HM2 : Hid _ := k1
  have HN2 : Hid _ := k3
  have HL2 : Hid _ := k4
  have HK2 : Hid _ := b1.trans (k2.mono b1.size)
  have HX2b : Hid _ := Grd.carry HX2.out k2
  have HV2 : Hid (ScrV _ s2 _ _ _) := hv2.next k2
  clear hO b1 k1 k2 k3 k4 hv2 HX2
  go_upto_region 7 with (refine wpList_store_row rfl 32 (.tmp 9) _ rfl V2.heap.size (scrA s2 (.slice d21 m21 e21) (.slice d22 m22 e22) (.slice d23 m23 e23)) rfl rfl _ _ HL2.out (by kernel_rfl) rfl (scr_one _ _ _ _ _ _ _ _ _ _) ?_)
  clear HL2 HB2
  generalize ((V2.alloc (.cells #[.int .i64 0, .int .i64 0, .slice none 0 0, .int .i64 0, .int .i64 0, .bool false, .int .i64 0, .int .i64 0, .int .i64 0, .int .i64 0, .int .i64 0, .int .i64 0, .slice none 0 0, .int .i64 0, .int .i64 0, .int .i64 0, .int .i64 0, .int .i64 0, .int .i64 0, .int .i32 0, .string ⟨#[]⟩, .slice none 0 0] 32)).setRow V2.heap.size (scrA s2 (.slice d21 m21 e21) (.slice d22 m22 e22) (.slice d23 m23 e23))) = X2 at *
  clear HVY HMY HBY HXY HK2 HC1 HC2
  go_wp2_with (refine wpList_load_row rfl 32 (.tmp 3) rfl w.heap.size rfl _ _ _ _ HX2b.out Tryd.underlying32 rfl (by kernel_rfl) ?_)
  refine (HC3.out _ HN2.out).mono ?_
  rintro e V3 ⟨cv3, tv3, gv3, rfl, hO, b1⟩
  have hv3 := hO.scr
  obtain ⟨d31, m31, e31, d32, m32, e32, d33, m33, e33, rfl, rfl, rfl⟩ := hO.shapes
  have HB3 : Hid (Below w.heap.size w V3) := HN2.out.trans (b1.mono HN2.out.size)
  have HX3 : Hid (V3.heap[w.heap.size]? = _) := Grd.carry HX2b.out b1
  obtain ⟨k1, k2, k3, k4⟩ := kept_g (A := (scrA s2 (.slice d31 m31 e31) (.slice d32 m32 e32) (.slice d33 m33 e33))) HB3.out
  have HM3 : Hid _ := k1
  have HN3 : Hid _ := k3
  have HL3 : Hid _ := k4
  have HK3 : Hid _ := b1.trans (k2.mono b1.size)
  have HX3b : Hid _ := Grd.carry HX3.out k2
  have HV3 : Hid (ScrV _ s2 _ _ _) := hv3.next k2
  clear hO b1 k1 k2 k3 k4 hv3 HX3
  go_upto_region 8 with (refine wpList_store_row rfl 32 (.tmp 10) _ rfl V3.heap.size (scrA s2 (.slice d31 m31 e31) (.slice d32 m32 e32) (.slice d33 m33 e33)) rfl rfl _ _ HL3.out (by kernel_rfl) rfl (scr_one _ _ _ _ _ _ _ _ _ _) ?_)
  clear HL3 HB3
  generalize ((V3.alloc (.cells #[.int .i64 0, .int .i64 0, .slice none 0 0, .int .i64 0, .int .i64 0, .bool false, .int .i64 0, .int .i64 0, .int .i64 0, .int .i64 0, .int .i64 0, .int .i64 0, .slice none 0 0, .int .i64 0, .int .i64 0, .int .i64 0, .int .i64 0, .int .i64 0, .int .i64 0, .int .i32 0, .string ⟨#[]⟩, .slice none 0 0] 32)).setRow V3.heap.size (scrA s2 (.slice d31 m31 e31) (.slice d32 m32 e32) (.slice d33 m33 e33))) = X3 at *
  have HQ : Hid (ScrV X3 s2 _ _ _) := HV2.out.next HK3.out
  have HR : Hid (X3.heap[V2.heap.size]? = _) := Grd.carry HM2.out HK3.out
  clear HV2 HM2 HN2 HX2b HX3b HK3 HC3
  go_wp2_with (first
    | (refine BigFrame.wpList_want rfl fun K hK => wp_load_row 32 (.tmp 9) rfl V2.heap.size rfl _ _ _ _ HR.out Tryd.underlying32 rfl (by kernel_rfl) (hK _ _ ?_))
    | (refine BigFrame.wpList_want rfl fun K hK => wp_load_row 32 (.tmp 10) rfl V3.heap.size rfl _ _ _ _ HM3.out Tryd.underlying32 rfl (by kernel_rfl) (hK _ _ ?_)))
  refine (sameScreen_any s2 _ _ _ _ _ _ X3 HQ.out HV3.out HSM.out).mono ?_
  rintro e V6 ⟨rfl, b6⟩
  have HBV6 : Hid (Below w.heap.size w V6) := HN3.out.trans (b6.mono HN3.out.size)
  clear b6
  go_wp2_with fail
  go_ret
  exact ⟨rfl, HBV6.out⟩
theorem putRow_walk (s : Scr) (cv tv gv : Value) (a b : ByteArray) (w : World) (hT : Txt.Tab w) (hU : VTabs w) (hV : ScrV w s cv tv gv) (hF : Fits s) (hs : a.size ≤ 1048576) (hs2 : b.size ≤ 1048576) :
    Calls Tryd.prog 3 #[.agg (scrA s cv tv gv), .string a, .string b] w fun e w' => e = .returned (.bool true) ∧ Below w.heap.size w w' := by
  cases ha : Lib.validD a.data.toList with
  | false => exact row_a s cv tv gv a b w hT hU hV hF ha hs
  | true =>
    cases hb : Lib.validD b.data.toList with
    | false => exact row_b s cv tv gv a b w hT hU hV hF ha hb hs hs2
    | true =>
      by_cases hl : a.size + b.size ≤ 4000
      · by_cases hz : scrErr s = 0
        · obtain ⟨n, hh, hR⟩ := right_of s hz
          exact row_good s cv tv gv a b w hT hU hV hF ha hb hs hs2 hl n hh hR
        · exact row_bad s cv tv gv a b w hT hU hV hF ha hb hs hs2 hl hz
      · exact row_long s cv tv gv a b w hT hU hV hF ha hb hs hs2 (by omega)
end Put
end Go.Proofs.YtmeeojgjboppoaaDoor

/- trellislaw.ownScreen, noScreen. -/
namespace Go.Proofs.YtmeeojgjboppoaaDoor
open Go.ChangeShapes Go.WideShapes Go.ChangeAt Go.RowKit
namespace Put
open Grd (C SliceAt CellsAt gridErr z0 nilV)
/-- A screen that a machine holds. -/
structure Bulk (s : Scr) : Prop where
  f : Fits s
  c : s.cs.length ≤ 1048576
  r : ∀ row, row ∈ s.gone → row.length ≤ 1048576
theorem Bulk.small {s : Scr} (h : Bulk s) : Small s := ⟨by have := h.c; omega, by have := h.f.bl; omega, by have := h.f.gl; omega, fun row hr => by have := h.r row hr; omega⟩
theorem Bulk.row {s : Scr} (h : Bulk s) (k : Nat) (hk : k < s.gone.length) : (s.gone.getD k []).length ≤ 1048576 := by
  have e : s.gone.getD k [] = s.gone[k] := by simp [List.getD, hk]
  rw [e]
  exact h.r _ (List.getElem_mem hk)
theorem cloneCells_any (v : Value) (N : Nat) (row : List C) (w : World) (h : SliceAt w v row) (hbig : row.length ≤ 1048576) :
    Calls Tryd.prog 59 #[v] w fun e w' => ∃ a c, e = .returned (.slice a row.length c) ∧ RowIn w' N (.slice a row.length c) row ∧ Below w.heap.size w w' := by
  rcases h with ⟨rfl, a, c, rfl⟩ | ⟨hr, b, o, c, rfl, h1, h2, h3⟩
  · refine (Grd.clone_empty a c w).mono ?_
    rintro e W ⟨a', c', rfl, hb⟩
    exact ⟨a', c', rfl, .inl ⟨rfl, a', c', rfl⟩, hb⟩
  · refine (Grd.clone_row b o c row w h3 (by omega)).mono ?_
    rintro e W ⟨v', g, rfl, hg, hR, hb⟩
    obtain ⟨a', c', hv⟩ := (rowIn_rowB (N := N) hR).shape
    subst hv
    exact ⟨a', c', rfl, rowIn_rowB hR, hb⟩
theorem Kept.grown {W W' : World} {N base : Nat} {v : Value} {n : Nat} {xs : List Value} (ho : W.ownsRow base 22 1 v n xs) (hb : N ≤ base) (hg : W.grownBy W' v.ownBlock) : Kept N W W' := fun k hk hS => hg.block k hk fun e => by
  obtain ⟨h1, A, f, hA⟩ := owns_block ho k e.symm
  rcases hS with hS | ⟨B, f', hS⟩
  · omega
  · rw [hA] at hS
    injection hS with hS
    injection hS with _ hS _
    exact absurd hS (by decide)
theorem own_grown {W W' : World} {N base : Nat} {e : TypeId} {u v : Value} {n m : Nat} {xs ys : List Value} (h : W.ownsRow N e 1 u m ys) (ho : W.ownsRow base 22 1 v n xs) (he : 22 ≠ e) (hg : W.grownBy W' v.ownBlock) : W'.ownsRow N e 1 u m ys :=
  owns_kept h fun k hk => by
    obtain ⟨-, B, f', hB⟩ := owns_block h k hk
    refine hg.block k (heap_lt hB) fun e' => ?_
    obtain ⟨h1, A, f, hA⟩ := owns_block ho k e'.symm
    rw [hA] at hB
    injection hB with hB
    injection hB with _ hB _
    exact he hB
theorem RowsIn.snoc {W : World} {N : Nat} {vs : List Value} {rows : List (List C)} (h : RowsIn W N vs rows) {v : Value} {row : List C} (hr : RowIn W N v row) : RowsIn W N (vs ++ [v]) (rows ++ [row]) := by
  refine ⟨by simp [h.1], fun i hi => ?_⟩
  rw [List.length_append, List.length_singleton] at hi
  by_cases e : i < rows.length
  · rw [Grd.getD_snoc_lt _ _ _ _ e, Grd.getD_snoc_lt _ _ _ _ (by rw [h.1]; exact e)]
    exact h.2 i e
  · have e1 : i = rows.length := by omega
    have e2 : (vs ++ [v]).getD i nilV = v := by rw [e1, ← h.1]; exact Grd.getD_snoc_eq _ _ _
    rw [e2, e1, Grd.getD_snoc_eq]
    exact hr
theorem take_next {α : Type} (l : List α) (k : Nat) (d : α) (h : k < l.length) : l.take (k + 1) = l.take k ++ [l.getD k d] := by
  rw [List.take_succ_eq_append_getElem h]
  simp [List.getD, h]
end Put
end Go.Proofs.YtmeeojgjboppoaaDoor

/- put.New where there is no such size; the reference's NewScreen. -/
namespace Go.Proofs.YtmeeojgjboppoaaDoor
open Go.ChangeShapes Go.WideShapes Go.ChangeAt Go.RowKit
namespace Put
open Grd (C SliceAt CellsAt gridErr z0 nilV isSize OwnG flat)
set_option maxHeartbeats 4000000 in
set_option maxRecDepth 100000 in
theorem new_bad' (a h : Int) (w : World) (hs : isSize a h = false) : Calls Tryd.prog 9 #[.int .i64 a, .int .i64 h] w (Made w w zScr 3) := by
  have HN : Hid (∀ W, Calls Tryd.prog 23 #[.int .i64 a, .int .i64 h] W fun e w' => e = .returned (.tuple #[.agg #[.int .i64 0, .int .i64 0, .slice none 0 0], .int .i64 3]) ∧ Below W.heap.size W w') := fun W => Grd.new_bad a h W hs
  have hx0 := heap_alloc_new w (.cells #[.int .i64 0, .int .i64 0, .slice none 0 0, .int .i64 0, .int .i64 0, .bool false, .int .i64 0, .int .i64 0, .int .i64 0, .int .i64 0, .int .i64 0, .int .i64 0, .slice none 0 0, .int .i64 0, .int .i64 0, .int .i64 0, .int .i64 0, .int .i64 0, .int .i64 0, .int .i32 0, .string ⟨#[]⟩, .slice none 0 0] 32)
  have kb : Below w.heap.size w (w.alloc (.cells #[.int .i64 0, .int .i64 0, .slice none 0 0, .int .i64 0, .int .i64 0, .bool false, .int .i64 0, .int .i64 0, .int .i64 0, .int .i64 0, .int .i64 0, .int .i64 0, .slice none 0 0, .int .i64 0, .int .i64 0, .int .i64 0, .int .i64 0, .int .i64 0, .int .i64 0, .int .i32 0, .string ⟨#[]⟩, .slice none 0 0] 32)) := (Below.refl _ _).alloc (Nat.le_refl _) _
  have HX0 : Hid _ := hx0
  have HKB : Hid _ := kb
  clear hs hx0 kb
  go_enter Tryd.func9, Tryd.ntmps9
  go_wp2_with fail
  refine (HN.out _).mono ?_
  rintro e W1 ⟨rfl, b1⟩
  have hb1 : Below w.heap.size w W1 := HKB.out.trans (b1.mono HKB.out.size)
  have bg : Below W1.heap.size W1 (W1.alloc (.cells #[.int .i64 0, .int .i64 0, .slice none 0 0] 24)) := (Below.refl _ _).alloc (Nat.le_refl _) _
  have HX2 : Hid ((W1.alloc (.cells #[.int .i64 0, .int .i64 0, .slice none 0 0] 24)).heap[w.heap.size]? = _) := Grd.carry (Grd.carry HX0.out b1) bg
  have HB2 : Hid (Below w.heap.size w (W1.alloc (.cells #[.int .i64 0, .int .i64 0, .slice none 0 0] 24))) := hb1.trans (bg.mono hb1.size)
  clear b1 hb1 bg
  go_wp2_with (refine wpList_store_row rfl 32 (.tmp 4) (.tmp 18) rfl w.heap.size (scrA zScr (.slice none 0 0) (.slice none 0 0) (.slice none 0 0)) rfl rfl _ _ HX2.out (by kernel_rfl) rfl (scr_one zScr _ _ _ _ _ _ _ _ _) ?_)
  (try simp only [Exit.inBlock, Exit.then])
  refine bodyPost_ret (v := .tuple #[.agg (scrA zScr (.slice none 0 0) (.slice none 0 0) (.slice none 0 0)), .int .i64 3]) ?_ rfl ⟨_, _, _, rfl, zScr_own _ _ _, below_setRow HB2.out (Nat.le_refl _) _⟩
  exact Grd.results_row_tmp rfl _ _ w.heap.size _ _ _ _ rfl (setRow_heap _ _ _ _ _ _ HX2.out) Tryd.underlying32 rfl (by kernel_rfl) _ rfl
theorem newTabs_len (n : Nat) : (newTabs n).length = n := by simp [newTabs]
end Put
end Go.Proofs.YtmeeojgjboppoaaDoor

/- The reference's LineOf and LinesOf. -/
namespace Go.Proofs.YtmeeojgjboppoaaDoor
open Go.ChangeShapes Go.WideShapes Go.ChangeAt Go.RowKit Go.Maps
namespace Grd
open Txt (wd)
def bsG (l : List UInt8) : ByteArray := ⟨l.toArray⟩
theorem bsG_append (a b : List UInt8) : bsG a ++ bsG b = bsG (a ++ b) := by
  apply ByteArray.ext
  simp [bsG]
theorem bsG_size (l : List UInt8) : (bsG l).size = l.length := by simp [bsG, ByteArray.size]
theorem encode_eq (r : Int) : Utf8.encode r = bsG (Lib.encodeRune r) := by
  by_cases h1 : 0 ≤ r ∧ r ≤ 127
  · have hv : Utf8.valid r = true := by simp [Utf8.valid]; omega
    simp only [Utf8.encode, hv, if_true]
    rw [if_pos (by omega)]
    unfold Lib.encodeRune
    rw [Lib.encodeRuneZ_one h1.1 h1.2]
    rfl
  · by_cases h2 : 128 ≤ r ∧ r ≤ 2047
    · have hv : Utf8.valid r = true := by simp [Utf8.valid]; omega
      simp only [Utf8.encode, hv, if_true]
      rw [if_neg (by omega), if_pos (by omega)]
      unfold Lib.encodeRune
      rw [Lib.encodeRuneZ_two h2.1 h2.2, show 0xC0 + r.toNat / 64 = (192 + r / 64).toNat by omega, show 0x80 + r.toNat % 64 = (128 + r % 64).toNat by omega]
      rfl
    · by_cases h3 : (2048 ≤ r ∧ r < 55296) ∨ (57343 < r ∧ r ≤ 65535)
      · have hv : Utf8.valid r = true := by simp [Utf8.valid]; omega
        simp only [Utf8.encode, hv, if_true]
        rw [if_neg (by omega), if_neg (by omega), if_pos (by omega)]
        unfold Lib.encodeRune
        rw [Lib.encodeRuneZ_three h3, show 0xE0 + r.toNat / 4096 = (224 + r / 4096).toNat by omega, show 0x80 + r.toNat / 64 % 64 = (128 + r / 64 % 64).toNat by omega, show 0x80 + r.toNat % 64 = (128 + r % 64).toNat by omega]
        rfl
      · by_cases h4 : 65536 ≤ r ∧ r ≤ 1114111
        · have hv : Utf8.valid r = true := by simp [Utf8.valid]; omega
          simp only [Utf8.encode, hv, if_true]
          rw [if_neg (by omega), if_neg (by omega), if_neg (by omega)]
          unfold Lib.encodeRune
          rw [Lib.encodeRuneZ_four h4.1 h4.2, show 0xF0 + r.toNat / 262144 = (240 + r / 262144).toNat by omega, show 0x80 + r.toNat / 4096 % 64 = (128 + r / 4096 % 64).toNat by omega, show 0x80 + r.toNat / 64 % 64 = (128 + r / 64 % 64).toNat by omega, show 0x80 + r.toNat % 64 = (128 + r % 64).toNat by omega]
          rfl
        · have hv : Utf8.valid r = false := by simp [Utf8.valid]; omega
          unfold Lib.encodeRune
          rw [Lib.encodeRuneZ_bad (by omega)]
          simp only [Utf8.encode, hv, Utf8.runeError, Bool.false_eq_true, if_false]
          decide
set_option maxHeartbeats 4000000 in
theorem lineOf_any (b o c : Nat) (row : List C) (w : World) (hC : CellsAt w b o row) (hn : row.length ≤ 1000) (hin : ∀ j, j < row.length → 0 ≤ (row.getD j z0).1 ∧ (row.getD j z0).1 ≤ 1114111) :
    Calls Tryd.prog 12 #[.slice (some ⟨b, o, none⟩) row.length c] w fun e w' => e = .returned (.string (lineB row)) ∧ Below w.heap.size w w' := by
  have HC : Hid (CellsAt w b o row) := hC
  have HIN : Hid (∀ j, j < row.length → 0 ≤ (row.getD j z0).1 ∧ (row.getD j z0).1 ≤ 1114111) := hin
  clear hC hin
  generalize hl : row.length = L at *
  have HL : Hid (row.length = L) := hl
  clear hl
  go_enter Tryd.func12, Tryd.ntmps12
  go_wp2_with fail
  go_loopg [3, 8] L (fun q a i wr => ∃ (k : Nat) (acc : List UInt8), i = .int .i64 (k : Int) ∧ k ≤ L ∧ L - k ≤ q ∧ a = .string (bsG acc) ∧ acc = rowBytes (row.take k) ∧ acc.length ≤ 4 * k ∧ Below w.heap.size w wr)
  case atStart => exact ⟨0, [], rfl, by omega, by omega, rfl, rfl, by simp, Below.refl _ _⟩
  case round =>
    obtain ⟨k, acc, rfl, hk, hq, rfl, hacc, hal, hb⟩ := hrel
    have HACC : Hid (acc = rowBytes (row.take k)) := hacc
    clear hacc
    by_cases hlt : k < L
    · have lt1 : ((k : Int) < (L : Int)) := by omega
      have hrg := range_cell (HC.out.below hb) k (by rw [HL.out]; exact hlt)
      have hin := HIN.out k hlt
      have HNX : Hid (rowBytes (row.take (k + 1)) = rowBytes (row.take k) ++ (if (row.getD k z0).1 = 0 then [] else Lib.encodeRune (row.getD k z0).1)) := rowBytes_next _ k (by rw [HL.out]; exact hlt)
      rcases hce : row.getD k z0 with ⟨r, f, bk, x⟩
      rw [hce] at hrg hin HNX
      dsimp only at hin HNX
      have HRG : Hid (wr.rangeAt b (o + k * 4) (words (r, f, bk, x))) := hrg
      clear hrg hce
      have hl4 := encode_len r
      have HE : Hid (Utf8.encode r = bsG (Lib.encodeRune r)) := encode_eq r
      have hsum : ¬ 9223372036854775807 < (bsG acc).size + (Utf8.encode r).size := by rw [HE.out, bsG_size, bsG_size]; omega
      have kZ : Below wr.heap.size wr ((wr.alloc (.cells #[.int .i32 0, .int .i64 0, .int .i64 0, .int .i64 0] 53)).setRow wr.heap.size #[.int .i32 r, .int .i64 f, .int .i64 bk, .int .i64 x]) := below_setRow ((Below.refl _ _).alloc (Nat.le_refl _) _) (Nat.le_refl _) _
      by_cases hr0 : r = 0
      · have HN2 : Hid (acc = rowBytes (row.take (k + 1))) := by
          unfold Hid
          rw [HNX.out, if_pos hr0, List.append_nil]
          exact HACC.out
        have ne : ¬ 0 < r := by omega
        clear HNX HACC hin hr0
        go_wp2_with (first
          | (refine wpList_load_mid rfl 53 (.tmp 10) rfl b (o + k * 4) rfl (words (r, f, bk, x)) _ HRG.out Tryd.underlying53 rfl size_cell ?_)
          | (refine wpList_store_row rfl 53 (.tmp 5) _ rfl wr.heap.size #[.int .i32 r, .int .i64 f, .int .i64 bk, .int .i64 x] rfl rfl _ _ (heap_alloc_new wr _) size_cell rfl (words_one (r, f, bk, x)) ?_
             have hn0 := setRow_heap _ _ _ #[.int .i32 r, .int .i64 f, .int .i64 bk, .int .i64 x] _ _ (heap_alloc_new wr (.cells #[.int .i32 0, .int .i64 0, .int .i64 0, .int .i64 0] 53))
             generalize ((wr.alloc (.cells #[.int .i32 0, .int .i64 0, .int .i64 0, .int .i64 0] 53)).setRow wr.heap.size #[.int .i32 r, .int .i64 f, .int .i64 bk, .int .i64 x]) = Z at *
             obtain ⟨g0, g1, g2, g3⟩ := cells4 hn0))
        go_roundg (L - (k + 1))
        case measure => omega
        case rel => exact ⟨k + 1, acc, rfl, by omega, by omega, rfl, HN2.out, by omega, hb.trans (kZ.mono hb.size)⟩
      · have HN2 : Hid (acc ++ Lib.encodeRune r = rowBytes (row.take (k + 1))) := by
          unfold Hid
          rw [HNX.out, if_neg hr0, ← HACC.out]
        have ne : 0 < r := by omega
        clear HNX HACC hr0
        go_wp2_with (first
          | (refine wpList_load_mid rfl 53 (.tmp 10) rfl b (o + k * 4) rfl (words (r, f, bk, x)) _ HRG.out Tryd.underlying53 rfl size_cell ?_)
          | (refine wpList_store_row rfl 53 (.tmp 5) _ rfl wr.heap.size #[.int .i32 r, .int .i64 f, .int .i64 bk, .int .i64 x] rfl rfl _ _ (heap_alloc_new wr _) size_cell rfl (words_one (r, f, bk, x)) ?_
             have hn0 := setRow_heap _ _ _ #[.int .i32 r, .int .i64 f, .int .i64 bk, .int .i64 x] _ _ (heap_alloc_new wr (.cells #[.int .i32 0, .int .i64 0, .int .i64 0, .int .i64 0] 53))
             generalize ((wr.alloc (.cells #[.int .i32 0, .int .i64 0, .int .i64 0, .int .i64 0] 53)).setRow wr.heap.size #[.int .i32 r, .int .i64 f, .int .i64 bk, .int .i64 x]) = Z at *
             obtain ⟨g0, g1, g2, g3⟩ := cells4 hn0))
        go_roundg (L - (k + 1))
        case measure => omega
        case rel =>
          refine ⟨k + 1, acc ++ Lib.encodeRune r, rfl, by omega, by omega, ?_, HN2.out, by rw [List.length_append]; omega, hb.trans (kZ.mono hb.size)⟩
          rw [← bsG_append, ← HE.out]
    · have lt1 : ¬ ((k : Int) < (L : Int)) := by omega
      have HE : Hid (acc = rowBytes row) := by
        unfold Hid
        rw [HACC.out, List.take_of_length_le (by rw [HL.out]; omega)]
      have hTR : ∀ W, Calls Tryd.prog 28 #[.string (bsG acc), .string ⟨#[32]⟩] W fun e w' => e = .returned (.string ⟨(Lib.trimRightB acc 32).toArray⟩) ∧ W = w' := fun W => by
        have := Tryd.strings_TrimRight_one (bsG acc) 32 (by decide) W (by rw [bsG_size]; omega)
        exact this.mono fun e w' h => ⟨by simpa [bsG] using h.1, h.2.symm⟩
      go_wp2_with (go_at_call 28; refine (hTR _).mono ?_; rintro e W8 ⟨rfl, rfl⟩)
      go_ret
      exact ⟨by rw [HE.out]; rfl, hb⟩
end Grd
end Go.Proofs.YtmeeojgjboppoaaDoor

/- The law PutStands. -/
namespace Go.Proofs.YtmeeojgjboppoaaDoor
open Go.ChangeShapes Go.WideShapes Go.ChangeAt Go.RowKit
namespace Put
open Grd (C SliceAt CellsAt gridErr z0 nilV rowsL RowsAt RowB flat)
open Txt (wd bs)
theorem trim_snoc (a : List UInt8) (b : UInt8) : Lib.trimRightB (a ++ [b]) 32 = if b = 32 then Lib.trimRightB a 32 else a ++ [b] := by
  unfold Lib.trimRightB
  rw [List.reverse_append]
  by_cases h : b = 32
  · subst h
    rw [if_pos rfl]
    simp
  · rw [if_neg h]
    simp [h]
theorem rn_le : ∀ (k : Nat) (l : List UInt8), l.length ≤ k → (Txt.rn l).length ≤ l.length
  | 0, l, h => by
    have : l = [] := List.length_eq_zero_iff.1 (by omega)
    subst this
    simp [Txt.rn_nil]
  | k + 1, l, h => by
    by_cases hl : l = []
    · subst hl
      simp [Txt.rn_nil]
    · have hp := Txt.dec_pos l
      have h1 := Txt.length_pos_of_ne hl
      have ih := rn_le k (l.drop (Txt.dec l).2) (by rw [List.length_drop]; omega)
      rw [Txt.rn_cons l hl, List.length_cons]
      rw [List.length_drop] at ih
      omega
set_option maxHeartbeats 2000000 in
theorem trimmed_any (s : List UInt8) (w : World) (hs : s.length ≤ 1000000) :
    Calls Tryd.prog 13 #[.string (bs s)] w fun e w' => e = .returned (.string (bs (Lib.trimRightB s 32))) ∧ w = w' := by
  go_enter Tryd.func13, Tryd.ntmps13
  go_wp2_with fail
  go_loopg [0] (s.length + 1) (fun q a wr => ∃ l : List UInt8, a = .string (bs l) ∧ Lib.trimRightB l 32 = Lib.trimRightB s 32 ∧ l.length < q ∧ l.length ≤ 1000000 ∧ w = wr)
  case atStart => exact ⟨s, rfl, rfl, by omega, hs, rfl⟩
  case round =>
    obtain ⟨l, rfl, htr, hq, hl, rfl⟩ := hrel
    rcases List.eq_nil_or_concat l with rfl | ⟨a, b, rfl⟩
    · have h0 : ¬ (0 : Int) < ((bs []).size : Int) := by rw [Txt.bs_size]; simp
      have HT : Hid (Lib.trimRightB [] 32 = Lib.trimRightB s 32) := htr
      clear htr
      go_wp2_with fail
      go_ret
      exact ⟨by rw [← HT.out]; rfl, rfl⟩
    · rw [List.concat_eq_append] at *
      have hsz : (bs (a ++ [b])).size = a.length + 1 := by rw [Txt.bs_size, List.length_append]; rfl
      have hal : a.length ≤ 1000000 := by rw [List.length_append] at hl; simp at hl; omega
      have HQ : Hid (a.length < gk - 1 ∧ 0 < gk) := by rw [List.length_append] at hq; simp at hq; unfold Hid; omega
      have h0 : (0 : Int) < (a.length : Int) + 1 := by omega
      have hlt : a.length < (bs (a ++ [b])).size := by omega
      have hgt : (bs (a ++ [b]))[a.length]'hlt = b := by
        have h1 : (bs (a ++ [b])).data.toList[a.length]? = some b := by rw [Txt.bs_data]; simp
        rw [ByteArray.getElem_eq_getElem_data]
        have h2 : (bs (a ++ [b])).data[a.length]? = some b := by simpa using h1
        exact (Array.getElem?_eq_some_iff.1 h2).2
      have HX : Hid ((bs (a ++ [b])).extract 0 a.length = bs a) := by
        unfold Hid
        rw [Txt.extract_take, Txt.bs_data]
        simp [bs]
      have HT : Hid (Lib.trimRightB (a ++ [b]) 32 = Lib.trimRightB s 32) := htr
      have HB : Hid (b.toNat = 32 ↔ b = 32) := ⟨fun h => UInt8.toNat_inj.1 h, fun h => by rw [h]; rfl⟩
      clear htr hl hq
      by_cases hb : b = 32
      · have hbI : ((b.toNat : Int) == 32) = true := by rw [beq_iff_eq]; have := HB.out.2 hb; omega
        rw [trim_snoc, if_pos hb] at HT
        clear hb
        go_wp2_with fail
        go_roundg (gk - 1)
        case measure => have := HQ.out; omega
        case rel => exact ⟨a, by rw [HX.out], HT.out, HQ.out.1, by omega, rfl⟩
      · have hbI : ((b.toNat : Int) == 32) = false := by rw [beq_eq_false_iff_ne]; intro h; exact hb (HB.out.1 (by omega))
        rw [trim_snoc, if_neg hb] at HT
        clear hb
        go_wp2_with fail
        go_ret
        exact ⟨by rw [← HT.out]; rfl, rfl⟩
theorem runes_le (t : ByteArray) : (Txt.runes t).length ≤ t.size := by
  rw [Txt.runes_rn, Lib.size_eq]
  exact rn_le _ _ (Nat.le_refl _)
theorem enc_small (n : Nat) : ∀ (l : List (Int × Nat)), (∀ x ∈ l, Txt.okRune x.1 ∧ 0 < wd x.1) → Txt.wideL l ≤ n → n ≤ 120 → (Txt.enc l).length ≤ 4000 := fun l h hw hn => by
  have key : ∀ l : List (Int × Nat), (∀ x ∈ l, 0 < wd x.1) → ((Txt.enc l).length : Int) ≤ 4 * Txt.wideL l := by
    intro l
    induction l with
    | nil => intro _; simp [Txt.enc, Txt.wideL]
    | cons x t ih =>
      intro h
      have h1 := ih fun y hy => h y (by simp [hy])
      have h2 := h x (by simp)
      have h3 := (Txt.encodeRune_length x.1).2
      have e : (Txt.enc (x :: t)).length = (Lib.encodeRune x.1).length + (Txt.enc t).length := by
        show (Lib.encodeRune x.1 ++ Txt.enc t).length = _
        rw [List.length_append]
      rw [e]
      simp only [Txt.wideL]
      omega
  have := key l fun x hx => (h x hx).2
  omega
theorem looks1 {n : Nat} : looksOk (newScr n 1) = true := by
  have h : looksOk (newScr 1 1) = true := by decide +kernel
  exact h
theorem title0 : titleOk ⟨#[]⟩ = true := by decide +kernel
theorem newScr_right (n : Nat) (h1 : 1 ≤ n) (h2 : n ≤ 120) : RightS (newScr n 1) n 1 := by
  have hs : Grd.isSize n (1 : Nat) = true := by simp [Grd.isSize]; omega
  have hz : gridErr n (1 : Nat) (newScr n 1).cs = 0 := by
    refine (Grd.gridErr_zero n 1 _).2 ⟨hs, by simp [newScr], fun y hy => ?_⟩
    have e : Grd.rowAt n (newScr n 1).cs y = List.replicate n (32, 0, 0, 0) := by
      have : y = 0 := by omega
      subst this
      simp [Grd.rowAt, newScr]
    rw [e]
    exact roll_blank n 0 (by decide)
  exact ⟨rfl, rfl, h1, h2, by omega, by omega, by simp [newScr], hz, by show (0 : Int) ≤ 0; omega, by show (0 : Int) < n; omega, by show (0 : Int) ≤ 0; omega, by show (0 : Int) < ((1 : Nat) : Int); omega, by show (0 : Int) ≤ 0; omega, by show (0 : Int) < n; omega, by show (0 : Int) ≤ 0; omega, by show (0 : Int) < ((1 : Nat) : Int); omega, by show (0 : Int) ≤ 0; omega, by show (0 : Int) ≤ ((1 : Nat) : Int) - 1; omega, by show ((1 : Nat) : Int) - 1 < ((1 : Nat) : Int); omega, .inr rfl, late_no _ rfl, looks1, newTabs_len n, .inl rfl, title0, by simp [newScr], by simp [newScr]⟩
theorem cells_in {s : Scr} {n : Nat} (h : RightS s n 1) : ∀ j, j < s.cs.length → 0 ≤ (s.cs.getD j z0).1 ∧ (s.cs.getD j z0).1 ≤ 1114111 := fun j hj => by
  have hl := h.cl
  have hw := Grd.cellR_in n 1 s.cs h.gz 0 j (by omega) (by omega)
  have e : Grd.rowAt n s.cs 0 = s.cs := by
    unfold Grd.rowAt
    rw [Nat.zero_mul, List.drop_zero, List.take_of_length_le (by omega)]
  rw [e] at hw
  exact hw
set_option linter.unusedVariables false in
set_option maxHeartbeats 8000000 in
set_option maxRecDepth 100000 in
theorem stand_bad (a : Int) (t : ByteArray) (w : World) (hT : Txt.Tab w) (hU : VTabs w) (hs : Grd.isSize a 1 = false) :
    Calls Tryd.prog 4 #[.int .i64 a, .string t] w fun e w' => e = .returned (.bool true) ∧ Below w.heap.size w w' := by
  have HP : Hid (∀ W, Below w.heap.size w W → Calls Tryd.prog 6 #[] W fun e w' => e = .returned (.bool true) ∧ Below W.heap.size W w') := fun W h => printed_any W (Grd.Tab.next hT h)
  have HVS : Hid (∀ W (t : ByteArray), Below w.heap.size w W → t.size ≤ 9223372036854775807 → Calls Tryd.prog 5 #[.string t] W fun e w' => e = .returned (.bool (Lib.validD t.data.toList)) ∧ Below W.heap.size W w') := fun W t h ht => valid_any t W ht (vtabs_next hU h)
  have HNW := new_bad' a 1 w hs
  clear hs
  clear hT hU
  go_enter Tryd.func4, Tryd.ntmps4
  go_wp2_with fail
  refine HNW.mono ?_
  rintro e V1 ⟨cv1, tv1, gv1, rfl, hO, b1⟩
  have hv1 := hO.scr
  obtain ⟨d11, m11, e11, d12, m12, e12, d13, m13, e13, rfl, rfl, rfl⟩ := hO.shapes
  have HB1 : Hid (Below w.heap.size w V1) := (Below.refl w.heap.size w).trans (b1.mono (Below.refl w.heap.size w).size)
  obtain ⟨k1, k2, k3, k4⟩ := kept_g (A := (scrA zScr (.slice d11 m11 e11) (.slice d12 m12 e12) (.slice d13 m13 e13))) HB1.out
  have HM1 : Hid _ := k1
  have HN1 : Hid _ := k3
  have HL1 : Hid _ := k4
  have HV1 : Hid (ScrV _ zScr _ _ _) := hv1.next k2
  clear hO b1 k1 k2 k3 k4 hv1
  go_upto_region 2 with (refine wpList_store_row rfl 32 (.tmp 5) _ rfl V1.heap.size (scrA zScr (.slice d11 m11 e11) (.slice d12 m12 e12) (.slice d13 m13 e13)) rfl rfl _ _ HL1.out (by kernel_rfl) rfl (scr_one _ _ _ _ _ _ _ _ _ _) ?_)
  clear HL1 HB1
  generalize ((V1.alloc (.cells #[.int .i64 0, .int .i64 0, .slice none 0 0, .int .i64 0, .int .i64 0, .bool false, .int .i64 0, .int .i64 0, .int .i64 0, .int .i64 0, .int .i64 0, .int .i64 0, .slice none 0 0, .int .i64 0, .int .i64 0, .int .i64 0, .int .i64 0, .int .i64 0, .int .i64 0, .int .i32 0, .string ⟨#[]⟩, .slice none 0 0] 32)).setRow V1.heap.size (scrA zScr (.slice d11 m11 e11) (.slice d12 m12 e12) (.slice d13 m13 e13))) = X1 at *
  go_wp2_with fail
  refine (HP.out _ HN1.out).mono ?_
  rintro e Y ⟨rfl, bp⟩
  have HBY : Hid (Below w.heap.size w Y) := HN1.out.trans (bp.mono HN1.out.size)
  clear bp
  go_wp2_with fail
  refine (HP.out _ HBY.out).mono ?_
  rintro e V ⟨rfl, bp⟩
  have HBV : Hid (Below w.heap.size w V) := HBY.out.trans (bp.mono HBY.out.size)
  go_wp2_with fail
  go_ret
  exact ⟨rfl, HBV.out⟩
set_option linter.unusedVariables false in
set_option maxHeartbeats 8000000 in
set_option maxRecDepth 100000 in
theorem stand_wrong (n : Nat) (t : ByteArray) (w : World) (hT : Txt.Tab w) (hU : VTabs w) (hn1 : 1 ≤ n) (hn2 : n ≤ 120) (hs : t.size ≤ 9223372036854775807) (hv : Lib.validD t.data.toList = false) :
    Calls Tryd.prog 4 #[.int .i64 (n : Int), .string t] w fun e w' => e = .returned (.bool true) ∧ Below w.heap.size w w' := by
  have HP : Hid (∀ W, Below w.heap.size w W → Calls Tryd.prog 6 #[] W fun e w' => e = .returned (.bool true) ∧ Below W.heap.size W w') := fun W h => printed_any W (Grd.Tab.next hT h)
  have HVS : Hid (∀ W (t : ByteArray), Below w.heap.size w W → t.size ≤ 9223372036854775807 → Calls Tryd.prog 5 #[.string t] W fun e w' => e = .returned (.bool (Lib.validD t.data.toList)) ∧ Below W.heap.size W w') := fun W t h ht => valid_any t W ht (vtabs_next hU h)
  have HNW := new_good' n 1 w (by simp [Grd.isSize]; omega)
  replace HNW : Calls Tryd.prog 9 #[.int .i64 (n : Int), .int .i64 1] w (Made w w (newScr n 1) 0) := HNW
  generalize newScr n 1 = ns at *
  clear hT hU
  go_enter Tryd.func4, Tryd.ntmps4
  go_wp2_with fail
  refine HNW.mono ?_
  rintro e V1 ⟨cv1, tv1, gv1, rfl, hO, b1⟩
  have hv1 := hO.scr
  obtain ⟨d11, m11, e11, d12, m12, e12, d13, m13, e13, rfl, rfl, rfl⟩ := hO.shapes
  have HB1 : Hid (Below w.heap.size w V1) := (Below.refl w.heap.size w).trans (b1.mono (Below.refl w.heap.size w).size)
  obtain ⟨k1, k2, k3, k4⟩ := kept_g (A := (scrA ns (.slice d11 m11 e11) (.slice d12 m12 e12) (.slice d13 m13 e13))) HB1.out
  have HM1 : Hid _ := k1
  have HN1 : Hid _ := k3
  have HL1 : Hid _ := k4
  have HV1 : Hid (ScrV _ ns _ _ _) := hv1.next k2
  clear hO b1 k1 k2 k3 k4 hv1
  go_upto_region 2 with (refine wpList_store_row rfl 32 (.tmp 5) _ rfl V1.heap.size (scrA ns (.slice d11 m11 e11) (.slice d12 m12 e12) (.slice d13 m13 e13)) rfl rfl _ _ HL1.out (by kernel_rfl) rfl (scr_one _ _ _ _ _ _ _ _ _ _) ?_)
  clear HL1 HB1
  generalize ((V1.alloc (.cells #[.int .i64 0, .int .i64 0, .slice none 0 0, .int .i64 0, .int .i64 0, .bool false, .int .i64 0, .int .i64 0, .int .i64 0, .int .i64 0, .int .i64 0, .int .i64 0, .slice none 0 0, .int .i64 0, .int .i64 0, .int .i64 0, .int .i64 0, .int .i64 0, .int .i64 0, .int .i32 0, .string ⟨#[]⟩, .slice none 0 0] 32)).setRow V1.heap.size (scrA ns (.slice d11 m11 e11) (.slice d12 m12 e12) (.slice d13 m13 e13))) = X1 at *
  go_wp2_with fail
  refine (HP.out _ HN1.out).mono ?_
  rintro e Y ⟨rfl, bp⟩
  have HBY : Hid (Below w.heap.size w Y) := HN1.out.trans (bp.mono HN1.out.size)
  clear bp
  go_wp2_with fail
  refine (HVS.out _ t HBY.out (by omega)).mono ?_
  rintro e U ⟨rfl, bv⟩
  rw [hv]
  have HBU : Hid (Below w.heap.size w U) := HBY.out.trans (bv.mono HBY.out.size)
  clear bv
  go_wp2_with fail
  refine (HP.out _ HBU.out).mono ?_
  rintro e V ⟨rfl, bp⟩
  have HBV : Hid (Below w.heap.size w V) := HBU.out.trans (bp.mono HBU.out.size)
  go_wp2_with fail
  go_ret
  exact ⟨rfl, HBV.out⟩
set_option linter.unusedVariables false in
set_option maxHeartbeats 8000000 in
set_option maxRecDepth 100000 in
theorem stand_long (n : Nat) (t : ByteArray) (w : World) (hT : Txt.Tab w) (hU : VTabs w) (hn1 : 1 ≤ n) (hn2 : n ≤ 120) (hs : t.size ≤ 9223372036854775807) (hv : Lib.validD t.data.toList = true) (hl : 4000 < t.size) :
    Calls Tryd.prog 4 #[.int .i64 (n : Int), .string t] w fun e w' => e = .returned (.bool true) ∧ Below w.heap.size w w' := by
  have HP : Hid (∀ W, Below w.heap.size w W → Calls Tryd.prog 6 #[] W fun e w' => e = .returned (.bool true) ∧ Below W.heap.size W w') := fun W h => printed_any W (Grd.Tab.next hT h)
  have HVS : Hid (∀ W (t : ByteArray), Below w.heap.size w W → t.size ≤ 9223372036854775807 → Calls Tryd.prog 5 #[.string t] W fun e w' => e = .returned (.bool (Lib.validD t.data.toList)) ∧ Below W.heap.size W w') := fun W t h ht => valid_any t W ht (vtabs_next hU h)
  have HNW := new_good' n 1 w (by simp [Grd.isSize]; omega)
  replace HNW : Calls Tryd.prog 9 #[.int .i64 (n : Int), .int .i64 1] w (Made w w (newScr n 1) 0) := HNW
  generalize newScr n 1 = ns at *
  have hlt : (4000 : Int) < (t.size : Int) := by omega
  clear hT hU
  go_enter Tryd.func4, Tryd.ntmps4
  go_wp2_with fail
  refine HNW.mono ?_
  rintro e V1 ⟨cv1, tv1, gv1, rfl, hO, b1⟩
  have hv1 := hO.scr
  obtain ⟨d11, m11, e11, d12, m12, e12, d13, m13, e13, rfl, rfl, rfl⟩ := hO.shapes
  have HB1 : Hid (Below w.heap.size w V1) := (Below.refl w.heap.size w).trans (b1.mono (Below.refl w.heap.size w).size)
  obtain ⟨k1, k2, k3, k4⟩ := kept_g (A := (scrA ns (.slice d11 m11 e11) (.slice d12 m12 e12) (.slice d13 m13 e13))) HB1.out
  have HM1 : Hid _ := k1
  have HN1 : Hid _ := k3
  have HL1 : Hid _ := k4
  have HV1 : Hid (ScrV _ ns _ _ _) := hv1.next k2
  clear hO b1 k1 k2 k3 k4 hv1
  go_upto_region 2 with (refine wpList_store_row rfl 32 (.tmp 5) _ rfl V1.heap.size (scrA ns (.slice d11 m11 e11) (.slice d12 m12 e12) (.slice d13 m13 e13)) rfl rfl _ _ HL1.out (by kernel_rfl) rfl (scr_one _ _ _ _ _ _ _ _ _ _) ?_)
  clear HL1 HB1
  generalize ((V1.alloc (.cells #[.int .i64 0, .int .i64 0, .slice none 0 0, .int .i64 0, .int .i64 0, .bool false, .int .i64 0, .int .i64 0, .int .i64 0, .int .i64 0, .int .i64 0, .int .i64 0, .slice none 0 0, .int .i64 0, .int .i64 0, .int .i64 0, .int .i64 0, .int .i64 0, .int .i64 0, .int .i32 0, .string ⟨#[]⟩, .slice none 0 0] 32)).setRow V1.heap.size (scrA ns (.slice d11 m11 e11) (.slice d12 m12 e12) (.slice d13 m13 e13))) = X1 at *
  go_wp2_with fail
  refine (HP.out _ HN1.out).mono ?_
  rintro e Y ⟨rfl, bp⟩
  have HBY : Hid (Below w.heap.size w Y) := HN1.out.trans (bp.mono HN1.out.size)
  clear bp
  go_wp2_with fail
  refine (HVS.out _ t HBY.out (by omega)).mono ?_
  rintro e U ⟨rfl, bv⟩
  rw [hv]
  have HBU : Hid (Below w.heap.size w U) := HBY.out.trans (bv.mono HBY.out.size)
  clear bv
  go_wp2_with fail
  refine (HP.out _ HBU.out).mono ?_
  rintro e V ⟨rfl, bp⟩
  have HBV : Hid (Below w.heap.size w V) := HBU.out.trans (bp.mono HBU.out.size)
  go_wp2_with fail
  go_ret
  exact ⟨rfl, HBV.out⟩
set_option linter.unusedVariables false in
set_option maxHeartbeats 8000000 in
set_option maxRecDepth 100000 in
theorem stand_one (n : Nat) (t : ByteArray) (w : World) (hT : Txt.Tab w) (hU : VTabs w) (hn1 : 1 ≤ n) (hn2 : n ≤ 120) (hs : t.size ≤ 9223372036854775807) (hv : Lib.validD t.data.toList = true) (hl : t.size ≤ 4000) (h1 : n < 2) :
    Calls Tryd.prog 4 #[.int .i64 (n : Int), .string t] w fun e w' => e = .returned (.bool true) ∧ Below w.heap.size w w' := by
  have HP : Hid (∀ W, Below w.heap.size w W → Calls Tryd.prog 6 #[] W fun e w' => e = .returned (.bool true) ∧ Below W.heap.size W w') := fun W h => printed_any W (Grd.Tab.next hT h)
  have HVS : Hid (∀ W (t : ByteArray), Below w.heap.size w W → t.size ≤ 9223372036854775807 → Calls Tryd.prog 5 #[.string t] W fun e w' => e = .returned (.bool (Lib.validD t.data.toList)) ∧ Below W.heap.size W w') := fun W t h ht => valid_any t W ht (vtabs_next hU h)
  have HNW := new_good' n 1 w (by simp [Grd.isSize]; omega)
  replace HNW : Calls Tryd.prog 9 #[.int .i64 (n : Int), .int .i64 1] w (Made w w (newScr n 1) 0) := HNW
  generalize newScr n 1 = ns at *
  have hlt : ¬ (4000 : Int) < (t.size : Int) := by omega
  have h1I : (n : Int) < 2 := by omega
  have h1d : decide ((n : Int) < 2) = true := by simpa using h1I
  clear hT hU
  go_enter Tryd.func4, Tryd.ntmps4
  go_wp2_with fail
  refine HNW.mono ?_
  rintro e V1 ⟨cv1, tv1, gv1, rfl, hO, b1⟩
  have hv1 := hO.scr
  obtain ⟨d11, m11, e11, d12, m12, e12, d13, m13, e13, rfl, rfl, rfl⟩ := hO.shapes
  have HB1 : Hid (Below w.heap.size w V1) := (Below.refl w.heap.size w).trans (b1.mono (Below.refl w.heap.size w).size)
  obtain ⟨k1, k2, k3, k4⟩ := kept_g (A := (scrA ns (.slice d11 m11 e11) (.slice d12 m12 e12) (.slice d13 m13 e13))) HB1.out
  have HM1 : Hid _ := k1
  have HN1 : Hid _ := k3
  have HL1 : Hid _ := k4
  have HV1 : Hid (ScrV _ ns _ _ _) := hv1.next k2
  clear hO b1 k1 k2 k3 k4 hv1
  go_upto_region 2 with (refine wpList_store_row rfl 32 (.tmp 5) _ rfl V1.heap.size (scrA ns (.slice d11 m11 e11) (.slice d12 m12 e12) (.slice d13 m13 e13)) rfl rfl _ _ HL1.out (by kernel_rfl) rfl (scr_one _ _ _ _ _ _ _ _ _ _) ?_)
  clear HL1 HB1
  generalize ((V1.alloc (.cells #[.int .i64 0, .int .i64 0, .slice none 0 0, .int .i64 0, .int .i64 0, .bool false, .int .i64 0, .int .i64 0, .int .i64 0, .int .i64 0, .int .i64 0, .int .i64 0, .slice none 0 0, .int .i64 0, .int .i64 0, .int .i64 0, .int .i64 0, .int .i64 0, .int .i64 0, .int .i32 0, .string ⟨#[]⟩, .slice none 0 0] 32)).setRow V1.heap.size (scrA ns (.slice d11 m11 e11) (.slice d12 m12 e12) (.slice d13 m13 e13))) = X1 at *
  go_wp2_with fail
  refine (HP.out _ HN1.out).mono ?_
  rintro e Y ⟨rfl, bp⟩
  have HBY : Hid (Below w.heap.size w Y) := HN1.out.trans (bp.mono HN1.out.size)
  clear bp
  go_wp2_with fail
  refine (HVS.out _ t HBY.out (by omega)).mono ?_
  rintro e U ⟨rfl, bv⟩
  rw [hv]
  have HBU : Hid (Below w.heap.size w U) := HBY.out.trans (bv.mono HBY.out.size)
  clear bv
  go_wp2_with fail
  refine (HP.out _ HBU.out).mono ?_
  rintro e V ⟨rfl, bp⟩
  have HBV : Hid (Below w.heap.size w V) := HBU.out.trans (bp.mono HBU.out.size)
  go_wp2_with fail
  go_ret
  exact ⟨rfl, HBV.out⟩
set_option linter.unusedVariables false in
set_option maxHeartbeats 8000000 in
set_option maxRecDepth 100000 in
theorem stand_good (n : Nat) (t : ByteArray) (w : World) (hT : Txt.Tab w) (hU : VTabs w) (hn1 : 1 ≤ n) (hn2 : n ≤ 120) (hs : t.size ≤ 9223372036854775807) (hv : Lib.validD t.data.toList = true) (hl : t.size ≤ 4000) (h2 : 2 ≤ n) :
    Calls Tryd.prog 4 #[.int .i64 (n : Int), .string t] w fun e w' => e = .returned (.bool true) ∧ Below w.heap.size w w' := by
  have HP : Hid (∀ W, Below w.heap.size w W → Calls Tryd.prog 6 #[] W fun e w' => e = .returned (.bool true) ∧ Below W.heap.size W w') := fun W h => printed_any W (Grd.Tab.next hT h)
  have HVS : Hid (∀ W (t : ByteArray), Below w.heap.size w W → t.size ≤ 9223372036854775807 → Calls Tryd.prog 5 #[.string t] W fun e w' => e = .returned (.bool (Lib.validD t.data.toList)) ∧ Below W.heap.size W w') := fun W t h ht => valid_any t W ht (vtabs_next hU h)
  have HNW := new_good' n 1 w (by simp [Grd.isSize]; omega)
  replace HNW : Calls Tryd.prog 9 #[.int .i64 (n : Int), .int .i64 1] w (Made w w (newScr n 1) 0) := HNW
  obtain ⟨l, hl1, hl2, hl3, hl4⟩ := Txt.cut_clean t n
  obtain ⟨c, hc⟩ : ∃ c, c = Txt.cutS (Txt.bs (Txt.cleanL (Txt.runes t))) n := ⟨_, rfl⟩
  have hcl : (Txt.cleanL (Txt.runes t)).length ≤ 16000 := by
    have h1 := Txt.clean_length (Txt.runes t)
    have h2 := runes_le t
    omega
  have hcl2 : c.length ≤ 16000 := by
    rw [hc]
    unfold Txt.cutS
    rw [List.length_take, Txt.bs_data]
    omega
  have hsm : c.length ≤ 4000 := by
    rw [hc, hl1]
    exact enc_small n l hl3 hl4 hn2
  have hrn : Txt.runes (Txt.bs c) = l := by rw [Txt.runes_rn, Txt.bs_data, hc]; exact hl2
  have hm : ∀ x ∈ l, 0 < wd x.1 := fun x hx => (hl3 x hx).2
  obtain ⟨hcs, hlate⟩ := stands n hn1 (Txt.bs c) l hrn hm hl4
  have hline := line_stands l (n - (Txt.wideL l).toNat) hm
  rw [← hl1, ← hc] at hline
  have HCL : Hid (∀ W, Below w.heap.size w W → Calls Tryd.prog 11 #[.string t] W fun e w' => e = .returned (.string (Txt.bs (Txt.cleanL (Txt.runes t)))) ∧ Below W.heap.size W w') := fun W h => Txt.clean_any t W (Grd.Tab.next hT h) (by omega)
  have HCU : Hid (∀ W, Below w.heap.size w W → Calls Tryd.prog 10 #[.string (Txt.bs (Txt.cleanL (Txt.runes t))), .int .i64 (n : Int)] W fun e w' => e = .returned (.string (Txt.bs c)) ∧ Below W.heap.size W w') := fun W h => by
    rw [hc]
    exact Txt.cut_any (Txt.bs (Txt.cleanL (Txt.runes t))) n W (Grd.Tab.next hT h) (by rw [Txt.bs_size]; omega)
  have hR := newScr_right n hn1 hn2
  have hF := fits_text hR (by show ByteArray.size ⟨#[]⟩ ≤ 1048576; decide)
  have hR2 := textS_right hR (Txt.bs c)
  have HTX : Hid (∀ W cv' tv' gv', Below w.heap.size w W → ScrV W (newScr n 1) cv' tv' gv' → Calls Tryd.prog 7 #[.agg (scrA (newScr n 1) cv' tv' gv'), .string (Txt.bs c)] W (Made W W (textS n 1 (Txt.bs c) (newScr n 1)) 0)) := fun W cv' tv' gv' h hv => ptext_good (w0 := W) ⟨Grd.Tab.next hT h, hv, Below.refl _ _, hF⟩ hR (Txt.bs c) (by rw [Txt.bs_size]; exact hsm)
  have hcsl := hR2.cl
  have hin := cells_in hR2
  have HTM : Hid (∀ W, Calls Tryd.prog 13 #[.string (Txt.bs c)] W fun e w' => e = .returned (.string (Txt.bs (Lib.trimRightB c 32))) ∧ W = w') := fun W => trimmed_any c W (by omega)
  have HWI : Hid (∀ W, Below w.heap.size w W → Calls Tryd.prog 14 #[.string (Txt.bs c)] W fun e w' => e = .returned (.int .i64 (Txt.wideL l)) ∧ Below W.heap.size W w') := fun W h => by
    have h2 := Txt.wide_any (Txt.bs c) W (Grd.Tab.next hT h) (by rw [Txt.bs_size]; omega)
    unfold Txt.wideS at h2
    rw [hrn] at h2
    exact h2
  have HLO : Hid (∀ W b o cc, CellsAt W b o (textS n 1 (Txt.bs c) (newScr n 1)).cs → Calls Tryd.prog 12 #[.slice (some ⟨b, o, none⟩) n cc] W fun e w' => e = .returned (.string (Txt.bs (Lib.trimRightB c 32))) ∧ Below W.heap.size W w') := fun W b o cc hC => by
    have h := Grd.lineOf_any b o cc _ W hC (by rw [hcsl]; omega) hin
    rw [hcsl, hcs, hline, Nat.mul_one] at h
    exact h
  have HCO : Hid (∀ W v1 v2 v3, ScrV W (textS n 1 (Txt.bs c) (newScr n 1)) v1 v2 v3 → ∃ b o cc, v1 = .slice (some ⟨b, o, none⟩) n cc ∧ CellsAt W b o (textS n 1 (Txt.bs c) (newScr n 1)).cs) := fun W v1 v2 v3 hV => by
    rcases hV.c with ⟨he, -⟩ | ⟨-, b, o, cap, hv', -, -, hC⟩
    · rw [he, List.length_nil] at hcsl
      omega
    · rw [hcsl, Nat.mul_one] at hv'
      exact ⟨b, o, cap, hv', hC⟩
  have hlt : ¬ (4000 : Int) < (t.size : Int) := by omega
  have h2I : ¬ (n : Int) < 2 := by omega
  have h2d : decide ((n : Int) < 2) = false := by simpa using h2I
  have HLT : Hid ((textS n 1 (Txt.bs c) (newScr n 1)).late = decide (Txt.wideL l = n)) := hlate
  have hwl : (Txt.wideL l == (n : Int)) = decide (Txt.wideL l = n) := rfl
  clear hl1 hl2 hl3 hl4 hc hcl hcl2 hsm hrn hm hcs hlate hline hR hF hR2 hcsl hin
  generalize textS n 1 (Txt.bs c) (newScr n 1) = s2 at *
  generalize newScr n 1 = ns at *
  generalize Txt.bs (Txt.cleanL (Txt.runes t)) = ct at *
  generalize Txt.bs (Lib.trimRightB c 32) = tc at *
  generalize Txt.bs c = bc at *
  generalize Txt.wideL l = wl at *
  clear hT hU
  go_enter Tryd.func4, Tryd.ntmps4
  go_wp2_with fail
  refine HNW.mono ?_
  rintro e V1 ⟨cv1, tv1, gv1, rfl, hO, b1⟩
  have hv1 := hO.scr
  obtain ⟨d11, m11, e11, d12, m12, e12, d13, m13, e13, rfl, rfl, rfl⟩ := hO.shapes
  have HB1 : Hid (Below w.heap.size w V1) := (Below.refl w.heap.size w).trans (b1.mono (Below.refl w.heap.size w).size)
  obtain ⟨k1, k2, k3, k4⟩ := kept_g (A := (scrA ns (.slice d11 m11 e11) (.slice d12 m12 e12) (.slice d13 m13 e13))) HB1.out
  have HM1 : Hid _ := k1
  have HN1 : Hid _ := k3
  have HL1 : Hid _ := k4
  have HV1 : Hid (ScrV _ ns _ _ _) := hv1.next k2
  clear hO b1 k1 k2 k3 k4 hv1
  go_upto_region 2 with (refine wpList_store_row rfl 32 (.tmp 5) _ rfl V1.heap.size (scrA ns (.slice d11 m11 e11) (.slice d12 m12 e12) (.slice d13 m13 e13)) rfl rfl _ _ HL1.out (by kernel_rfl) rfl (scr_one _ _ _ _ _ _ _ _ _ _) ?_)
  clear HL1 HB1
  generalize ((V1.alloc (.cells #[.int .i64 0, .int .i64 0, .slice none 0 0, .int .i64 0, .int .i64 0, .bool false, .int .i64 0, .int .i64 0, .int .i64 0, .int .i64 0, .int .i64 0, .int .i64 0, .slice none 0 0, .int .i64 0, .int .i64 0, .int .i64 0, .int .i64 0, .int .i64 0, .int .i64 0, .int .i32 0, .string ⟨#[]⟩, .slice none 0 0] 32)).setRow V1.heap.size (scrA ns (.slice d11 m11 e11) (.slice d12 m12 e12) (.slice d13 m13 e13))) = X1 at *
  go_wp2_with fail
  refine (HP.out _ HN1.out).mono ?_
  rintro e Y ⟨rfl, bp⟩
  have HBY : Hid (Below w.heap.size w Y) := HN1.out.trans (bp.mono HN1.out.size)
  have HVY : Hid (ScrV Y ns _ _ _) := HV1.out.next bp
  have HMY : Hid (Y.heap[V1.heap.size]? = _) := Grd.carry HM1.out bp
  clear bp HV1 HM1 HN1
  go_wp2_with fail
  refine (HVS.out _ t HBY.out (by omega)).mono ?_
  rintro e U ⟨rfl, bv⟩
  rw [hv]
  have HBU : Hid (Below w.heap.size w U) := HBY.out.trans (bv.mono HBY.out.size)
  have HVU : Hid (ScrV U ns _ _ _) := HVY.out.next bv
  have HMU : Hid (U.heap[V1.heap.size]? = _) := Grd.carry HMY.out bv
  clear bv HVY HMY HBY HP HVS
  go_wp2_with fail
  refine (HCL.out _ HBU.out).mono ?_
  rintro e U1 ⟨rfl, b1⟩
  have HBU1 : Hid (Below w.heap.size w U1) := HBU.out.trans (b1.mono HBU.out.size)
  have HVU1 : Hid (ScrV U1 ns _ _ _) := HVU.out.next b1
  have HMU1 : Hid (U1.heap[V1.heap.size]? = _) := Grd.carry HMU.out b1
  clear b1 HBU HVU HMU HCL
  go_wp2_with fail
  refine (HCU.out _ HBU1.out).mono ?_
  rintro e U2 ⟨rfl, b1⟩
  have HBU2 : Hid (Below w.heap.size w U2) := HBU1.out.trans (b1.mono HBU1.out.size)
  have HVU2 : Hid (ScrV U2 ns _ _ _) := HVU1.out.next b1
  have HMU2 : Hid (U2.heap[V1.heap.size]? = _) := Grd.carry HMU1.out b1
  clear b1 HBU1 HVU1 HMU1 HCU
  go_wp2_with (refine wpList_load_row rfl 32 (.tmp 5) rfl V1.heap.size rfl _ _ _ _ HMU2.out Tryd.underlying32 rfl (by kernel_rfl) ?_)
  refine (HTX.out U2 _ _ _ HBU2.out HVU2.out).mono ?_
  clear HTX
  rintro e V2 ⟨cv2, tv2, gv2, rfl, hO, b1⟩
  have hv2 := hO.scr
  obtain ⟨d21, m21, e21, d22, m22, e22, d23, m23, e23, rfl, rfl, rfl⟩ := hO.shapes
  have HB2 : Hid (Below w.heap.size w V2) := HBU2.out.trans (b1.mono HBU2.out.size)
  obtain ⟨k1, k2, k3, k4⟩ := kept_g (A := (scrA s2 (.slice d21 m21 e21) (.slice d22 m22 e22) (.slice d23 m23 e23))) HB2.out
  have HM2 : Hid _ := k1
  have HN2 : Hid _ := k3
  have HL2 : Hid _ := k4
  have HV2 : Hid (ScrV _ s2 _ _ _) := hv2.next k2
  clear hO b1 k1 k2 k3 k4 hv2
  go_upto_region 6 with (refine wpList_store_row rfl 32 (.tmp 8) _ rfl V2.heap.size (scrA s2 (.slice d21 m21 e21) (.slice d22 m22 e22) (.slice d23 m23 e23)) rfl rfl _ _ HL2.out (by kernel_rfl) rfl (scr_one _ _ _ _ _ _ _ _ _ _) ?_)
  clear HL2 HB2
  generalize ((V2.alloc (.cells #[.int .i64 0, .int .i64 0, .slice none 0 0, .int .i64 0, .int .i64 0, .bool false, .int .i64 0, .int .i64 0, .int .i64 0, .int .i64 0, .int .i64 0, .int .i64 0, .slice none 0 0, .int .i64 0, .int .i64 0, .int .i64 0, .int .i64 0, .int .i64 0, .int .i64 0, .int .i32 0, .string ⟨#[]⟩, .slice none 0 0] 32)).setRow V2.heap.size (scrA s2 (.slice d21 m21 e21) (.slice d22 m22 e22) (.slice d23 m23 e23))) = X2 at *
  clear HVU2 HMU2 HBU2
  obtain ⟨b, o, cc, hsv, hC⟩ := HCO.out _ _ _ _ HV2.out
  injection hsv with hs1 hs2 hs3
  replace hs2 := hs2.symm
  replace hs3 := hs3.symm
  subst hs1 hs2 hs3
  have HC : Hid (CellsAt X2 b o s2.cs) := hC
  clear hC HCO HV2
  obtain ⟨⟨-, -, g2, -, -, g5, -⟩, -⟩ := scr_cells HM2.out
  rw [HLT.out] at g5
  clear HM2 HLT
  have b0 : Below X2.heap.size X2 X2.drew := (Below.refl _ _).drew
  obtain ⟨lb, hlb⟩ : ∃ lb, lb = decide (wl = (n : Int)) := ⟨_, rfl⟩
  rw [← hlb] at g5
  have hwl2 : (wl == (n : Int)) = lb := by rw [hlb]; rfl
  have SK : Hid (∀ V, Below X2.heap.size X2 V → V.cell? ⟨V2.heap.size, 2, none⟩ = some (.slice (some ⟨b, o, none⟩) n cc) ∧ V.cell? ⟨V2.heap.size, 5, none⟩ = some (.bool lb)) := fun V h => ⟨cell_stay h g2, cell_stay h g5⟩
  clear g2 g5 hlb hwl
  go_upto_region 6 with fail
  go_region_held3 (fun w' => w'.cell? ⟨V2.heap.size, 2, none⟩ = some (.slice (some ⟨b, o, none⟩) n cc) ∧ w'.cell? ⟨V2.heap.size, 5, none⟩ = some (.bool lb))
    (first | exact SK.out _ q2 | exact SK.out _ q1 | exact SK.out _ b0)
    (first
      | (go_at_call 14; refine (HWI.out _ (HN2.out.trans (q1.mono HN2.out.size))).mono ?_; rintro e Z2 ⟨rfl, b3⟩; have q2 : Below X2.heap.size X2 Z2 := q1.trans (b3.mono q1.size); clear b3)
      | (go_at_call 12; refine (HLO.out _ _ _ _ (HC.out.below b0)).mono ?_; rintro e Z1 ⟨rfl, b2⟩; have q1 := b0.trans (b2.mono b0.size); clear b2)
      | (go_at_call 13; refine (HTM.out _).mono ?_; rintro e Z ⟨rfl, hz⟩; subst hz))
  go_wp2_with fail
  go_ret
  exact ⟨rfl, HN2.out.trans (q2.mono HN2.out.size)⟩
theorem putStands_walk (a : Int) (t : ByteArray) (w : World) (hT : Txt.Tab w) (hU : VTabs w) (hs : t.size ≤ 9223372036854775807) :
    Calls Tryd.prog 4 #[.int .i64 a, .string t] w fun e w' => e = .returned (.bool true) ∧ Below w.heap.size w w' := by
  by_cases h : 1 ≤ a ∧ a ≤ 120
  · obtain ⟨n, rfl⟩ : ∃ n : Nat, a = (n : Int) := ⟨a.toNat, by omega⟩
    cases hv : Lib.validD t.data.toList with
    | false => exact stand_wrong n t w hT hU (by omega) (by omega) hs hv
    | true =>
      by_cases hl : t.size ≤ 4000
      · by_cases h2 : n < 2
        · exact stand_one n t w hT hU (by omega) (by omega) hs hv hl h2
        · exact stand_good n t w hT hU (by omega) (by omega) hs hv hl (by omega)
      · exact stand_long n t w hT hU (by omega) (by omega) hs hv (by omega)
  · exact stand_bad a t w hT hU (by simp [Grd.isSize]; omega)
end Put
end Go.Proofs.YtmeeojgjboppoaaDoor
