/- Package copying: Move's closure, word by word. (Written by gen_cpymoves.py.) -/
import Derived.Test.YtlodmffiengnaaaDoorPartF
namespace Go.Proofs.YtlodmffiengnaaaDoor
open Go.ChangeShapes Go.WideShapes Go.ChangeAt Go.RowKit Go.Maps
namespace Cpy
open Txt (Tab)
def leftK (L : List ByteArray) (k : Cp) : Cp := { k with x := (leftM L k.x k.y.toNat).1, y := (leftM L k.x k.y.toNat).2 }
set_option maxHeartbeats 8000000 in
set_option maxRecDepth 100000 in
theorem left_how (L : List ByteArray) (v : Value) (k : Cp) (w : World) (hT : Tab w) (hk : chk L k = 0) : HowS 21 w L v ⟨#[108, 101, 102, 116]⟩ k 0 (leftK L k) := by
  obtain ⟨h1, h2, h3, ⟨h4, h5, h6, h7⟩, _⟩ := chk_zero hk
  intro W A B kA hA hB cA cB hls W2 C kb hC hbox
  have hneB : B ≠ C := by have := lt_of_cell cB; omega
  have hneA : A ≠ C := by have := lt_of_cell cA; omega
  have dA := CK.below kb _ _ _ cA
  have dB := CK.below kb _ _ _ cB
  have hls2 := hls.below kb
  have hT2 : Tab W2 := (hT.below kA hT.pos).below kb (Nat.lt_of_lt_of_le hT.pos kA.size)
  obtain ⟨⟨c0, c1, c2, c3, c4⟩, hf⟩ := hbox.cells
  have f0 := hf 0
  have f1 := hf 1
  obtain ⟨x, y, fx, fy, on⟩ := k
  simp only [] at c0 c1 c2 c3 c4 h4 h5 h6 h7
  obtain ⟨y, rfl⟩ := Int.eq_ofNat_of_zero_le h4
  have hyl : y < L.length := by omega
  have HW := fun V (hv : LsAt V v L) (ht : Tab V) => left_any L v x y V hv ht hyl (by omega) h3
  have HK : Hid (leftK L ⟨x, y, fx, fy, on⟩ = ⟨(leftM L x y).1, (leftM L x y).2, fx, fy, on⟩) := rfl
  have HLS : Hid (LsAt W2 v L) := hls2
  have HT : Hid (Tab W2) := hT2
  generalize leftM L x y = R at *
  generalize leftK L ⟨x, (y : Int), fx, fy, on⟩ = kw at *
  obtain ⟨rx, ry⟩ := R
  obtain rfl := HK.out
  simp only [] at HW HK
  have HBX : Hid (BoxAt W2 C ⟨x, y, fx, fy, on⟩) := hbox
  clear hk h1 h2 h3 h4 h5 hls2 hT2 hls hT hbox kA kb
  go_enter Tryd.func21, Tryd.ntmps21
  go_upto_region 8 with fail
  have HL2 : Hid (LsAt W2.drew v L) := HLS.out.below ((Below.refl _ _).drew)
  have HT2 : Hid (Tab W2.drew) := HT.out.below ((Below.refl _ _).drew) HT.out.pos
  have HB2 : Hid (BoxAt W2.drew C ⟨x, y, fx, fy, on⟩) := HBX.out
  go_region_with (go_at_call 22; refine (HW _ HL2.out HT2.out).mono ?_; rintro e V ⟨rfl, bv⟩; have hbv := HB2.out.below bv; obtain ⟨⟨e0, e1, e2, e3, e4⟩, hf2⟩ := hbv.cells; simp only [] at e0 e1 e2 e3 e4; have g0 := hf2 0; have g1 := hf2 1)
  all_goals
    have y2 := (hbv.setX rx).setY ry
    have b2 := ((But.of_below (M := C) bv).drew.setCell (i := 0) (.int .i64 rx)).setCell (i := 1) (.int .i64 ry)
    go_wp2_with fail
    go_ret
    exact ⟨rfl, y2, b2⟩
def rightK (L : List ByteArray) (k : Cp) : Cp := { k with x := (rightM L k.x k.y.toNat).1, y := (rightM L k.x k.y.toNat).2 }
set_option maxHeartbeats 8000000 in
set_option maxRecDepth 100000 in
theorem right_how (L : List ByteArray) (v : Value) (k : Cp) (w : World) (hT : Tab w) (hk : chk L k = 0) : HowS 21 w L v ⟨#[114, 105, 103, 104, 116]⟩ k 0 (rightK L k) := by
  obtain ⟨h1, h2, h3, ⟨h4, h5, h6, h7⟩, _⟩ := chk_zero hk
  intro W A B kA hA hB cA cB hls W2 C kb hC hbox
  have hneB : B ≠ C := by have := lt_of_cell cB; omega
  have hneA : A ≠ C := by have := lt_of_cell cA; omega
  have dA := CK.below kb _ _ _ cA
  have dB := CK.below kb _ _ _ cB
  have hls2 := hls.below kb
  have hT2 : Tab W2 := (hT.below kA hT.pos).below kb (Nat.lt_of_lt_of_le hT.pos kA.size)
  obtain ⟨⟨c0, c1, c2, c3, c4⟩, hf⟩ := hbox.cells
  have f0 := hf 0
  have f1 := hf 1
  obtain ⟨x, y, fx, fy, on⟩ := k
  simp only [] at c0 c1 c2 c3 c4 h4 h5 h6 h7
  obtain ⟨y, rfl⟩ := Int.eq_ofNat_of_zero_le h4
  have hyl : y < L.length := by omega
  have HW := fun V (hv : LsAt V v L) (ht : Tab V) => right_any L v x y V hv ht hyl (by omega) h3
  have HK : Hid (rightK L ⟨x, y, fx, fy, on⟩ = ⟨(rightM L x y).1, (rightM L x y).2, fx, fy, on⟩) := rfl
  have HLS : Hid (LsAt W2 v L) := hls2
  have HT : Hid (Tab W2) := hT2
  generalize rightM L x y = R at *
  generalize rightK L ⟨x, (y : Int), fx, fy, on⟩ = kw at *
  obtain ⟨rx, ry⟩ := R
  obtain rfl := HK.out
  simp only [] at HW HK
  have HBX : Hid (BoxAt W2 C ⟨x, y, fx, fy, on⟩) := hbox
  clear hk h1 h2 h3 h4 h5 hls2 hT2 hls hT hbox kA kb
  go_enter Tryd.func21, Tryd.ntmps21
  go_upto_region 10 with fail
  have HL2 : Hid (LsAt W2.drew v L) := HLS.out.below ((Below.refl _ _).drew)
  have HT2 : Hid (Tab W2.drew) := HT.out.below ((Below.refl _ _).drew) HT.out.pos
  have HB2 : Hid (BoxAt W2.drew C ⟨x, y, fx, fy, on⟩) := HBX.out
  go_region_with (go_at_call 23; refine (HW _ HL2.out HT2.out).mono ?_; rintro e V ⟨rfl, bv⟩; have hbv := HB2.out.below bv; obtain ⟨⟨e0, e1, e2, e3, e4⟩, hf2⟩ := hbv.cells; simp only [] at e0 e1 e2 e3 e4; have g0 := hf2 0; have g1 := hf2 1)
  all_goals
    have y2 := (hbv.setX rx).setY ry
    have b2 := ((But.of_below (M := C) bv).drew.setCell (i := 0) (.int .i64 rx)).setCell (i := 1) (.int .i64 ry)
    go_wp2_with fail
    go_ret
    exact ⟨rfl, y2, b2⟩
theorem w64_more {y : Nat} (h : y ≤ 1000000) : wrap64 ((y : Int) + 1) = (y : Int) + 1 := by unfold wrap64; omega
theorem w64_less {y : Nat} (h : y ≤ 1000000) : wrap64 ((y : Int) - 1) = (y : Int) - 1 := by unfold wrap64; omega
set_option maxHeartbeats 8000000 in
set_option maxRecDepth 100000 in
theorem up_how (L : List ByteArray) (v : Value) (k : Cp) (w : World) (hT : Tab w) (hk : chk L k = 0) : HowS 21 w L v ⟨#[117, 112]⟩ k 0 { k with y := max (k.y - 1) 0 } := by
  obtain ⟨h1, h2, h3, ⟨h4, h5, h6, h7⟩, _⟩ := chk_zero hk
  intro W A B kA hA hB cA cB hls W2 C kb hC hbox
  have hneB : B ≠ C := by have := lt_of_cell cB; omega
  have hneA : A ≠ C := by have := lt_of_cell cA; omega
  have dA := CK.below kb _ _ _ cA
  have dB := CK.below kb _ _ _ cB
  have hls2 := hls.below kb
  have hT2 : Tab W2 := (hT.below kA hT.pos).below kb (Nat.lt_of_lt_of_le hT.pos kA.size)
  obtain ⟨⟨c0, c1, c2, c3, c4⟩, hf⟩ := hbox.cells
  have f0 := hf 0
  have f1 := hf 1
  obtain ⟨x, y, fx, fy, on⟩ := k
  simp only [] at c0 c1 c2 c3 c4 h4 h5 h6 h7
  obtain ⟨y, rfl⟩ := Int.eq_ofNat_of_zero_le h4
  have hyl : y < L.length := by omega
  have hw9 := w64_less (y := y) (by omega)
  have y2 := hbox.setY (max ((y : Int) - 1) 0)
  have b2 := (But.refl C W2).setCell (i := 1) (.int .i64 (max ((y : Int) - 1) 0))
  have HBX : Hid (BoxAt W2 C ⟨x, y, fx, fy, on⟩) := hbox
  clear hk h1 h2 h3 h4 h5 hls2 hT2 hls hT kA kb h6 h7
  go_enter Tryd.func21, Tryd.ntmps21
  go_wp2_with fail
  go_ret
  exact ⟨rfl, y2, b2⟩
set_option maxHeartbeats 8000000 in
set_option maxRecDepth 100000 in
theorem start_how (L : List ByteArray) (v : Value) (k : Cp) (w : World) (hT : Tab w) (hk : chk L k = 0) : HowS 21 w L v ⟨#[115, 116, 97, 114, 116]⟩ k 0 { k with x := 0 } := by
  obtain ⟨h1, h2, h3, ⟨h4, h5, h6, h7⟩, _⟩ := chk_zero hk
  intro W A B kA hA hB cA cB hls W2 C kb hC hbox
  have hneB : B ≠ C := by have := lt_of_cell cB; omega
  have hneA : A ≠ C := by have := lt_of_cell cA; omega
  have dA := CK.below kb _ _ _ cA
  have dB := CK.below kb _ _ _ cB
  have hls2 := hls.below kb
  have hT2 : Tab W2 := (hT.below kA hT.pos).below kb (Nat.lt_of_lt_of_le hT.pos kA.size)
  obtain ⟨⟨c0, c1, c2, c3, c4⟩, hf⟩ := hbox.cells
  have f0 := hf 0
  have f1 := hf 1
  obtain ⟨x, y, fx, fy, on⟩ := k
  simp only [] at c0 c1 c2 c3 c4 h4 h5 h6 h7
  obtain ⟨y, rfl⟩ := Int.eq_ofNat_of_zero_le h4
  have hyl : y < L.length := by omega
  have y2 := hbox.setX 0
  have b2 := (But.refl C W2).setCell (i := 0) (.int .i64 0)
  have HBX : Hid (BoxAt W2 C ⟨x, y, fx, fy, on⟩) := hbox
  clear hk h1 h2 h3 h4 h5 hls2 hT2 hls hT kA kb h6 h7
  go_enter Tryd.func21, Tryd.ntmps21
  go_wp2_with fail
  go_ret
  exact ⟨rfl, y2, b2⟩
set_option maxHeartbeats 8000000 in
set_option maxRecDepth 100000 in
theorem top_how (L : List ByteArray) (v : Value) (k : Cp) (w : World) (hT : Tab w) (hk : chk L k = 0) : HowS 21 w L v ⟨#[116, 111, 112]⟩ k 0 { k with x := 0, y := 0 } := by
  obtain ⟨h1, h2, h3, ⟨h4, h5, h6, h7⟩, _⟩ := chk_zero hk
  intro W A B kA hA hB cA cB hls W2 C kb hC hbox
  have hneB : B ≠ C := by have := lt_of_cell cB; omega
  have hneA : A ≠ C := by have := lt_of_cell cA; omega
  have dA := CK.below kb _ _ _ cA
  have dB := CK.below kb _ _ _ cB
  have hls2 := hls.below kb
  have hT2 : Tab W2 := (hT.below kA hT.pos).below kb (Nat.lt_of_lt_of_le hT.pos kA.size)
  obtain ⟨⟨c0, c1, c2, c3, c4⟩, hf⟩ := hbox.cells
  have f0 := hf 0
  have f1 := hf 1
  obtain ⟨x, y, fx, fy, on⟩ := k
  simp only [] at c0 c1 c2 c3 c4 h4 h5 h6 h7
  obtain ⟨y, rfl⟩ := Int.eq_ofNat_of_zero_le h4
  have hyl : y < L.length := by omega
  have y2 := (hbox.setX 0).setY 0
  have b2 := ((But.refl C W2).setCell (i := 0) (.int .i64 0)).setCell (i := 1) (.int .i64 0)
  have HBX : Hid (BoxAt W2 C ⟨x, y, fx, fy, on⟩) := hbox
  clear hk h1 h2 h3 h4 h5 hls2 hT2 hls hT kA kb h6 h7
  go_enter Tryd.func21, Tryd.ntmps21
  go_wp2_with fail
  go_ret
  exact ⟨rfl, y2, b2⟩
set_option maxHeartbeats 8000000 in
set_option maxRecDepth 100000 in
theorem bottom_how (L : List ByteArray) (v : Value) (k : Cp) (w : World) (hT : Tab w) (hk : chk L k = 0) : HowS 21 w L v ⟨#[98, 111, 116, 116, 111, 109]⟩ k 0 { k with x := 0, y := (L.length : Int) - 1 } := by
  obtain ⟨h1, h2, h3, ⟨h4, h5, h6, h7⟩, _⟩ := chk_zero hk
  intro W A B kA hA hB cA cB hls W2 C kb hC hbox
  have hneB : B ≠ C := by have := lt_of_cell cB; omega
  have hneA : A ≠ C := by have := lt_of_cell cA; omega
  have dA := CK.below kb _ _ _ cA
  have dB := CK.below kb _ _ _ cB
  have hls2 := hls.below kb
  have hT2 : Tab W2 := (hT.below kA hT.pos).below kb (Nat.lt_of_lt_of_le hT.pos kA.size)
  obtain ⟨⟨c0, c1, c2, c3, c4⟩, hf⟩ := hbox.cells
  have f0 := hf 0
  have f1 := hf 1
  obtain ⟨x, y, fx, fy, on⟩ := k
  simp only [] at c0 c1 c2 c3 c4 h4 h5 h6 h7
  obtain ⟨y, rfl⟩ := Int.eq_ofNat_of_zero_le h4
  have hyl : y < L.length := by omega
  have HB := bottom_any L v W2 hls2 (by omega)
  clear hk h1 h2 h3 h4 h5 hls2 hT2 hls hT kA kb h6 h7
  go_enter Tryd.func21, Tryd.ntmps21
  go_wp2_with fail
  refine HB.mono ?_
  rintro e V ⟨rfl, bv⟩
  have hbv := hbox.below bv
  obtain ⟨⟨e0, e1, e2, e3, e4⟩, hf2⟩ := hbv.cells
  simp only [] at e0 e1 e2 e3 e4
  have g0 := hf2 0
  have g1 := hf2 1
  have y2 := (hbv.setX 0).setY ((L.length : Int) - 1)
  have b2 := ((But.of_below (M := C) bv).setCell (i := 0) (.int .i64 0)).setCell (i := 1) (.int .i64 ((L.length : Int) - 1))
  go_wp2_with fail
  go_ret
  exact ⟨rfl, y2, b2⟩
set_option maxHeartbeats 8000000 in
set_option maxRecDepth 100000 in
theorem down_how (L : List ByteArray) (v : Value) (k : Cp) (w : World) (hT : Tab w) (hk : chk L k = 0) : HowS 21 w L v ⟨#[100, 111, 119, 110]⟩ k 0 { k with y := min (k.y + 1) ((L.length : Int) - 1) } := by
  obtain ⟨h1, h2, h3, ⟨h4, h5, h6, h7⟩, _⟩ := chk_zero hk
  intro W A B kA hA hB cA cB hls W2 C kb hC hbox
  have hneB : B ≠ C := by have := lt_of_cell cB; omega
  have hneA : A ≠ C := by have := lt_of_cell cA; omega
  have dA := CK.below kb _ _ _ cA
  have dB := CK.below kb _ _ _ cB
  have hls2 := hls.below kb
  have hT2 : Tab W2 := (hT.below kA hT.pos).below kb (Nat.lt_of_lt_of_le hT.pos kA.size)
  obtain ⟨⟨c0, c1, c2, c3, c4⟩, hf⟩ := hbox.cells
  have f0 := hf 0
  have f1 := hf 1
  obtain ⟨x, y, fx, fy, on⟩ := k
  simp only [] at c0 c1 c2 c3 c4 h4 h5 h6 h7
  obtain ⟨y, rfl⟩ := Int.eq_ofNat_of_zero_le h4
  have hyl : y < L.length := by omega
  obtain ⟨a, c, rfl, _⟩ := hls2
  have y2 := hbox.setY (min ((y : Int) + 1) ((L.length : Int) - 1))
  have b2 := ((But.refl C W2.drew).drew).setCell (i := 1) (.int .i64 (min ((y : Int) + 1) ((L.length : Int) - 1)))
  have HY2 : Hid (BoxAt (W2.setCell ⟨C, 1, none⟩ (.int .i64 (min ((y : Int) + 1) ((L.length : Int) - 1)))) C ⟨x, min ((y : Int) + 1) ((L.length : Int) - 1), fx, fy, on⟩) := y2
  have hw9 := w64_less (y := L.length) (by omega)
  have hw8 := w64_more (y := y) (Nat.le_trans (Nat.le_of_lt hyl) (Nat.le_trans h2 (by decide)))
  clear hk h1 h2 h3 h4 h5 hT2 hls hT kA kb h6 h7
  go_enter Tryd.func21, Tryd.ntmps21
  go_upto_region 6 with fail
  go_region
  all_goals
    go_wp2_with fail
    go_ret
    exact ⟨rfl, HY2.out, b2⟩
end Cpy
end Go.Proofs.YtlodmffiengnaaaDoor

/- The reference's wentTo, by words. (Written by gen_cpywent.py.) -/
namespace Go.Proofs.YtlodmffiengnaaaDoor
open Go.ChangeShapes Go.WideShapes Go.ChangeAt Go.RowKit Go.Maps Go.Sort
namespace Cpy
open Txt (Tab)
theorem w64_small1 {n : Int} (h0 : -9 ≤ n) (h1 : n ≤ 100000) : wrap64 n = n := by unfold wrap64; omega
set_option maxHeartbeats 8000000 in
set_option maxRecDepth 100000 in
theorem went_up (L : List ByteArray) (v : Value) (x : Int) (y : Nat) (w : World) (h : LsAt w v L) (hy : y < L.length) (hn : L.length ≤ 110) (hL : ∀ s ∈ L, s.size ≤ 4000) :
    Calls Tryd.prog 11 #[v, .agg #[.int .i64 x, .int .i64 y], .string ⟨#[117, 112]⟩] w fun e w' => e = .returned (.tuple #[.agg #[.int .i64 x, .int .i64 (max ((y : Int) - 1) 0)], .bool true]) ∧ Below w.heap.size w w' := by
  have kb : Below w.heap.size w ((w.alloc (.cells #[.int .i64 x, .int .i64 y] 24)).alloc (.cells #[.int .i64 0, .int .i64 0] 24)) := ((Below.refl _ _).alloc (Nat.le_refl _) _).alloc (by rw [World.size_alloc]; omega) _
  have Z := heap_alloc_new (w.alloc (.cells #[.int .i64 x, .int .i64 y] 24)) (.cells #[.int .i64 0, .int .i64 0] 24)
  have Y := (heap_alloc_old (w.alloc (.cells #[.int .i64 x, .int .i64 y] 24)) (.cells #[.int .i64 0, .int .i64 0] 24) (r := w.heap.size) (by rw [World.size_alloc]; omega)).trans (heap_alloc_new w (.cells #[.int .i64 x, .int .i64 y] 24))
  rw [World.size_alloc] at Z
  have HLS : Hid (∀ V, Below w.heap.size w V → LsAt V v L) := fun V hV => h.below hV
  have HLL : Hid (∀ s ∈ L, s.size ≤ 4000) := hL
  obtain ⟨b, o, c, rfl, q⟩ := (h.below kb).get hy
  have hs := ln_size hL y
  have hsl := sp_len (ln L y)
  have HSP := fun V => Txt.spots_any (ln L y) V (by omega)
  rw [show Txt.spotsL (Txt.runes (ln L y)) 0 = sp (ln L y) from rfl] at HSP
  have HSA := fun base v V h => spotAt_any base v (sp (ln L y)) x V h (sp_lt _) (by omega)
  rw [show (sp (ln L y)).map (·.2) = cols (ln L y) from rfl] at HSA
  have iy : (y : Int) < (L.length : Int) := by omega
  have iy0 : (0 : Int) ≤ (y : Int) := by omega
  have a1 := atI_ge (cols (ln L y)) x
  have a2 := atI_lt (cols (ln L y)) x
  have hcl := cols_len (ln L y)
  have hS4 : (sp (ln L y)).length ≤ 4000 := Nat.le_trans hsl hs
  have hwl : wrap64 ((L.length : Int) - 1) = (L.length : Int) - 1 := w64_less (by omega)
  obtain ⟨y0, y1⟩ := cells2 Y
  have HCG : Hid (∀ (i : Nat) (hi : i < (sp (ln L y)).length), (cols (ln L y)).getD i 0 = (sp (ln L y))[i].2) := fun i hi => by
    unfold cols
    rw [List.getD_eq_getElem?_getD, List.getElem?_map, List.getElem?_eq_getElem hi]
    rfl
  generalize hsy : ln L y = s at *
  generalize atI (cols s) x = at9 at *
  have HSY : Hid (ln L y = s) := hsy
  clear hsl hs hsy
  go_enter Tryd.func11, Tryd.ntmps11
  go_wp2_with fail
  refine (HSP _).mono ?_
  rintro e W1 ⟨v1, rfl, hown, b1⟩
  obtain ⟨sa, sc, rfl, hsc⟩ := spot_cells hown
  have k1 := kb.trans (b1.mono kb.size)
  have z1 := kept Z b1
  have w1 := kept Y b1
  obtain ⟨y0, y1⟩ := cells2 w1
  clear HSP b1 Z Y kb q
  go_wp2_with fail
  refine (HSA _ _ _ hown).mono ?_
  rintro e W2 ⟨rfl, b2⟩
  have k2 := k1.trans (b2.mono k1.size)
  have z2 := kept z1 b2
  have w2 := kept w1 b2
  have HSC : Hid (sp s = [] ∨ ∃ g, sa = some ⟨g, 0, none⟩ ∧ ∀ (i : Nat) (hi : i < (sp s).length), W2.cell? ⟨g, i * 2 + 1, none⟩ = some (.int .i64 (sp s)[i].2)) := by
    rcases hsc with h | ⟨g, h1, h2⟩
    · exact .inl h
    · exact .inr ⟨g, h1, fun i hi => CK.below b2 _ _ _ (h2 i hi).2⟩
  have HW2 : Hid (W2.heap[w.heap.size]? = some (.cells #[.int .i64 x, .int .i64 y] 24 (0, 0))) := w2
  obtain ⟨y0, y1⟩ := cells2 w2
  obtain ⟨r0, r1⟩ := cells2 z2
  have fz : ∀ i, W2.frozen? ⟨w.heap.size + 1, i, none⟩ = false := fun i => by simp [World.frozen?, z2]
  clear HSA hown hsc b2 z1 w1 k1 w2
  have hwy : wrap64 ((y : Int) - 1) = (y : Int) - 1 := w64_less (by clear hwl; omega)
  have zD : (W2).drew.heap[w.heap.size + 1]? = _ := z2
  have kE := ((k2).setCell (p := ⟨w.heap.size + 1, 0, none⟩) (show w.heap.size ≤ w.heap.size + 1 by omega) (.int .i64 (x))).setCell (p := ⟨w.heap.size + 1, 1, none⟩) (show w.heap.size ≤ w.heap.size + 1 by omega) (.int .i64 (max ((y : Int) - 1) 0))
  have kF := ((Below.drew (k2)).setCell (p := ⟨w.heap.size + 1, 0, none⟩) (show w.heap.size ≤ w.heap.size + 1 by omega) (.int .i64 (x))).setCell (p := ⟨w.heap.size + 1, 1, none⟩) (show w.heap.size ≤ w.heap.size + 1 by omega) (.int .i64 (max ((y : Int) - 1) 0))
  go_wp2_with fail
  (try simp only [Exit.inBlock, Exit.then])
  refine bodyPost_ret (v := .tuple #[.agg #[.int .i64 (x), .int .i64 (max ((y : Int) - 1) 0)], .bool true]) ?_ rfl ⟨rfl, by first | exact kE | exact kF | exact Below.drew kE⟩
  refine results_row_tmp rfl _ _ (w.heap.size + 1) 24 _ (0, 0) _ rfl ?_ Tryd.underlying24 rfl (by kernel_rfl) _ rfl
  first | exact heap_setCell_same _ _ 1 _ _ _ (heap_setCell_same _ _ 0 _ _ _ z2) | exact heap_setCell_same _ _ 1 _ _ _ (heap_setCell_same _ _ 0 _ _ _ zD)
set_option maxHeartbeats 8000000 in
set_option maxRecDepth 100000 in
theorem went_down (L : List ByteArray) (v : Value) (x : Int) (y : Nat) (w : World) (h : LsAt w v L) (hy : y < L.length) (hn : L.length ≤ 110) (hL : ∀ s ∈ L, s.size ≤ 4000) :
    Calls Tryd.prog 11 #[v, .agg #[.int .i64 x, .int .i64 y], .string ⟨#[100, 111, 119, 110]⟩] w fun e w' => e = .returned (.tuple #[.agg #[.int .i64 x, .int .i64 (min ((y : Int) + 1) ((L.length : Int) - 1))], .bool true]) ∧ Below w.heap.size w w' := by
  have kb : Below w.heap.size w ((w.alloc (.cells #[.int .i64 x, .int .i64 y] 24)).alloc (.cells #[.int .i64 0, .int .i64 0] 24)) := ((Below.refl _ _).alloc (Nat.le_refl _) _).alloc (by rw [World.size_alloc]; omega) _
  have Z := heap_alloc_new (w.alloc (.cells #[.int .i64 x, .int .i64 y] 24)) (.cells #[.int .i64 0, .int .i64 0] 24)
  have Y := (heap_alloc_old (w.alloc (.cells #[.int .i64 x, .int .i64 y] 24)) (.cells #[.int .i64 0, .int .i64 0] 24) (r := w.heap.size) (by rw [World.size_alloc]; omega)).trans (heap_alloc_new w (.cells #[.int .i64 x, .int .i64 y] 24))
  rw [World.size_alloc] at Z
  have HLS : Hid (∀ V, Below w.heap.size w V → LsAt V v L) := fun V hV => h.below hV
  have HLL : Hid (∀ s ∈ L, s.size ≤ 4000) := hL
  obtain ⟨b, o, c, rfl, q⟩ := (h.below kb).get hy
  have hs := ln_size hL y
  have hsl := sp_len (ln L y)
  have HSP := fun V => Txt.spots_any (ln L y) V (by omega)
  rw [show Txt.spotsL (Txt.runes (ln L y)) 0 = sp (ln L y) from rfl] at HSP
  have HSA := fun base v V h => spotAt_any base v (sp (ln L y)) x V h (sp_lt _) (by omega)
  rw [show (sp (ln L y)).map (·.2) = cols (ln L y) from rfl] at HSA
  have iy : (y : Int) < (L.length : Int) := by omega
  have iy0 : (0 : Int) ≤ (y : Int) := by omega
  have a1 := atI_ge (cols (ln L y)) x
  have a2 := atI_lt (cols (ln L y)) x
  have hcl := cols_len (ln L y)
  have hS4 : (sp (ln L y)).length ≤ 4000 := Nat.le_trans hsl hs
  have hwl : wrap64 ((L.length : Int) - 1) = (L.length : Int) - 1 := w64_less (by omega)
  obtain ⟨y0, y1⟩ := cells2 Y
  have HCG : Hid (∀ (i : Nat) (hi : i < (sp (ln L y)).length), (cols (ln L y)).getD i 0 = (sp (ln L y))[i].2) := fun i hi => by
    unfold cols
    rw [List.getD_eq_getElem?_getD, List.getElem?_map, List.getElem?_eq_getElem hi]
    rfl
  generalize hsy : ln L y = s at *
  generalize atI (cols s) x = at9 at *
  have HSY : Hid (ln L y = s) := hsy
  clear hsl hs hsy
  go_enter Tryd.func11, Tryd.ntmps11
  go_wp2_with fail
  refine (HSP _).mono ?_
  rintro e W1 ⟨v1, rfl, hown, b1⟩
  obtain ⟨sa, sc, rfl, hsc⟩ := spot_cells hown
  have k1 := kb.trans (b1.mono kb.size)
  have z1 := kept Z b1
  have w1 := kept Y b1
  obtain ⟨y0, y1⟩ := cells2 w1
  clear HSP b1 Z Y kb q
  go_wp2_with fail
  refine (HSA _ _ _ hown).mono ?_
  rintro e W2 ⟨rfl, b2⟩
  have k2 := k1.trans (b2.mono k1.size)
  have z2 := kept z1 b2
  have w2 := kept w1 b2
  have HSC : Hid (sp s = [] ∨ ∃ g, sa = some ⟨g, 0, none⟩ ∧ ∀ (i : Nat) (hi : i < (sp s).length), W2.cell? ⟨g, i * 2 + 1, none⟩ = some (.int .i64 (sp s)[i].2)) := by
    rcases hsc with h | ⟨g, h1, h2⟩
    · exact .inl h
    · exact .inr ⟨g, h1, fun i hi => CK.below b2 _ _ _ (h2 i hi).2⟩
  have HW2 : Hid (W2.heap[w.heap.size]? = some (.cells #[.int .i64 x, .int .i64 y] 24 (0, 0))) := w2
  obtain ⟨y0, y1⟩ := cells2 w2
  obtain ⟨r0, r1⟩ := cells2 z2
  have fz : ∀ i, W2.frozen? ⟨w.heap.size + 1, i, none⟩ = false := fun i => by simp [World.frozen?, z2]
  clear HSA hown hsc b2 z1 w1 k1 w2
  have hwy : wrap64 ((y : Int) + 1) = (y : Int) + 1 := w64_more (by clear hwl; omega)
  have zD : (W2).drew.heap[w.heap.size + 1]? = _ := z2
  have kE := ((k2).setCell (p := ⟨w.heap.size + 1, 0, none⟩) (show w.heap.size ≤ w.heap.size + 1 by omega) (.int .i64 (x))).setCell (p := ⟨w.heap.size + 1, 1, none⟩) (show w.heap.size ≤ w.heap.size + 1 by omega) (.int .i64 (min ((y : Int) + 1) ((L.length : Int) - 1)))
  have kF := ((Below.drew (k2)).setCell (p := ⟨w.heap.size + 1, 0, none⟩) (show w.heap.size ≤ w.heap.size + 1 by omega) (.int .i64 (x))).setCell (p := ⟨w.heap.size + 1, 1, none⟩) (show w.heap.size ≤ w.heap.size + 1 by omega) (.int .i64 (min ((y : Int) + 1) ((L.length : Int) - 1)))
  go_wp2_with fail
  (try simp only [Exit.inBlock, Exit.then])
  refine bodyPost_ret (v := .tuple #[.agg #[.int .i64 (x), .int .i64 (min ((y : Int) + 1) ((L.length : Int) - 1))], .bool true]) ?_ rfl ⟨rfl, by first | exact kE | exact kF | exact Below.drew kE⟩
  refine results_row_tmp rfl _ _ (w.heap.size + 1) 24 _ (0, 0) _ rfl ?_ Tryd.underlying24 rfl (by kernel_rfl) _ rfl
  first | exact heap_setCell_same _ _ 1 _ _ _ (heap_setCell_same _ _ 0 _ _ _ z2) | exact heap_setCell_same _ _ 1 _ _ _ (heap_setCell_same _ _ 0 _ _ _ zD)
set_option maxHeartbeats 8000000 in
set_option maxRecDepth 100000 in
theorem went_start (L : List ByteArray) (v : Value) (x : Int) (y : Nat) (w : World) (h : LsAt w v L) (hy : y < L.length) (hn : L.length ≤ 110) (hL : ∀ s ∈ L, s.size ≤ 4000) :
    Calls Tryd.prog 11 #[v, .agg #[.int .i64 x, .int .i64 y], .string ⟨#[115, 116, 97, 114, 116]⟩] w fun e w' => e = .returned (.tuple #[.agg #[.int .i64 0, .int .i64 y], .bool true]) ∧ Below w.heap.size w w' := by
  have kb : Below w.heap.size w ((w.alloc (.cells #[.int .i64 x, .int .i64 y] 24)).alloc (.cells #[.int .i64 0, .int .i64 0] 24)) := ((Below.refl _ _).alloc (Nat.le_refl _) _).alloc (by rw [World.size_alloc]; omega) _
  have Z := heap_alloc_new (w.alloc (.cells #[.int .i64 x, .int .i64 y] 24)) (.cells #[.int .i64 0, .int .i64 0] 24)
  have Y := (heap_alloc_old (w.alloc (.cells #[.int .i64 x, .int .i64 y] 24)) (.cells #[.int .i64 0, .int .i64 0] 24) (r := w.heap.size) (by rw [World.size_alloc]; omega)).trans (heap_alloc_new w (.cells #[.int .i64 x, .int .i64 y] 24))
  rw [World.size_alloc] at Z
  have HLS : Hid (∀ V, Below w.heap.size w V → LsAt V v L) := fun V hV => h.below hV
  have HLL : Hid (∀ s ∈ L, s.size ≤ 4000) := hL
  obtain ⟨b, o, c, rfl, q⟩ := (h.below kb).get hy
  have hs := ln_size hL y
  have hsl := sp_len (ln L y)
  have HSP := fun V => Txt.spots_any (ln L y) V (by omega)
  rw [show Txt.spotsL (Txt.runes (ln L y)) 0 = sp (ln L y) from rfl] at HSP
  have HSA := fun base v V h => spotAt_any base v (sp (ln L y)) x V h (sp_lt _) (by omega)
  rw [show (sp (ln L y)).map (·.2) = cols (ln L y) from rfl] at HSA
  have iy : (y : Int) < (L.length : Int) := by omega
  have iy0 : (0 : Int) ≤ (y : Int) := by omega
  have a1 := atI_ge (cols (ln L y)) x
  have a2 := atI_lt (cols (ln L y)) x
  have hcl := cols_len (ln L y)
  have hS4 : (sp (ln L y)).length ≤ 4000 := Nat.le_trans hsl hs
  have hwl : wrap64 ((L.length : Int) - 1) = (L.length : Int) - 1 := w64_less (by omega)
  obtain ⟨y0, y1⟩ := cells2 Y
  have HCG : Hid (∀ (i : Nat) (hi : i < (sp (ln L y)).length), (cols (ln L y)).getD i 0 = (sp (ln L y))[i].2) := fun i hi => by
    unfold cols
    rw [List.getD_eq_getElem?_getD, List.getElem?_map, List.getElem?_eq_getElem hi]
    rfl
  generalize hsy : ln L y = s at *
  generalize atI (cols s) x = at9 at *
  have HSY : Hid (ln L y = s) := hsy
  clear hsl hs hsy
  go_enter Tryd.func11, Tryd.ntmps11
  go_wp2_with fail
  refine (HSP _).mono ?_
  rintro e W1 ⟨v1, rfl, hown, b1⟩
  obtain ⟨sa, sc, rfl, hsc⟩ := spot_cells hown
  have k1 := kb.trans (b1.mono kb.size)
  have z1 := kept Z b1
  have w1 := kept Y b1
  obtain ⟨y0, y1⟩ := cells2 w1
  clear HSP b1 Z Y kb q
  go_wp2_with fail
  refine (HSA _ _ _ hown).mono ?_
  rintro e W2 ⟨rfl, b2⟩
  have k2 := k1.trans (b2.mono k1.size)
  have z2 := kept z1 b2
  have w2 := kept w1 b2
  have HSC : Hid (sp s = [] ∨ ∃ g, sa = some ⟨g, 0, none⟩ ∧ ∀ (i : Nat) (hi : i < (sp s).length), W2.cell? ⟨g, i * 2 + 1, none⟩ = some (.int .i64 (sp s)[i].2)) := by
    rcases hsc with h | ⟨g, h1, h2⟩
    · exact .inl h
    · exact .inr ⟨g, h1, fun i hi => CK.below b2 _ _ _ (h2 i hi).2⟩
  have HW2 : Hid (W2.heap[w.heap.size]? = some (.cells #[.int .i64 x, .int .i64 y] 24 (0, 0))) := w2
  obtain ⟨y0, y1⟩ := cells2 w2
  obtain ⟨r0, r1⟩ := cells2 z2
  have fz : ∀ i, W2.frozen? ⟨w.heap.size + 1, i, none⟩ = false := fun i => by simp [World.frozen?, z2]
  clear HSA hown hsc b2 z1 w1 k1 w2
  have zD : (W2).drew.heap[w.heap.size + 1]? = _ := z2
  have kE := ((k2).setCell (p := ⟨w.heap.size + 1, 0, none⟩) (show w.heap.size ≤ w.heap.size + 1 by omega) (.int .i64 (0))).setCell (p := ⟨w.heap.size + 1, 1, none⟩) (show w.heap.size ≤ w.heap.size + 1 by omega) (.int .i64 ((y : Int)))
  have kF := ((Below.drew (k2)).setCell (p := ⟨w.heap.size + 1, 0, none⟩) (show w.heap.size ≤ w.heap.size + 1 by omega) (.int .i64 (0))).setCell (p := ⟨w.heap.size + 1, 1, none⟩) (show w.heap.size ≤ w.heap.size + 1 by omega) (.int .i64 ((y : Int)))
  go_wp2_with fail
  (try simp only [Exit.inBlock, Exit.then])
  refine bodyPost_ret (v := .tuple #[.agg #[.int .i64 (0), .int .i64 ((y : Int))], .bool true]) ?_ rfl ⟨rfl, by first | exact kE | exact kF | exact Below.drew kE⟩
  refine results_row_tmp rfl _ _ (w.heap.size + 1) 24 _ (0, 0) _ rfl ?_ Tryd.underlying24 rfl (by kernel_rfl) _ rfl
  first | exact heap_setCell_same _ _ 1 _ _ _ (heap_setCell_same _ _ 0 _ _ _ z2) | exact heap_setCell_same _ _ 1 _ _ _ (heap_setCell_same _ _ 0 _ _ _ zD)
set_option maxHeartbeats 8000000 in
set_option maxRecDepth 100000 in
theorem went_top (L : List ByteArray) (v : Value) (x : Int) (y : Nat) (w : World) (h : LsAt w v L) (hy : y < L.length) (hn : L.length ≤ 110) (hL : ∀ s ∈ L, s.size ≤ 4000) :
    Calls Tryd.prog 11 #[v, .agg #[.int .i64 x, .int .i64 y], .string ⟨#[116, 111, 112]⟩] w fun e w' => e = .returned (.tuple #[.agg #[.int .i64 0, .int .i64 0], .bool true]) ∧ Below w.heap.size w w' := by
  have kb : Below w.heap.size w ((w.alloc (.cells #[.int .i64 x, .int .i64 y] 24)).alloc (.cells #[.int .i64 0, .int .i64 0] 24)) := ((Below.refl _ _).alloc (Nat.le_refl _) _).alloc (by rw [World.size_alloc]; omega) _
  have Z := heap_alloc_new (w.alloc (.cells #[.int .i64 x, .int .i64 y] 24)) (.cells #[.int .i64 0, .int .i64 0] 24)
  have Y := (heap_alloc_old (w.alloc (.cells #[.int .i64 x, .int .i64 y] 24)) (.cells #[.int .i64 0, .int .i64 0] 24) (r := w.heap.size) (by rw [World.size_alloc]; omega)).trans (heap_alloc_new w (.cells #[.int .i64 x, .int .i64 y] 24))
  rw [World.size_alloc] at Z
  have HLS : Hid (∀ V, Below w.heap.size w V → LsAt V v L) := fun V hV => h.below hV
  have HLL : Hid (∀ s ∈ L, s.size ≤ 4000) := hL
  obtain ⟨b, o, c, rfl, q⟩ := (h.below kb).get hy
  have hs := ln_size hL y
  have hsl := sp_len (ln L y)
  have HSP := fun V => Txt.spots_any (ln L y) V (by omega)
  rw [show Txt.spotsL (Txt.runes (ln L y)) 0 = sp (ln L y) from rfl] at HSP
  have HSA := fun base v V h => spotAt_any base v (sp (ln L y)) x V h (sp_lt _) (by omega)
  rw [show (sp (ln L y)).map (·.2) = cols (ln L y) from rfl] at HSA
  have iy : (y : Int) < (L.length : Int) := by omega
  have iy0 : (0 : Int) ≤ (y : Int) := by omega
  have a1 := atI_ge (cols (ln L y)) x
  have a2 := atI_lt (cols (ln L y)) x
  have hcl := cols_len (ln L y)
  have hS4 : (sp (ln L y)).length ≤ 4000 := Nat.le_trans hsl hs
  have hwl : wrap64 ((L.length : Int) - 1) = (L.length : Int) - 1 := w64_less (by omega)
  obtain ⟨y0, y1⟩ := cells2 Y
  have HCG : Hid (∀ (i : Nat) (hi : i < (sp (ln L y)).length), (cols (ln L y)).getD i 0 = (sp (ln L y))[i].2) := fun i hi => by
    unfold cols
    rw [List.getD_eq_getElem?_getD, List.getElem?_map, List.getElem?_eq_getElem hi]
    rfl
  generalize hsy : ln L y = s at *
  generalize atI (cols s) x = at9 at *
  have HSY : Hid (ln L y = s) := hsy
  clear hsl hs hsy
  go_enter Tryd.func11, Tryd.ntmps11
  go_wp2_with fail
  refine (HSP _).mono ?_
  rintro e W1 ⟨v1, rfl, hown, b1⟩
  obtain ⟨sa, sc, rfl, hsc⟩ := spot_cells hown
  have k1 := kb.trans (b1.mono kb.size)
  have z1 := kept Z b1
  have w1 := kept Y b1
  obtain ⟨y0, y1⟩ := cells2 w1
  clear HSP b1 Z Y kb q
  go_wp2_with fail
  refine (HSA _ _ _ hown).mono ?_
  rintro e W2 ⟨rfl, b2⟩
  have k2 := k1.trans (b2.mono k1.size)
  have z2 := kept z1 b2
  have w2 := kept w1 b2
  have HSC : Hid (sp s = [] ∨ ∃ g, sa = some ⟨g, 0, none⟩ ∧ ∀ (i : Nat) (hi : i < (sp s).length), W2.cell? ⟨g, i * 2 + 1, none⟩ = some (.int .i64 (sp s)[i].2)) := by
    rcases hsc with h | ⟨g, h1, h2⟩
    · exact .inl h
    · exact .inr ⟨g, h1, fun i hi => CK.below b2 _ _ _ (h2 i hi).2⟩
  have HW2 : Hid (W2.heap[w.heap.size]? = some (.cells #[.int .i64 x, .int .i64 y] 24 (0, 0))) := w2
  obtain ⟨y0, y1⟩ := cells2 w2
  obtain ⟨r0, r1⟩ := cells2 z2
  have fz : ∀ i, W2.frozen? ⟨w.heap.size + 1, i, none⟩ = false := fun i => by simp [World.frozen?, z2]
  clear HSA hown hsc b2 z1 w1 k1 w2
  have zD : (W2).drew.heap[w.heap.size + 1]? = _ := z2
  have kE := ((k2).setCell (p := ⟨w.heap.size + 1, 0, none⟩) (show w.heap.size ≤ w.heap.size + 1 by omega) (.int .i64 (0))).setCell (p := ⟨w.heap.size + 1, 1, none⟩) (show w.heap.size ≤ w.heap.size + 1 by omega) (.int .i64 (0))
  have kF := ((Below.drew (k2)).setCell (p := ⟨w.heap.size + 1, 0, none⟩) (show w.heap.size ≤ w.heap.size + 1 by omega) (.int .i64 (0))).setCell (p := ⟨w.heap.size + 1, 1, none⟩) (show w.heap.size ≤ w.heap.size + 1 by omega) (.int .i64 (0))
  go_wp2_with fail
  (try simp only [Exit.inBlock, Exit.then])
  refine bodyPost_ret (v := .tuple #[.agg #[.int .i64 (0), .int .i64 (0)], .bool true]) ?_ rfl ⟨rfl, by first | exact kE | exact kF | exact Below.drew kE⟩
  refine results_row_tmp rfl _ _ (w.heap.size + 1) 24 _ (0, 0) _ rfl ?_ Tryd.underlying24 rfl (by kernel_rfl) _ rfl
  first | exact heap_setCell_same _ _ 1 _ _ _ (heap_setCell_same _ _ 0 _ _ _ z2) | exact heap_setCell_same _ _ 1 _ _ _ (heap_setCell_same _ _ 0 _ _ _ zD)
set_option maxHeartbeats 8000000 in
set_option maxRecDepth 100000 in
theorem went_bottom (L : List ByteArray) (v : Value) (x : Int) (y : Nat) (w : World) (h : LsAt w v L) (hy : y < L.length) (hn : L.length ≤ 110) (hL : ∀ s ∈ L, s.size ≤ 4000) :
    Calls Tryd.prog 11 #[v, .agg #[.int .i64 x, .int .i64 y], .string ⟨#[98, 111, 116, 116, 111, 109]⟩] w fun e w' => e = .returned (.tuple #[.agg #[.int .i64 0, .int .i64 ((L.length : Int) - 1)], .bool true]) ∧ Below w.heap.size w w' := by
  have kb : Below w.heap.size w ((w.alloc (.cells #[.int .i64 x, .int .i64 y] 24)).alloc (.cells #[.int .i64 0, .int .i64 0] 24)) := ((Below.refl _ _).alloc (Nat.le_refl _) _).alloc (by rw [World.size_alloc]; omega) _
  have Z := heap_alloc_new (w.alloc (.cells #[.int .i64 x, .int .i64 y] 24)) (.cells #[.int .i64 0, .int .i64 0] 24)
  have Y := (heap_alloc_old (w.alloc (.cells #[.int .i64 x, .int .i64 y] 24)) (.cells #[.int .i64 0, .int .i64 0] 24) (r := w.heap.size) (by rw [World.size_alloc]; omega)).trans (heap_alloc_new w (.cells #[.int .i64 x, .int .i64 y] 24))
  rw [World.size_alloc] at Z
  have HLS : Hid (∀ V, Below w.heap.size w V → LsAt V v L) := fun V hV => h.below hV
  have HLL : Hid (∀ s ∈ L, s.size ≤ 4000) := hL
  obtain ⟨b, o, c, rfl, q⟩ := (h.below kb).get hy
  have hs := ln_size hL y
  have hsl := sp_len (ln L y)
  have HSP := fun V => Txt.spots_any (ln L y) V (by omega)
  rw [show Txt.spotsL (Txt.runes (ln L y)) 0 = sp (ln L y) from rfl] at HSP
  have HSA := fun base v V h => spotAt_any base v (sp (ln L y)) x V h (sp_lt _) (by omega)
  rw [show (sp (ln L y)).map (·.2) = cols (ln L y) from rfl] at HSA
  have iy : (y : Int) < (L.length : Int) := by omega
  have iy0 : (0 : Int) ≤ (y : Int) := by omega
  have a1 := atI_ge (cols (ln L y)) x
  have a2 := atI_lt (cols (ln L y)) x
  have hcl := cols_len (ln L y)
  have hS4 : (sp (ln L y)).length ≤ 4000 := Nat.le_trans hsl hs
  have hwl : wrap64 ((L.length : Int) - 1) = (L.length : Int) - 1 := w64_less (by omega)
  obtain ⟨y0, y1⟩ := cells2 Y
  have HCG : Hid (∀ (i : Nat) (hi : i < (sp (ln L y)).length), (cols (ln L y)).getD i 0 = (sp (ln L y))[i].2) := fun i hi => by
    unfold cols
    rw [List.getD_eq_getElem?_getD, List.getElem?_map, List.getElem?_eq_getElem hi]
    rfl
  generalize hsy : ln L y = s at *
  generalize atI (cols s) x = at9 at *
  have HSY : Hid (ln L y = s) := hsy
  clear hsl hs hsy
  go_enter Tryd.func11, Tryd.ntmps11
  go_wp2_with fail
  refine (HSP _).mono ?_
  rintro e W1 ⟨v1, rfl, hown, b1⟩
  obtain ⟨sa, sc, rfl, hsc⟩ := spot_cells hown
  have k1 := kb.trans (b1.mono kb.size)
  have z1 := kept Z b1
  have w1 := kept Y b1
  obtain ⟨y0, y1⟩ := cells2 w1
  clear HSP b1 Z Y kb q
  go_wp2_with fail
  refine (HSA _ _ _ hown).mono ?_
  rintro e W2 ⟨rfl, b2⟩
  have k2 := k1.trans (b2.mono k1.size)
  have z2 := kept z1 b2
  have w2 := kept w1 b2
  have HSC : Hid (sp s = [] ∨ ∃ g, sa = some ⟨g, 0, none⟩ ∧ ∀ (i : Nat) (hi : i < (sp s).length), W2.cell? ⟨g, i * 2 + 1, none⟩ = some (.int .i64 (sp s)[i].2)) := by
    rcases hsc with h | ⟨g, h1, h2⟩
    · exact .inl h
    · exact .inr ⟨g, h1, fun i hi => CK.below b2 _ _ _ (h2 i hi).2⟩
  have HW2 : Hid (W2.heap[w.heap.size]? = some (.cells #[.int .i64 x, .int .i64 y] 24 (0, 0))) := w2
  obtain ⟨y0, y1⟩ := cells2 w2
  obtain ⟨r0, r1⟩ := cells2 z2
  have fz : ∀ i, W2.frozen? ⟨w.heap.size + 1, i, none⟩ = false := fun i => by simp [World.frozen?, z2]
  clear HSA hown hsc b2 z1 w1 k1 w2
  have zD : (W2).drew.heap[w.heap.size + 1]? = _ := z2
  have kE := ((k2).setCell (p := ⟨w.heap.size + 1, 0, none⟩) (show w.heap.size ≤ w.heap.size + 1 by omega) (.int .i64 (0))).setCell (p := ⟨w.heap.size + 1, 1, none⟩) (show w.heap.size ≤ w.heap.size + 1 by omega) (.int .i64 ((L.length : Int) - 1))
  have kF := ((Below.drew (k2)).setCell (p := ⟨w.heap.size + 1, 0, none⟩) (show w.heap.size ≤ w.heap.size + 1 by omega) (.int .i64 (0))).setCell (p := ⟨w.heap.size + 1, 1, none⟩) (show w.heap.size ≤ w.heap.size + 1 by omega) (.int .i64 ((L.length : Int) - 1))
  go_wp2_with fail
  (try simp only [Exit.inBlock, Exit.then])
  refine bodyPost_ret (v := .tuple #[.agg #[.int .i64 (0), .int .i64 ((L.length : Int) - 1)], .bool true]) ?_ rfl ⟨rfl, by first | exact kE | exact kF | exact Below.drew kE⟩
  refine results_row_tmp rfl _ _ (w.heap.size + 1) 24 _ (0, 0) _ rfl ?_ Tryd.underlying24 rfl (by kernel_rfl) _ rfl
  first | exact heap_setCell_same _ _ 1 _ _ _ (heap_setCell_same _ _ 0 _ _ _ z2) | exact heap_setCell_same _ _ 1 _ _ _ (heap_setCell_same _ _ 0 _ _ _ zD)
set_option maxHeartbeats 8000000 in
set_option maxRecDepth 100000 in
theorem went_left (L : List ByteArray) (v : Value) (x : Int) (y : Nat) (w : World) (h : LsAt w v L) (hy : y < L.length) (hn : L.length ≤ 110) (hL : ∀ s ∈ L, s.size ≤ 4000) :
    Calls Tryd.prog 11 #[v, .agg #[.int .i64 x, .int .i64 y], .string ⟨#[108, 101, 102, 116]⟩] w fun e w' => e = .returned (.tuple #[.agg #[.int .i64 (leftM L x y).1, .int .i64 (leftM L x y).2], .bool true]) ∧ Below w.heap.size w w' := by
  obtain ⟨R, hR⟩ : ∃ R, leftM L x y = R := ⟨_, rfl⟩
  rw [hR]
  unfold leftM at hR
  have kb : Below w.heap.size w ((w.alloc (.cells #[.int .i64 x, .int .i64 y] 24)).alloc (.cells #[.int .i64 0, .int .i64 0] 24)) := ((Below.refl _ _).alloc (Nat.le_refl _) _).alloc (by rw [World.size_alloc]; omega) _
  have Z := heap_alloc_new (w.alloc (.cells #[.int .i64 x, .int .i64 y] 24)) (.cells #[.int .i64 0, .int .i64 0] 24)
  have Y := (heap_alloc_old (w.alloc (.cells #[.int .i64 x, .int .i64 y] 24)) (.cells #[.int .i64 0, .int .i64 0] 24) (r := w.heap.size) (by rw [World.size_alloc]; omega)).trans (heap_alloc_new w (.cells #[.int .i64 x, .int .i64 y] 24))
  rw [World.size_alloc] at Z
  have HLS : Hid (∀ V, Below w.heap.size w V → LsAt V v L) := fun V hV => h.below hV
  have HLL : Hid (∀ s ∈ L, s.size ≤ 4000) := hL
  obtain ⟨b, o, c, rfl, q⟩ := (h.below kb).get hy
  have hs := ln_size hL y
  have hsl := sp_len (ln L y)
  have HSP := fun V => Txt.spots_any (ln L y) V (by omega)
  rw [show Txt.spotsL (Txt.runes (ln L y)) 0 = sp (ln L y) from rfl] at HSP
  have HSA := fun base v V h => spotAt_any base v (sp (ln L y)) x V h (sp_lt _) (by omega)
  rw [show (sp (ln L y)).map (·.2) = cols (ln L y) from rfl] at HSA
  have iy : (y : Int) < (L.length : Int) := by omega
  have iy0 : (0 : Int) ≤ (y : Int) := by omega
  have a1 := atI_ge (cols (ln L y)) x
  have a2 := atI_lt (cols (ln L y)) x
  have hcl := cols_len (ln L y)
  have hS4 : (sp (ln L y)).length ≤ 4000 := Nat.le_trans hsl hs
  have hwl : wrap64 ((L.length : Int) - 1) = (L.length : Int) - 1 := w64_less (by omega)
  obtain ⟨y0, y1⟩ := cells2 Y
  have HCG : Hid (∀ (i : Nat) (hi : i < (sp (ln L y)).length), (cols (ln L y)).getD i 0 = (sp (ln L y))[i].2) := fun i hi => by
    unfold cols
    rw [List.getD_eq_getElem?_getD, List.getElem?_map, List.getElem?_eq_getElem hi]
    rfl
  generalize hsy : ln L y = s at *
  generalize atI (cols s) x = at9 at *
  have HSY : Hid (ln L y = s) := hsy
  clear hsl hs hsy
  go_enter Tryd.func11, Tryd.ntmps11
  go_wp2_with fail
  refine (HSP _).mono ?_
  rintro e W1 ⟨v1, rfl, hown, b1⟩
  obtain ⟨sa, sc, rfl, hsc⟩ := spot_cells hown
  have k1 := kb.trans (b1.mono kb.size)
  have z1 := kept Z b1
  have w1 := kept Y b1
  obtain ⟨y0, y1⟩ := cells2 w1
  clear HSP b1 Z Y kb q
  go_wp2_with fail
  refine (HSA _ _ _ hown).mono ?_
  rintro e W2 ⟨rfl, b2⟩
  have k2 := k1.trans (b2.mono k1.size)
  have z2 := kept z1 b2
  have w2 := kept w1 b2
  have HSC : Hid (sp s = [] ∨ ∃ g, sa = some ⟨g, 0, none⟩ ∧ ∀ (i : Nat) (hi : i < (sp s).length), W2.cell? ⟨g, i * 2 + 1, none⟩ = some (.int .i64 (sp s)[i].2)) := by
    rcases hsc with h | ⟨g, h1, h2⟩
    · exact .inl h
    · exact .inr ⟨g, h1, fun i hi => CK.below b2 _ _ _ (h2 i hi).2⟩
  have HW2 : Hid (W2.heap[w.heap.size]? = some (.cells #[.int .i64 x, .int .i64 y] 24 (0, 0))) := w2
  obtain ⟨y0, y1⟩ := cells2 w2
  obtain ⟨r0, r1⟩ := cells2 z2
  have fz : ∀ i, W2.frozen? ⟨w.heap.size + 1, i, none⟩ = false := fun i => by simp [World.frozen?, z2]
  clear HSA hown hsc b2 z1 w1 k1 w2
  by_cases g : 0 < at9
  · rw [if_pos g] at hR
    obtain ⟨m, hm⟩ : ∃ m : Nat, at9 = (m : Int) + 1 := ⟨(at9 - 1).toNat, by clear hwl; omega⟩
    subst hm
    have hml : m < (sp s).length := by clear hwl; omega
    have hX := HCG.out m hml
    rw [show ((m : Int) + 1).toNat - 1 = m by clear hwl; omega, hX] at hR
    obtain ⟨g1, rfl, hg⟩ := HSC.out.resolve_left (by intro e; rw [e] at hml; simp at hml)
    have q := hg m hml
    have im : (m : Int) < ((sp s).length : Int) := Int.ofNat_lt.2 hml
    have i1 : (1 : Int) ≤ (m : Int) + 1 := by clear hwl; omega
    have wm : wrap64 ((m : Int) + 1 - 1) = (m : Int) := w64_back (by clear hwl; omega)
    generalize (sp s)[m].2 = cm at *
    subst hR
    clear hX hg HSC HCG a1 a2 g
    go_upto_region 11 with fail
    go_region
    all_goals
      have zD : (W2).drew.heap[w.heap.size + 1]? = _ := z2
      have kE := ((k2).setCell (p := ⟨w.heap.size + 1, 0, none⟩) (show w.heap.size ≤ w.heap.size + 1 by omega) (.int .i64 (cm))).setCell (p := ⟨w.heap.size + 1, 1, none⟩) (show w.heap.size ≤ w.heap.size + 1 by omega) (.int .i64 ((y : Int)))
      have kF := ((Below.drew (k2)).setCell (p := ⟨w.heap.size + 1, 0, none⟩) (show w.heap.size ≤ w.heap.size + 1 by omega) (.int .i64 (cm))).setCell (p := ⟨w.heap.size + 1, 1, none⟩) (show w.heap.size ≤ w.heap.size + 1 by omega) (.int .i64 ((y : Int)))
      go_wp2_with fail
      (try simp only [Exit.inBlock, Exit.then])
      refine bodyPost_ret (v := .tuple #[.agg #[.int .i64 (cm), .int .i64 ((y : Int))], .bool true]) ?_ rfl ⟨rfl, by first | exact kE | exact kF | exact Below.drew kE⟩
      refine results_row_tmp rfl _ _ (w.heap.size + 1) 24 _ (0, 0) _ rfl ?_ Tryd.underlying24 rfl (by kernel_rfl) _ rfl
      first | exact heap_setCell_same _ _ 1 _ _ _ (heap_setCell_same _ _ 0 _ _ _ z2) | exact heap_setCell_same _ _ 1 _ _ _ (heap_setCell_same _ _ 0 _ _ _ zD)
  · rw [if_neg g] at hR
    have i1 : ¬ (1 : Int) ≤ at9 := by clear hwl; omega
    by_cases g2 : 0 < y
    · rw [if_pos g2] at hR
      obtain ⟨b', o', c', hv, q⟩ := (HLS.out _ k2).get (show y - 1 < L.length by clear hwl; omega)
      injection hv with e1 e2 e3
      injection e1 with e1
      injection e1 with e1 e4
      subst e1 e4 e3
      have i2 : (0 : Int) < (y : Int) := Int.ofNat_lt.2 g2
      have i3 : (y : Int) - 1 < (L.length : Int) := by clear hwl; omega
      have i4 : (0 : Int) ≤ (y : Int) - 1 := by clear hwl; omega
      have i5 : (1 : Int) ≤ (y : Int) := by clear hwl; omega
      have i6 : ¬ (y : Int) < 1 := by clear hwl; omega
      have i7 : 1 ≤ y := g2
      have i8 : ¬ (L.length : Int) ≤ (y : Int) - 1 := by clear hwl; omega
      have i9 : ¬ (y : Int) - 1 < 0 := by clear hwl; omega
      have ty : ((y : Int) - 1).toNat = y - 1 := by clear hwl; omega
      have hs1 := ln_size HLL.out (y - 1)
      have hwy : wrap64 ((y : Int) - 1) = (y : Int) - 1 := w64_less (by clear hwl; omega)
      have hwi : IntKind.i64.wrap ((y : Int) - 1) = (y : Int) - 1 := (IntWalk.i64_in _ ⟨by clear hwl hwy; omega, by clear hwl hwy; omega⟩)
      generalize ln L (y - 1) = s1 at *
      have HEO := fun V => endOf_any s1 V hs1
      generalize endI (cols s1) = em at *
      subst hR
      go_upto_region 13 with fail
      go_region_with (go_at_call 32; refine (HEO _).mono ?_; rintro e V ⟨rfl, bv⟩; have k3 := (Below.drew k2).trans (bv.mono k2.size); have z3 := kept (w := W2.drew) z2 bv; obtain ⟨v0, v1⟩ := cells2 (kept (w := W2.drew) HW2.out bv); obtain ⟨t0, t1⟩ := cells2 z3; have fv : ∀ i, V.frozen? ⟨w.heap.size + 1, i, none⟩ = false := fun i => by simp [World.frozen?, z3])
      all_goals
        have zD : (V).drew.heap[w.heap.size + 1]? = _ := z3
        have kE := ((k3).setCell (p := ⟨w.heap.size + 1, 0, none⟩) (show w.heap.size ≤ w.heap.size + 1 by omega) (.int .i64 (em))).setCell (p := ⟨w.heap.size + 1, 1, none⟩) (show w.heap.size ≤ w.heap.size + 1 by omega) (.int .i64 ((y : Int) - 1))
        have kF := ((Below.drew (k3)).setCell (p := ⟨w.heap.size + 1, 0, none⟩) (show w.heap.size ≤ w.heap.size + 1 by omega) (.int .i64 (em))).setCell (p := ⟨w.heap.size + 1, 1, none⟩) (show w.heap.size ≤ w.heap.size + 1 by omega) (.int .i64 ((y : Int) - 1))
        go_wp2_with fail
        (try simp only [Exit.inBlock, Exit.then])
        refine bodyPost_ret (v := .tuple #[.agg #[.int .i64 (em), .int .i64 ((y : Int) - 1)], .bool true]) ?_ rfl ⟨rfl, by first | exact kE | exact kF | exact Below.drew kE⟩
        refine results_row_tmp rfl _ _ (w.heap.size + 1) 24 _ (0, 0) _ rfl ?_ Tryd.underlying24 rfl (by kernel_rfl) _ rfl
        first | exact heap_setCell_same _ _ 1 _ _ _ (heap_setCell_same _ _ 0 _ _ _ z3) | exact heap_setCell_same _ _ 1 _ _ _ (heap_setCell_same _ _ 0 _ _ _ zD)
    · rw [if_neg g2] at hR
      subst hR
      have i2 : ¬ (0 : Int) < (y : Int) := by clear hwl; omega
      have zD : (W2).drew.heap[w.heap.size + 1]? = _ := z2
      have kE := ((k2).setCell (p := ⟨w.heap.size + 1, 0, none⟩) (show w.heap.size ≤ w.heap.size + 1 by omega) (.int .i64 (x))).setCell (p := ⟨w.heap.size + 1, 1, none⟩) (show w.heap.size ≤ w.heap.size + 1 by omega) (.int .i64 ((y : Int)))
      have kF := ((Below.drew (k2)).setCell (p := ⟨w.heap.size + 1, 0, none⟩) (show w.heap.size ≤ w.heap.size + 1 by omega) (.int .i64 (x))).setCell (p := ⟨w.heap.size + 1, 1, none⟩) (show w.heap.size ≤ w.heap.size + 1 by omega) (.int .i64 ((y : Int)))
      go_wp2_with fail
      (try simp only [Exit.inBlock, Exit.then])
      refine bodyPost_ret (v := .tuple #[.agg #[.int .i64 (x), .int .i64 ((y : Int))], .bool true]) ?_ rfl ⟨rfl, by first | exact kE | exact kF | exact Below.drew kE⟩
      refine results_row_tmp rfl _ _ (w.heap.size + 1) 24 _ (0, 0) _ rfl ?_ Tryd.underlying24 rfl (by kernel_rfl) _ rfl
      first | exact heap_setCell_same _ _ 1 _ _ _ (heap_setCell_same _ _ 0 _ _ _ z2) | exact heap_setCell_same _ _ 1 _ _ _ (heap_setCell_same _ _ 0 _ _ _ zD)
set_option maxHeartbeats 8000000 in
set_option maxRecDepth 100000 in
theorem went_right (L : List ByteArray) (v : Value) (x : Int) (y : Nat) (w : World) (h : LsAt w v L) (hy : y < L.length) (hn : L.length ≤ 110) (hL : ∀ s ∈ L, s.size ≤ 4000) :
    Calls Tryd.prog 11 #[v, .agg #[.int .i64 x, .int .i64 y], .string ⟨#[114, 105, 103, 104, 116]⟩] w fun e w' => e = .returned (.tuple #[.agg #[.int .i64 (rightM L x y).1, .int .i64 (rightM L x y).2], .bool true]) ∧ Below w.heap.size w w' := by
  obtain ⟨R, hR⟩ : ∃ R, rightM L x y = R := ⟨_, rfl⟩
  rw [hR]
  unfold rightM at hR
  have kb : Below w.heap.size w ((w.alloc (.cells #[.int .i64 x, .int .i64 y] 24)).alloc (.cells #[.int .i64 0, .int .i64 0] 24)) := ((Below.refl _ _).alloc (Nat.le_refl _) _).alloc (by rw [World.size_alloc]; omega) _
  have Z := heap_alloc_new (w.alloc (.cells #[.int .i64 x, .int .i64 y] 24)) (.cells #[.int .i64 0, .int .i64 0] 24)
  have Y := (heap_alloc_old (w.alloc (.cells #[.int .i64 x, .int .i64 y] 24)) (.cells #[.int .i64 0, .int .i64 0] 24) (r := w.heap.size) (by rw [World.size_alloc]; omega)).trans (heap_alloc_new w (.cells #[.int .i64 x, .int .i64 y] 24))
  rw [World.size_alloc] at Z
  have HLS : Hid (∀ V, Below w.heap.size w V → LsAt V v L) := fun V hV => h.below hV
  have HLL : Hid (∀ s ∈ L, s.size ≤ 4000) := hL
  obtain ⟨b, o, c, rfl, q⟩ := (h.below kb).get hy
  have hs := ln_size hL y
  have hsl := sp_len (ln L y)
  have HSP := fun V => Txt.spots_any (ln L y) V (by omega)
  rw [show Txt.spotsL (Txt.runes (ln L y)) 0 = sp (ln L y) from rfl] at HSP
  have HSA := fun base v V h => spotAt_any base v (sp (ln L y)) x V h (sp_lt _) (by omega)
  rw [show (sp (ln L y)).map (·.2) = cols (ln L y) from rfl] at HSA
  have iy : (y : Int) < (L.length : Int) := by omega
  have iy0 : (0 : Int) ≤ (y : Int) := by omega
  have a1 := atI_ge (cols (ln L y)) x
  have a2 := atI_lt (cols (ln L y)) x
  have hcl := cols_len (ln L y)
  have hS4 : (sp (ln L y)).length ≤ 4000 := Nat.le_trans hsl hs
  have hwl : wrap64 ((L.length : Int) - 1) = (L.length : Int) - 1 := w64_less (by omega)
  obtain ⟨y0, y1⟩ := cells2 Y
  have HCG : Hid (∀ (i : Nat) (hi : i < (sp (ln L y)).length), (cols (ln L y)).getD i 0 = (sp (ln L y))[i].2) := fun i hi => by
    unfold cols
    rw [List.getD_eq_getElem?_getD, List.getElem?_map, List.getElem?_eq_getElem hi]
    rfl
  generalize hsy : ln L y = s at *
  generalize atI (cols s) x = at9 at *
  have HSY : Hid (ln L y = s) := hsy
  clear hsl hs hsy
  go_enter Tryd.func11, Tryd.ntmps11
  go_wp2_with fail
  refine (HSP _).mono ?_
  rintro e W1 ⟨v1, rfl, hown, b1⟩
  obtain ⟨sa, sc, rfl, hsc⟩ := spot_cells hown
  have k1 := kb.trans (b1.mono kb.size)
  have z1 := kept Z b1
  have w1 := kept Y b1
  obtain ⟨y0, y1⟩ := cells2 w1
  clear HSP b1 Z Y kb q
  go_wp2_with fail
  refine (HSA _ _ _ hown).mono ?_
  rintro e W2 ⟨rfl, b2⟩
  have k2 := k1.trans (b2.mono k1.size)
  have z2 := kept z1 b2
  have w2 := kept w1 b2
  have HSC : Hid (sp s = [] ∨ ∃ g, sa = some ⟨g, 0, none⟩ ∧ ∀ (i : Nat) (hi : i < (sp s).length), W2.cell? ⟨g, i * 2 + 1, none⟩ = some (.int .i64 (sp s)[i].2)) := by
    rcases hsc with h | ⟨g, h1, h2⟩
    · exact .inl h
    · exact .inr ⟨g, h1, fun i hi => CK.below b2 _ _ _ (h2 i hi).2⟩
  have HW2 : Hid (W2.heap[w.heap.size]? = some (.cells #[.int .i64 x, .int .i64 y] 24 (0, 0))) := w2
  obtain ⟨y0, y1⟩ := cells2 w2
  obtain ⟨r0, r1⟩ := cells2 z2
  have fz : ∀ i, W2.frozen? ⟨w.heap.size + 1, i, none⟩ = false := fun i => by simp [World.frozen?, z2]
  clear HSA hown hsc b2 z1 w1 k1 w2
  have hwa : wrap64 (at9 + 1) = at9 + 1 := w64_small1 (by clear hwl; omega) (by clear hwl; omega)
  by_cases g : at9 + 1 < ((cols s).length : Int)
  · rw [if_pos g] at hR
    obtain ⟨m, hm⟩ : ∃ m : Nat, at9 = (m : Int) - 1 := ⟨(at9 + 1).toNat, by clear hwl hwa; omega⟩
    subst hm
    have hml : m < (sp s).length := by clear hwl hwa; omega
    have em : (m : Int) - 1 + 1 = (m : Int) := by clear hwl hwa; omega
    have hX := HCG.out m hml
    rw [em] at hwa
    rw [em, Int.toNat_natCast, hX] at hR
    obtain ⟨g1, rfl, hg⟩ := HSC.out.resolve_left (by intro e; rw [e] at hml; simp at hml)
    have q := hg m hml
    have im : (m : Int) < ((sp s).length : Int) := Int.ofNat_lt.2 hml
    generalize (sp s)[m].2 = cm at *
    subst hR
    clear hX hg HSC HCG a1 a2 g
    go_upto_region 17 with fail
    go_region
    all_goals
      have zD : (W2).drew.heap[w.heap.size + 1]? = _ := z2
      have kE := ((k2).setCell (p := ⟨w.heap.size + 1, 0, none⟩) (show w.heap.size ≤ w.heap.size + 1 by omega) (.int .i64 (cm))).setCell (p := ⟨w.heap.size + 1, 1, none⟩) (show w.heap.size ≤ w.heap.size + 1 by omega) (.int .i64 ((y : Int)))
      have kF := ((Below.drew (k2)).setCell (p := ⟨w.heap.size + 1, 0, none⟩) (show w.heap.size ≤ w.heap.size + 1 by omega) (.int .i64 (cm))).setCell (p := ⟨w.heap.size + 1, 1, none⟩) (show w.heap.size ≤ w.heap.size + 1 by omega) (.int .i64 ((y : Int)))
      go_wp2_with fail
      (try simp only [Exit.inBlock, Exit.then])
      refine bodyPost_ret (v := .tuple #[.agg #[.int .i64 (cm), .int .i64 ((y : Int))], .bool true]) ?_ rfl ⟨rfl, by first | exact kE | exact kF | exact Below.drew kE⟩
      refine results_row_tmp rfl _ _ (w.heap.size + 1) 24 _ (0, 0) _ rfl ?_ Tryd.underlying24 rfl (by kernel_rfl) _ rfl
      first | exact heap_setCell_same _ _ 1 _ _ _ (heap_setCell_same _ _ 0 _ _ _ z2) | exact heap_setCell_same _ _ 1 _ _ _ (heap_setCell_same _ _ 0 _ _ _ zD)
  · rw [if_neg g] at hR
    have i1 : ¬ at9 + 1 < ((sp s).length : Int) := by rw [← hcl]; exact g
    by_cases g2 : y + 1 < L.length
    · rw [if_pos g2] at hR
      subst hR
      have i2 : (y : Int) < (L.length : Int) - 1 := by clear hwl hwa; omega
      have hwy : wrap64 ((y : Int) + 1) = (y : Int) + 1 := w64_more (by clear hwl hwa; omega)
      have zD : (W2).drew.heap[w.heap.size + 1]? = _ := z2
      have kE := ((k2).setCell (p := ⟨w.heap.size + 1, 0, none⟩) (show w.heap.size ≤ w.heap.size + 1 by omega) (.int .i64 (0))).setCell (p := ⟨w.heap.size + 1, 1, none⟩) (show w.heap.size ≤ w.heap.size + 1 by omega) (.int .i64 ((y : Int) + 1))
      have kF := ((Below.drew (k2)).setCell (p := ⟨w.heap.size + 1, 0, none⟩) (show w.heap.size ≤ w.heap.size + 1 by omega) (.int .i64 (0))).setCell (p := ⟨w.heap.size + 1, 1, none⟩) (show w.heap.size ≤ w.heap.size + 1 by omega) (.int .i64 ((y : Int) + 1))
      go_wp2_with fail
      (try simp only [Exit.inBlock, Exit.then])
      refine bodyPost_ret (v := .tuple #[.agg #[.int .i64 (0), .int .i64 ((y : Int) + 1)], .bool true]) ?_ rfl ⟨rfl, by first | exact kE | exact kF | exact Below.drew kE⟩
      refine results_row_tmp rfl _ _ (w.heap.size + 1) 24 _ (0, 0) _ rfl ?_ Tryd.underlying24 rfl (by kernel_rfl) _ rfl
      first | exact heap_setCell_same _ _ 1 _ _ _ (heap_setCell_same _ _ 0 _ _ _ z2) | exact heap_setCell_same _ _ 1 _ _ _ (heap_setCell_same _ _ 0 _ _ _ zD)
    · rw [if_neg g2] at hR
      subst hR
      have i2 : ¬ (y : Int) < (L.length : Int) - 1 := by clear hwl hwa; omega
      have zD : (W2).drew.heap[w.heap.size + 1]? = _ := z2
      have kE := ((k2).setCell (p := ⟨w.heap.size + 1, 0, none⟩) (show w.heap.size ≤ w.heap.size + 1 by omega) (.int .i64 (x))).setCell (p := ⟨w.heap.size + 1, 1, none⟩) (show w.heap.size ≤ w.heap.size + 1 by omega) (.int .i64 ((y : Int)))
      have kF := ((Below.drew (k2)).setCell (p := ⟨w.heap.size + 1, 0, none⟩) (show w.heap.size ≤ w.heap.size + 1 by omega) (.int .i64 (x))).setCell (p := ⟨w.heap.size + 1, 1, none⟩) (show w.heap.size ≤ w.heap.size + 1 by omega) (.int .i64 ((y : Int)))
      go_wp2_with fail
      (try simp only [Exit.inBlock, Exit.then])
      refine bodyPost_ret (v := .tuple #[.agg #[.int .i64 (x), .int .i64 ((y : Int))], .bool true]) ?_ rfl ⟨rfl, by first | exact kE | exact kF | exact Below.drew kE⟩
      refine results_row_tmp rfl _ _ (w.heap.size + 1) 24 _ (0, 0) _ rfl ?_ Tryd.underlying24 rfl (by kernel_rfl) _ rfl
      first | exact heap_setCell_same _ _ 1 _ _ _ (heap_setCell_same _ _ 0 _ _ _ z2) | exact heap_setCell_same _ _ 1 _ _ _ (heap_setCell_same _ _ 0 _ _ _ zD)
set_option maxHeartbeats 8000000 in
set_option maxRecDepth 100000 in
theorem went_end (L : List ByteArray) (v : Value) (x : Int) (y : Nat) (w : World) (h : LsAt w v L) (hy : y < L.length) (hn : L.length ≤ 110) (hL : ∀ s ∈ L, s.size ≤ 4000) :
    Calls Tryd.prog 11 #[v, .agg #[.int .i64 x, .int .i64 y], .string ⟨#[101, 110, 100]⟩] w fun e w' => e = .returned (.tuple #[.agg #[.int .i64 (endI (cols (ln L y))), .int .i64 y], .bool true]) ∧ Below w.heap.size w w' := by
  obtain ⟨R, hR⟩ : ∃ R, endI (cols (ln L y)) = R := ⟨_, rfl⟩
  rw [hR]
  have kb : Below w.heap.size w ((w.alloc (.cells #[.int .i64 x, .int .i64 y] 24)).alloc (.cells #[.int .i64 0, .int .i64 0] 24)) := ((Below.refl _ _).alloc (Nat.le_refl _) _).alloc (by rw [World.size_alloc]; omega) _
  have Z := heap_alloc_new (w.alloc (.cells #[.int .i64 x, .int .i64 y] 24)) (.cells #[.int .i64 0, .int .i64 0] 24)
  have Y := (heap_alloc_old (w.alloc (.cells #[.int .i64 x, .int .i64 y] 24)) (.cells #[.int .i64 0, .int .i64 0] 24) (r := w.heap.size) (by rw [World.size_alloc]; omega)).trans (heap_alloc_new w (.cells #[.int .i64 x, .int .i64 y] 24))
  rw [World.size_alloc] at Z
  have HLS : Hid (∀ V, Below w.heap.size w V → LsAt V v L) := fun V hV => h.below hV
  have HLL : Hid (∀ s ∈ L, s.size ≤ 4000) := hL
  obtain ⟨b, o, c, rfl, q⟩ := (h.below kb).get hy
  have hs := ln_size hL y
  have hsl := sp_len (ln L y)
  have HSP := fun V => Txt.spots_any (ln L y) V (by omega)
  rw [show Txt.spotsL (Txt.runes (ln L y)) 0 = sp (ln L y) from rfl] at HSP
  have HSA := fun base v V h => spotAt_any base v (sp (ln L y)) x V h (sp_lt _) (by omega)
  rw [show (sp (ln L y)).map (·.2) = cols (ln L y) from rfl] at HSA
  have iy : (y : Int) < (L.length : Int) := by omega
  have iy0 : (0 : Int) ≤ (y : Int) := by omega
  have a1 := atI_ge (cols (ln L y)) x
  have a2 := atI_lt (cols (ln L y)) x
  have hcl := cols_len (ln L y)
  have hS4 : (sp (ln L y)).length ≤ 4000 := Nat.le_trans hsl hs
  have hwl : wrap64 ((L.length : Int) - 1) = (L.length : Int) - 1 := w64_less (by omega)
  obtain ⟨y0, y1⟩ := cells2 Y
  have HCG : Hid (∀ (i : Nat) (hi : i < (sp (ln L y)).length), (cols (ln L y)).getD i 0 = (sp (ln L y))[i].2) := fun i hi => by
    unfold cols
    rw [List.getD_eq_getElem?_getD, List.getElem?_map, List.getElem?_eq_getElem hi]
    rfl
  generalize hsy : ln L y = s at *
  generalize atI (cols s) x = at9 at *
  have HSY : Hid (ln L y = s) := hsy
  clear hsl hs hsy
  go_enter Tryd.func11, Tryd.ntmps11
  go_wp2_with fail
  refine (HSP _).mono ?_
  rintro e W1 ⟨v1, rfl, hown, b1⟩
  obtain ⟨sa, sc, rfl, hsc⟩ := spot_cells hown
  have k1 := kb.trans (b1.mono kb.size)
  have z1 := kept Z b1
  have w1 := kept Y b1
  obtain ⟨y0, y1⟩ := cells2 w1
  clear HSP b1 Z Y kb q
  go_wp2_with fail
  refine (HSA _ _ _ hown).mono ?_
  rintro e W2 ⟨rfl, b2⟩
  have k2 := k1.trans (b2.mono k1.size)
  have z2 := kept z1 b2
  have w2 := kept w1 b2
  have HSC : Hid (sp s = [] ∨ ∃ g, sa = some ⟨g, 0, none⟩ ∧ ∀ (i : Nat) (hi : i < (sp s).length), W2.cell? ⟨g, i * 2 + 1, none⟩ = some (.int .i64 (sp s)[i].2)) := by
    rcases hsc with h | ⟨g, h1, h2⟩
    · exact .inl h
    · exact .inr ⟨g, h1, fun i hi => CK.below b2 _ _ _ (h2 i hi).2⟩
  have HW2 : Hid (W2.heap[w.heap.size]? = some (.cells #[.int .i64 x, .int .i64 y] 24 (0, 0))) := w2
  obtain ⟨y0, y1⟩ := cells2 w2
  obtain ⟨r0, r1⟩ := cells2 z2
  have fz : ∀ i, W2.frozen? ⟨w.heap.size + 1, i, none⟩ = false := fun i => by simp [World.frozen?, z2]
  clear HSA hown hsc b2 z1 w1 k1 w2
  obtain ⟨b', o', c', hv, q⟩ := (HLS.out _ k2).get hy
  injection hv with e1 e2 e3
  injection e1 with e1
  injection e1 with e1 e4
  subst e1 e4 e3
  rw [HSY.out] at q
  have hs1 : s.size ≤ 4000 := by rw [← HSY.out]; exact ln_size HLL.out y
  have HEO := fun V => endOf_any s V hs1
  generalize endI (cols s) = em at *
  subst hR
  go_upto_region 24 with fail
  go_region_with (go_at_call 32; refine (HEO _).mono ?_; rintro e V ⟨rfl, bv⟩; have k3 := (Below.drew k2).trans (bv.mono k2.size); have z3 := kept (w := W2.drew) z2 bv; obtain ⟨v0, v1⟩ := cells2 (kept (w := W2.drew) HW2.out bv); obtain ⟨t0, t1⟩ := cells2 z3; have fv : ∀ i, V.frozen? ⟨w.heap.size + 1, i, none⟩ = false := fun i => by simp [World.frozen?, z3])
  all_goals
    have zD : (V).drew.heap[w.heap.size + 1]? = _ := z3
    have kE := ((k3).setCell (p := ⟨w.heap.size + 1, 0, none⟩) (show w.heap.size ≤ w.heap.size + 1 by omega) (.int .i64 (em))).setCell (p := ⟨w.heap.size + 1, 1, none⟩) (show w.heap.size ≤ w.heap.size + 1 by omega) (.int .i64 ((y : Int)))
    have kF := ((Below.drew (k3)).setCell (p := ⟨w.heap.size + 1, 0, none⟩) (show w.heap.size ≤ w.heap.size + 1 by omega) (.int .i64 (em))).setCell (p := ⟨w.heap.size + 1, 1, none⟩) (show w.heap.size ≤ w.heap.size + 1 by omega) (.int .i64 ((y : Int)))
    go_wp2_with fail
    (try simp only [Exit.inBlock, Exit.then])
    refine bodyPost_ret (v := .tuple #[.agg #[.int .i64 (em), .int .i64 ((y : Int))], .bool true]) ?_ rfl ⟨rfl, by first | exact kE | exact kF | exact Below.drew kE⟩
    refine results_row_tmp rfl _ _ (w.heap.size + 1) 24 _ (0, 0) _ rfl ?_ Tryd.underlying24 rfl (by kernel_rfl) _ rfl
    first | exact heap_setCell_same _ _ 1 _ _ _ (heap_setCell_same _ _ 0 _ _ _ z3) | exact heap_setCell_same _ _ 1 _ _ _ (heap_setCell_same _ _ 0 _ _ _ zD)
end Cpy
end Go.Proofs.YtlodmffiengnaaaDoor

/- Package copying: what is pure: the reference's row of steps, and the first word in it. -/
namespace Go.Proofs.YtlodmffiengnaaaDoor
open Go.ChangeShapes Go.WideShapes Go.ChangeAt Go.RowKit Go.Maps
namespace Cpy
/-- A line's steps: is it a blank; where. Behind each line one blank. -/
def stepsOf (y : Nat) (S : List (Int × Int)) : List (Bool × Int × Int) := S.map (fun r => (r.1 == 32, r.2, (y : Int))) ++ [(true, 0, 0)]
def allSteps : Nat → List (List (Int × Int)) → List (Bool × Int × Int)
  | _, [] => []
  | y, S :: more => stepsOf y S ++ allSteps (y + 1) more
/-- The first step that is no blank behind one that is. -/
def firstW : Bool → List (Bool × Int × Int) → Option (Int × Int)
  | _, [] => none
  | p, s :: t => if p && !s.1 then some s.2 else firstW s.1 t
theorem firstW_steps (y : Nat) (rest : List (Bool × Int × Int)) : ∀ (S : List (Int × Int)) (p : Bool), firstW p (stepsOf y S ++ rest) = match wrd p S with | some c => some (c, (y : Int)) | none => firstW true rest
  | [], p => by
    unfold stepsOf wrd
    rw [List.map_nil, List.nil_append, List.cons_append, List.nil_append, firstW]
    simp
  | r :: t, p => by
    have ih := firstW_steps y rest t (r.1 == 32)
    have e : stepsOf y (r :: t) ++ rest = (r.1 == 32, r.2, (y : Int)) :: (stepsOf y t ++ rest) := rfl
    rw [e, firstW, wrd]
    by_cases h : (p && !(r.1 == 32)) = true
    · rw [if_pos h, if_pos h]
    · rw [if_neg h, if_neg h, ih]
theorem wordG_first (d : Int × Int) : ∀ (Ls : List (List (Int × Int))) (y : Nat) (p : Bool), wordG d p y Ls = (firstW p (allSteps y Ls)).getD d
  | [], y, p => rfl
  | S :: more, y, p => by
    rw [wordG, allSteps, firstW_steps]
    cases wrd p S with
    | some c => rfl
    | none => exact wordG_first d more (y + 1) true
/-- Gone through from the second on, each with the one ahead. -/
def firstAt (row : List (Bool × Int × Int)) (i : Nat) : Option (Int × Int) := firstW ((row.getD i (false, 0, 0)).1) (row.drop (i + 1))
theorem firstAt_zero (row : List (Bool × Int × Int)) : firstW false row = firstAt row 0 := by
  cases row with
  | nil => rfl
  | cons s t =>
    unfold firstAt
    rw [firstW]
    simp
theorem firstAt_step (row : List (Bool × Int × Int)) (i : Nat) (h : i + 1 < row.length) : firstAt row i = if (row.getD i (false, 0, 0)).1 && !(row[i + 1]).1 then some (row[i + 1]).2 else firstAt row (i + 1) := by
  unfold firstAt
  rw [List.drop_eq_getElem_cons h, firstW]
  have e : row.getD (i + 1) (false, 0, 0) = row[i + 1] := by
    rw [List.getD_eq_getElem?_getD, List.getElem?_eq_getElem h]
    rfl
  rw [e]
theorem firstAt_end (row : List (Bool × Int × Int)) (i : Nat) (h : ¬ i + 1 < row.length) : firstAt row i = none := by
  unfold firstAt
  rw [List.drop_of_length_le (by omega)]
  rfl
end Cpy
end Go.Proofs.YtlodmffiengnaaaDoor

/- The reference's wentTo, for a word: all runes as one row, a blank behind each line. -/
namespace Go.Proofs.YtlodmffiengnaaaDoor
open Go.ChangeShapes Go.WideShapes Go.ChangeAt Go.RowKit Go.Maps Go.Sort
namespace Cpy
open Txt (Tab)
def step3 (s : Bool × Int × Int) : List Value := [.bool s.1, .int .i64 s.2.1, .int .i64 s.2.2]
theorem info_step : (Tryd.prog.info? 64).map (fun i => (i.zero, i.size, i.bytes)) = some (some (.agg #[.bool false, .int .i64 0, .int .i64 0]), 3, 24) := by kernel_rfl
theorem flat_step : ∀ (l : List (Bool × Int × Int)) (k : Nat) (h : k < l.length), (l.flatMap step3)[k * 3]? = some (.bool l[k].1) ∧ (l.flatMap step3)[k * 3 + 1]? = some (.int .i64 l[k].2.1) ∧ (l.flatMap step3)[k * 3 + 2]? = some (.int .i64 l[k].2.2)
  | y :: t, 0, _ => ⟨rfl, rfl, rfl⟩
  | y :: t, k + 1, h => by
    have := flat_step t k (by simpa using h)
    rw [show (k + 1) * 3 = k * 3 + 1 + 1 + 1 from by omega]
    simpa [List.flatMap_cons, step3] using this
theorem flat_len : ∀ l : List (Bool × Int × Int), (l.flatMap step3).length = l.length * 3
  | [] => rfl
  | y :: t => by rw [List.flatMap_cons, List.length_append, flat_len t, List.length_cons, Nat.succ_mul, Nat.add_comm]; rfl
theorem cell_three_new (w : World) (T : TypeId) (a b c : Value) : ∀ (j : Nat) (u : Value), [a, b, c][j]? = some u → (w.alloc (.cells #[a, b, c] T)).cell? ((⟨w.heap.size, 0, none⟩ : Addr).add j) = some u := by
  intro j u hj
  match j, hj with
  | 0, hj => simp at hj; subst hj; simp [Addr.add]
  | 1, hj => simp at hj; subst hj; simp [Addr.add]
  | 2, hj => simp at hj; subst hj; simp [Addr.add]
/-- Spots in a block of their own. -/
def SpB (V : World) (sa : Option Addr) (S : List (Int × Int)) : Prop := S = [] ∨ ∃ g cs, sa = some ⟨g, 0, none⟩ ∧ V.heap[g]? = some (.cells cs 42 (0, 0)) ∧ ∀ (i : Nat) (hi : i < S.length), cs[i * 2]? = some (.int .i32 S[i].1) ∧ cs[i * 2 + 1]? = some (.int .i64 S[i].2)
theorem spot_b {w : World} {base : Nat} {v : Value} {S : List (Int × Int)} (h : w.ownsRow base 42 2 v S.length (S.flatMap Txt.spot2)) : ∃ a c, v = .slice a S.length c ∧ SpB w a S := by
  rcases h.2 with ⟨rfl, h0⟩ | ⟨g, cap, cur, rfl, hb, hh, hc, _, hcs, ht⟩
  · exact ⟨none, 0, by rw [h0], .inl (List.length_eq_zero_iff.1 h0)⟩
  · refine ⟨_, cap, rfl, .inr ⟨g, cur, rfl, hh, fun i hi => ?_⟩⟩
    obtain ⟨f1, f2⟩ := flat_spot S i hi
    rw [← ht] at f1 f2
    rw [List.getElem?_take_of_lt (by omega), Array.getElem?_toList] at f1 f2
    exact ⟨f1, f2⟩
theorem SpB.cells {V : World} {sa : Option Addr} {S : List (Int × Int)} (h : SpB V sa S) {i : Nat} (hi : i < S.length) : ∃ g, sa = some ⟨g, 0, none⟩ ∧ V.cell? ⟨g, i * 2, none⟩ = some (.int .i32 S[i].1) ∧ V.cell? ⟨g, i * 2 + 1, none⟩ = some (.int .i64 S[i].2) := by
  rcases h with h | ⟨g, cs, h1, h2, h3⟩
  · rw [h] at hi; simp at hi
  · refine ⟨g, h1, ?_, ?_⟩
    · unfold World.cell?; rw [h2]; exact (h3 i hi).1
    · unfold World.cell?; rw [h2]; exact (h3 i hi).2
theorem SpB.below {V V' : World} {sa : Option Addr} {S : List (Int × Int)} (h : SpB V sa S) (hb : Below V.heap.size V V') : SpB V' sa S := by
  rcases h with h | ⟨g, cs, h1, h2, h3⟩
  · exact .inl h
  · exact .inr ⟨g, cs, h1, kept h2 hb, h3⟩
/-- The place that one goes from, the result, and the row of steps. -/
structure WInv (w : World) (x y : Int) (u : Value) (R : List (Bool × Int × Int)) (V : World) : Prop where
  kb : Below w.heap.size w V
  P : V.heap[w.heap.size]? = some (.cells #[.int .i64 x, .int .i64 y] 24 (0, 0))
  Z : V.heap[w.heap.size + 1]? = some (.cells #[.int .i64 0, .int .i64 0] 24 (0, 0))
  own : V.ownsRow (w.heap.size + 2) 64 3 u R.length (R.flatMap step3)
theorem WInv.size {w : World} {x y : Int} {u : Value} {R : List (Bool × Int × Int)} {V : World} (h : WInv w x y u R V) : w.heap.size + 2 ≤ V.heap.size := (Array.getElem?_eq_some_iff.1 h.Z).1
theorem WInv.below {w : World} {x y : Int} {u : Value} {R : List (Bool × Int × Int)} {V V' : World} (h : WInv w x y u R V) (hb : Below V.heap.size V V') : WInv w x y u R V' :=
  ⟨h.kb.trans (hb.mono h.kb.size), kept h.P hb, kept h.Z hb, Txt.own_below h.own hb⟩
theorem WInv.step {w : World} {x y : Int} {u u' : Value} {R : List (Bool × Int × Int)} {s : Bool × Int × Int} {V V' : World} {ob : Obj} (h : WInv w x y u R V) (hg : (V.alloc ob).grownBy V' u.ownBlock) (ho : V'.ownsRow (w.heap.size + 2) 64 3 u' (R.length + 1) (R.flatMap step3 ++ step3 s)) : WInv w x y u' (R ++ [s]) V' := by
  have hlt := h.own.lt
  have kA : Below V.heap.size V (V.alloc ob) := (Below.refl _ _).alloc (Nat.le_refl _) _
  have hs := h.kb.size
  have key : ∀ i o, i < w.heap.size + 2 → V.heap[i]? = some o → V'.heap[i]? = some o := fun i o hi hh =>
    (hg.block i (Nat.lt_of_lt_of_le (Array.getElem?_eq_some_iff.1 hh).1 kA.size) (fun e => by have := (hlt _ e.symm).1; omega)).trans (kept hh kA)
  exact ⟨(h.kb.trans (kA.mono hs)).grown hg (Nat.le_trans hs kA.size) (fun k hk => by have := (hlt k hk).1; omega), key _ _ (by omega) h.P, key _ _ (by omega) h.Z, by
    rw [List.length_append, List.flatMap_append]
    simpa using ho⟩
theorem SpB.grown {w : World} {x y : Int} {u : Value} {R : List (Bool × Int × Int)} {V V' : World} {ob : Obj} {sa : Option Addr} {S : List (Int × Int)} (h : SpB V sa S) (hW : WInv w x y u R V) (hg : (V.alloc ob).grownBy V' u.ownBlock) : SpB V' sa S := by
  rcases h with h | ⟨g, cs, h1, h2, h3⟩
  · exact .inl h
  · have kA : Below V.heap.size V (V.alloc ob) := (Below.refl _ _).alloc (Nat.le_refl _) _
    refine .inr ⟨g, cs, h1, (hg.block g (Nat.lt_of_lt_of_le (Array.getElem?_eq_some_iff.1 h2).1 kA.size) (fun e => ?_)).trans (kept h2 kA), h3⟩
    rcases hW.own.2 with ⟨rfl, _⟩ | ⟨g', cap, cur, rfl, _, hh, _⟩
    · simp [Value.ownBlock] at e
    · simp only [Value.ownBlock, Option.some.injEq] at e
      subst e
      rw [h2] at hh
      simp at hh
theorem allSteps_append : ∀ (A B : List (List (Int × Int))) (y : Nat), allSteps y (A ++ B) = allSteps y A ++ allSteps (y + A.length) B
  | [], B, y => rfl
  | S :: A, B, y => by
    rw [List.cons_append, allSteps, allSteps, allSteps_append A B (y + 1), List.append_assoc, List.length_cons, show y + 1 + A.length = y + (A.length + 1) by omega]
def stepsTo (L : List ByteArray) (y i n : Nat) : List (Bool × Int × Int) := allSteps y ((rows L y i).take n)
theorem rows_len (L : List ByteArray) (y i : Nat) (hy : y < L.length) : (rows L y i).length = L.length - y := by
  unfold rows
  rw [if_pos hy, List.length_cons, List.length_map, List.length_drop]
  omega
/-- What is taken of a line. -/
def lineS (L : List ByteArray) (y i n : Nat) : List (Int × Int) := if n = 0 then (sp (ln L (y + n))).drop i else sp (ln L (y + n))
theorem rows_get (L : List ByteArray) (y i n : Nat) (hy : y + n < L.length) : (rows L y i)[n]? = some (lineS L y i n) := by
  unfold rows lineS
  rw [if_pos (by omega)]
  cases n with
  | zero => rfl
  | succ m =>
    rw [if_neg (by omega), List.getElem?_cons_succ, List.getElem?_map, List.getElem?_drop, show y + 1 + m = y + (m + 1) by omega, ln_get hy]
    rfl
theorem stepsTo_succ (L : List ByteArray) (y i n : Nat) (hy : y + n < L.length) : stepsTo L y i (n + 1) = stepsTo L y i n ++ stepsOf (y + n) (lineS L y i n) := by
  unfold stepsTo
  have h := rows_get L y i n hy
  obtain ⟨hn, he⟩ := List.getElem?_eq_some_iff.1 h
  rw [List.take_succ_eq_append_getElem hn, he, allSteps_append, List.length_take, Nat.min_eq_left (Nat.le_of_lt hn), allSteps, allSteps, List.append_nil]
theorem stepsTo_all (L : List ByteArray) (y i : Nat) (hy : y < L.length) : stepsTo L y i (L.length - y) = allSteps y (rows L y i) := by
  unfold stepsTo
  rw [List.take_of_length_le (by rw [rows_len L y i hy]; exact Nat.le_refl _)]
/-- The steps of the first j runes of a line. -/
def part (i n : Nat) (S : List (Int × Int)) (j : Nat) : List (Int × Int) := if n = 0 then (S.take j).drop i else S.take j
theorem part_succ (i n : Nat) (S : List (Int × Int)) (j : Nat) (hj : j < S.length) : part i n S (j + 1) = part i n S j ++ (if 0 < n ∨ i ≤ j then [S[j]] else []) := by
  unfold part
  rw [List.take_succ_eq_append_getElem hj]
  by_cases hn : n = 0
  · rw [if_pos hn, if_pos hn]
    by_cases hi : i ≤ j
    · rw [if_pos (.inr hi), List.drop_append_of_le_length (by rw [List.length_take]; omega)]
    · rw [if_neg (by omega), List.append_nil, List.drop_of_length_le (by rw [List.length_append, List.length_take, List.length_singleton]; omega), List.drop_of_length_le (by rw [List.length_take]; omega)]
  · rw [if_neg hn, if_neg hn, if_pos (.inl (by omega))]
theorem part_all (L : List ByteArray) (y i n : Nat) : part i n (sp (ln L (y + n))) (sp (ln L (y + n))).length = lineS L y i n := by
  unfold part lineS
  rw [List.take_length]
theorem part_len (i n : Nat) (S : List (Int × Int)) (j : Nat) : (part i n S j).length ≤ S.length := by
  unfold part
  split
  · rw [List.length_drop, List.length_take]; omega
  · rw [List.length_take]; omega
def stp (y : Nat) (r : Int × Int) : Bool × Int × Int := (r.1 == 32, r.2, (y : Int))
theorem stepsTo_len (L : List ByteArray) (y i : Nat) (hL : ∀ s ∈ L, s.size ≤ 4000) : ∀ n, y + n ≤ L.length → (stepsTo L y i n).length ≤ n * 4001
  | 0, _ => by simp [stepsTo, allSteps]
  | n + 1, h => by
    have ih := stepsTo_len L y i hL n (by omega)
    have h1 := sp_len (ln L (y + n))
    have h2 := ln_size hL (y + n)
    have h3 : (lineS L y i n).length ≤ (sp (ln L (y + n))).length := by
      unfold lineS
      split
      · rw [List.length_drop]; omega
      · exact Nat.le_refl _
    rw [stepsTo_succ L y i n (by omega), List.length_append]
    unfold stepsOf
    rw [List.length_append, List.length_map, List.length_singleton]
    omega
/-- The first word in a row of steps, from its second on. -/
theorem first_all (L : List ByteArray) (x : Int) (y : Nat) (hy : y < L.length) : wordM L x y = (firstAt (stepsTo L y (max (atI (cols (ln L y)) x) 0).toNat (L.length - y)) 0).getD (lastM L) := by
  unfold wordM
  rw [wordG_first, firstAt_zero, stepsTo_all _ _ _ hy]
end Cpy
end Go.Proofs.YtlodmffiengnaaaDoor
