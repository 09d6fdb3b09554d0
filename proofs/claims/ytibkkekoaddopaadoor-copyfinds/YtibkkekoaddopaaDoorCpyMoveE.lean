/- Package copying: Move's closure, for a line's end. -/
import Derived.Test.YtibkkekoaddopaaDoorCpyCalls
import Derived.Test.YtibkkekoaddopaaDoorCpyMoveW
namespace Go.Proofs.YtibkkekoaddopaaDoor
open Go.ChangeShapes Go.WideShapes Go.ChangeAt Go.RowKit Go.Maps
namespace Cpy
open Txt (Tab)
def endK (L : List ByteArray) (k : Cp) : Cp := { k with x := endI (cols (ln L k.y.toNat)) }
set_option maxHeartbeats 8000000 in
set_option maxRecDepth 100000 in
theorem end_how (L : List ByteArray) (v : Value) (k : Cp) (w : World) (hT : Tab w) (hk : chk L k = 0) : HowS 27 w L v ⟨#[101, 110, 100]⟩ k 0 (endK L k) := by
  obtain ⟨h1, h2, h3, ⟨h4, h5, _, _⟩, _⟩ := chk_zero hk
  intro W A B kA hA hB cA cB hls W2 C kb hC hbox
  have hneB : B ≠ C := by have := lt_of_cell cB; omega
  have hneA : A ≠ C := by have := lt_of_cell cA; omega
  have dA := CK.below kb _ _ _ cA
  have dB := CK.below kb _ _ _ cB
  have hls2 := hls.below kb
  have hT2 : Tab W2 := (hT.below kA hT.pos).below kb (Nat.lt_of_lt_of_le hT.pos kA.size)
  obtain ⟨⟨c0, c1, c2, c3, c4⟩, hf⟩ := hbox.cells
  have f0 := hf 0
  have f1 := hf 1
  obtain ⟨x, y, fx, fy, on⟩ := k
  simp only [] at c0 c1 c2 c3 c4 h4 h5
  obtain ⟨y, rfl⟩ := Int.eq_ofNat_of_zero_le h4
  have hyl : y < L.length := by omega
  have HW := fun V (hv : LsAt V v L) (ht : Tab V) => end_any L v y V hv ht hyl h3
  have HK : Hid (endK L ⟨x, y, fx, fy, on⟩ = ⟨endI (cols (ln L y)), y, fx, fy, on⟩) := rfl
  have HLS : Hid (LsAt W2 v L) := hls2
  have HT : Hid (Tab W2) := hT2
  generalize endI (cols (ln L y)) = rx at *
  generalize endK L ⟨x, (y : Int), fx, fy, on⟩ = kw at *
  obtain rfl := HK.out
  simp only [] at HW HK
  have HBX : Hid (BoxAt W2 C ⟨x, y, fx, fy, on⟩) := hbox
  clear hk h1 h2 h3 h4 h5 hls2 hT2 hls hT hbox kA kb
  go_enter Tryd.func27, Tryd.ntmps27
  go_upto_region 14 with fail
  have HL2 : Hid (LsAt W2.drew v L) := HLS.out.below ((Below.refl _ _).drew)
  have HT2 : Hid (Tab W2.drew) := HT.out.below ((Below.refl _ _).drew) HT.out.pos
  have HB2 : Hid (BoxAt W2.drew C ⟨x, y, fx, fy, on⟩) := HBX.out
  go_region_with (go_at_call 30; refine (HW _ HL2.out HT2.out).mono ?_; rintro e V ⟨rfl, bv⟩; have hbv := HB2.out.below bv; obtain ⟨⟨e0, e1, e2, e3, e4⟩, hf2⟩ := hbv.cells; simp only [] at e0 e1 e2 e3 e4; have g0 := hf2 0; have g1 := hf2 1)
  all_goals
    have y2 := (hbv.setX rx).setY y
    have b2 := ((But.of_below (M := C) bv).drew.setCell (i := 0) (.int .i64 rx)).setCell (i := 1) (.int .i64 y)
    go_wp2_with fail
    go_ret
    exact ⟨rfl, y2, b2⟩
end Cpy
end Go.Proofs.YtibkkekoaddopaaDoor
