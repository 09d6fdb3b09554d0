/- Package copying: Move's closure, for a word. -/
import Derived.Test.YtlodmffiengnaaaDoorCpyCalls
import Derived.Test.YtlodmffiengnaaaDoorCpyWord
namespace Go.Proofs.YtlodmffiengnaaaDoor
open Go.ChangeShapes Go.WideShapes Go.ChangeAt Go.RowKit Go.Maps
namespace Cpy
open Txt (Tab)
theorem chk_zero {L : List ByteArray} {k : Cp} (h : chk L k = 0) : 1 ≤ L.length ∧ L.length ≤ 110 ∧ (∀ s ∈ L, s.size ≤ 4000) ∧ (0 ≤ k.y ∧ k.y < L.length ∧ 0 ≤ k.x ∧ k.x ≤ 120) ∧ (0 ≤ k.fy ∧ k.fy < L.length ∧ 0 ≤ k.fx ∧ k.fx ≤ 120) := by
  unfold chk at h
  by_cases hl : okL L = true
  · rw [if_pos hl] at h
    by_cases hm : (okM L.length k.x k.y && okM L.length k.fx k.fy) = true
    · unfold okL at hl
      unfold okM at hm
      simp only [Bool.and_eq_true, decide_eq_true_eq, Bool.not_eq_true', List.any_eq_false] at hl hm
      refine ⟨hl.1.1, hl.1.2, fun s hs => ?_, by omega, by omega⟩
      have := hl.2 s hs
      unfold long at this
      simp at this
      exact this
    · rw [if_neg hm] at h; omega
  · rw [if_neg hl] at h; omega
def wordK (L : List ByteArray) (k : Cp) : Cp := { k with x := (wordM L k.x k.y.toNat).1, y := (wordM L k.x k.y.toNat).2 }
set_option maxHeartbeats 8000000 in
set_option maxRecDepth 100000 in
theorem word_how (L : List ByteArray) (v : Value) (k : Cp) (w : World) (hT : Tab w) (hk : chk L k = 0) : HowS 21 w L v ⟨#[119, 111, 114, 100]⟩ k 0 (wordK L k) := by
  obtain ⟨h1, h2, h3, ⟨h4, h5, _, _⟩, _⟩ := chk_zero hk
  intro W A B kA hA hB cA cB hls W2 C kb hC hbox
  have hneB : B ≠ C := by have := lt_of_cell cB; omega
  have hneA : A ≠ C := by have := lt_of_cell cA; omega
  have dA := CK.below kb _ _ _ cA
  have dB := CK.below kb _ _ _ cB
  have hls2 := hls.below kb
  have hT2 : Tab W2 := (hT.below kA hT.pos).below kb (Nat.lt_of_lt_of_le hT.pos kA.size)
  obtain ⟨⟨c0, c1, c2, c3, c4⟩, hf⟩ := hbox.cells
  have f0 := hf 0
  have f1 := hf 1
  obtain ⟨x, y, fx, fy, on⟩ := k
  simp only [] at c0 c1 c2 c3 c4 h4 h5
  obtain ⟨y, rfl⟩ := Int.eq_ofNat_of_zero_le h4
  have hyl : y < L.length := by omega
  have HW := fun V (hv : LsAt V v L) (ht : Tab V) => word_any L v x y V hv ht hyl (by omega) h3
  have HK : Hid (wordK L ⟨x, y, fx, fy, on⟩ = ⟨(wordM L x y).1, (wordM L x y).2, fx, fy, on⟩) := rfl
  have HLS : Hid (LsAt W2 v L) := hls2
  have HT : Hid (Tab W2) := hT2
  generalize wordM L x y = R at *
  generalize wordK L ⟨x, (y : Int), fx, fy, on⟩ = kw at *
  obtain ⟨rx, ry⟩ := R
  obtain rfl := HK.out
  simp only [] at HW HK
  have HBX : Hid (BoxAt W2 C ⟨x, y, fx, fy, on⟩) := hbox
  clear hk h1 h2 h3 h4 h5 hls2 hT2 hls hT hbox kA kb
  go_enter Tryd.func21, Tryd.ntmps21
  go_upto_region 20 with fail
  have HL2 : Hid (LsAt W2.drew v L) := HLS.out.below ((Below.refl _ _).drew)
  have HT2 : Hid (Tab W2.drew) := HT.out.below ((Below.refl _ _).drew) HT.out.pos
  have HB2 : Hid (BoxAt W2.drew C ⟨x, y, fx, fy, on⟩) := HBX.out
  go_region_with (go_at_call 26; refine (HW _ HL2.out HT2.out).mono ?_; rintro e V ⟨rfl, bv⟩; have hbv := HB2.out.below bv; obtain ⟨⟨e0, e1, e2, e3, e4⟩, hf2⟩ := hbv.cells; simp only [] at e0 e1 e2 e3 e4; have g0 := hf2 0; have g1 := hf2 1)
  all_goals
    have y2 := (hbv.setX rx).setY ry
    have b2 := ((But.of_below (M := C) bv).drew.setCell (i := 0) (.int .i64 rx)).setCell (i := 1) (.int .i64 ry)
    go_wp2_with fail
    go_ret
    exact ⟨rfl, y2, b2⟩
end Cpy
end Go.Proofs.YtlodmffiengnaaaDoor
