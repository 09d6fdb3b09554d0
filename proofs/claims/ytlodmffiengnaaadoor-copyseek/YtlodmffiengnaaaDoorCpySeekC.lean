/- Package copying: Seek's closure. -/
import Derived.Test.YtlodmffiengnaaaDoorCpySeek
import Derived.Test.YtlodmffiengnaaaDoorCpyMoveW
namespace Go.Proofs.YtlodmffiengnaaaDoor
open Go.ChangeShapes Go.WideShapes Go.ChangeAt Go.RowKit Go.Maps
namespace Cpy
open Txt (runes rn wd spotsL colsL cleanL bs okRune Tab)
/-- The runes of what is sought. -/
def what (s : ByteArray) : List Int := (sp s).map (·.1)
theorem clean_spots : ∀ (l : List (Int × Nat)) (c : Int), cleanL l = E ((spotsL l c).map (·.1))
  | [], _ => rfl
  | x :: t, c => by
    unfold cleanL spotsL
    by_cases hw : 0 < wd x.1
    · rw [if_pos hw, if_pos hw, List.map_cons, E_cons, clean_spots t (c + wd x.1)]
    · rw [if_neg hw, if_neg hw, List.nil_append, clean_spots t c]
theorem clean_E (s : ByteArray) : cleanL (runes s) = E (what s) := clean_spots _ 0
def seekCE (L : List ByteArray) (k : Cp) (s : ByteArray) : Int := if 4000 < s.size ∨ what s = [] then 1 else seekE (seekM L k.x k.y.toNat (what s))
def seekCK (L : List ByteArray) (k : Cp) (s : ByteArray) : Cp := if 4000 < s.size ∨ what s = [] then k else seekK k (seekM L k.x k.y.toNat (what s))
set_option maxHeartbeats 8000000 in
set_option maxRecDepth 100000 in
theorem seek_how (L : List ByteArray) (v : Value) (k : Cp) (s : ByteArray) (w : World) (hT : Tab w) (hM : MaxAt w) (hk : chk L k = 0) : HowS 39 w L v s k (seekCE L k s) (seekCK L k s) := by
  obtain ⟨h1, h2, h3, ⟨h4, h5, _, _⟩, _⟩ := chk_zero hk
  intro W A B kA hA hB cA cB hls W2 C kb hC hbox
  have hneB : B ≠ C := by have := lt_of_cell cB; omega
  have hneA : A ≠ C := by have := lt_of_cell cA; omega
  have dA := CK.below kb _ _ _ cA
  have dB := CK.below kb _ _ _ cB
  have hls2 := hls.below kb
  have hT2 : Tab W2 := (hT.below kA hT.pos).below kb (Nat.lt_of_lt_of_le hT.pos kA.size)
  have hM2 : MaxAt W2 := (hM.below kA).below kb
  unfold seekCE seekCK
  by_cases hs : 4000 < s.size
  · rw [if_pos (.inl hs), if_pos (.inl hs)]
    have is : (4000 : Int) < (s.size : Int) := by omega
    have b2 := But.refl C W2
    clear hls hls2 hT hM hT2 hM2 kA kb cA cB
    go_enter Tryd.func39, Tryd.ntmps39
    go_wp2_with fail
    go_ret
    exact ⟨rfl, hbox, b2⟩
  · have is : ¬ (4000 : Int) < (s.size : Int) := by omega
    have HC := Txt.clean_any s W2 hT2 (by omega)
    rw [clean_E] at HC
    by_cases hw : what s = []
    · rw [if_pos (.inr hw), if_pos (.inr hw)]
      rw [hw] at HC
      have e0 : bs (E []) = ⟨#[]⟩ := rfl
      rw [e0] at HC
      clear hls hls2 hT hM hT2 hM2 kA kb cA cB hs hw e0
      go_enter Tryd.func39, Tryd.ntmps39
      go_wp2_with fail
      refine HC.mono ?_
      rintro e W3 ⟨rfl, b3⟩
      have y3 := hbox.below b3
      have b4 := But.of_below (M := C) b3
      go_wp2_with fail
      go_ret
      exact ⟨rfl, y3, b4⟩
    · rw [if_neg (by rintro (h | h); exact hs h; exact hw h), if_neg (by rintro (h | h); exact hs h; exact hw h)]
      obtain ⟨x, y, fx, fy, on⟩ := k
      simp only [] at h4 h5 ⊢
      obtain ⟨y, rfl⟩ := Int.eq_ofNat_of_zero_le h4
      rw [Int.toNat_natCast]
      have hokw : ∀ r ∈ what s, okRune r := by
        intro r hr
        obtain ⟨z, hz, rfl⟩ := List.mem_map.1 hr
        exact sp_ok s z hz
      have hyl : y < L.length := by omega
      have HSK := fun V (hl : LsAt V v L) (ht : Tab V) (hm : MaxAt V) (hb : BoxAt V C ⟨x, y, fx, fy, on⟩) => seek_in L v C x y fx fy on (bs (E (what s))) (what s) V hl ht hm hb hyl h2 h3 (bs_data _) hw hokw
      have hne2 : ((bs (E (what s))).toList == []) = false := by
        rw [beq_eq_false_iff_ne, Lib.toList_data, bs_data]
        exact E_ne hw
      generalize seekM L x y (what s) = R at *
      generalize bs (E (what s)) = u at *
      have HBX : Hid (BoxAt W2 C ⟨x, y, fx, fy, on⟩) := hbox
      have HEN : Hid (LsAt W2 v L ∧ Tab W2 ∧ MaxAt W2) := ⟨hls2, hT2, hM2⟩
      clear hls hls2 hT hM hT2 hM2 kA kb cA cB hs hw hbox hokw hk
      go_enter Tryd.func39, Tryd.ntmps39
      go_wp2_with fail
      refine HC.mono ?_
      rintro e W3 ⟨rfl, b3⟩
      have dA3 := CK.below b3 _ _ _ dA
      clear HC dA dB
      go_upto_region 6 with fail
      have bD : Below W3.heap.size W3 W3.drew := (Below.refl _ _).drew
      have l3 := ((HEN.out.1.below b3).below bD)
      have t3 := ((HEN.out.2.1.below b3 HEN.out.2.1.pos).below bD (HEN.out.2.1.below b3 HEN.out.2.1.pos).pos)
      have m3 := ((HEN.out.2.2.below b3).below bD)
      have x3 : BoxAt W3.drew C ⟨x, y, fx, fy, on⟩ := (HBX.out.below b3).below bD
      have H3 := HSK _ l3 t3 m3 x3
      have b5 := (But.of_below (M := C) b3).trans (But.of_below (M := C) bD)
      have HB5 : Hid (But C W2 W3.drew) := b5
      clear l3 t3 m3 x3 HSK b5 bD b3
      go_region_with (go_at_call 41; refine H3.mono ?_; rintro e V ⟨rfl, yv, bv⟩)
      all_goals
        have b6 := HB5.out.trans bv
        go_wp2_with fail
        go_ret
        exact ⟨rfl, yv, b6⟩
end Cpy
end Go.Proofs.YtlodmffiengnaaaDoor
