/- The walk of the law TextCut. -/
import Derived.Test.YtgbenpokncmfmaaDoorTextCutOf
import Derived.Test.YtgbenpokncmfmaaDoorTextPartsW
import Derived.Test.YtgbenpokncmfmaaDoorTextWideOf
namespace Go.Proofs.YtgbenpokncmfmaaDoor
open Go.ChangeShapes Go.WideShapes Go.ChangeAt Go.RowKit Go.Maps
namespace Txt
theorem cutOf_b (l : List UInt8) (n : Int) (w : World) (hs : l.length ≤ 17592186044416) :
    Calls Tryd.prog 15 #[.string (bs l), .int .i64 n] w fun e w' => e = .returned (.string (bs (cutB l n))) ∧ Below w.heap.size w w' := by
  have := cutOf_any (bs l) n w (by rw [bs_size]; exact hs)
  rwa [bs_data] at this

set_option maxHeartbeats 2000000 in
theorem textCut_neg (l : List UInt8) (n : Int) (w : World) (hT : Tab w) (hs : l.length ≤ 17592186044416) (hn : n < 0) :
    Calls Tryd.prog 5 #[.string (bs l), .int .i64 n] w fun e w' => e = .returned (.bool true) ∧ Below w.heap.size w w' := by
  have hpos := hT.pos
  have HT : Hid (Tab w) := hT
  clear hT
  have hcl := cutB_length l n
  have HEQ : Hid (bs (fitB l n) = ⟨#[]⟩) := by unfold Hid fitB; rw [if_pos (by omega)]; rfl
  go_enter Tryd.func5, Tryd.ntmps5
  go_wp2_with fail
  refine (cutOf_b _ _ _ hs).mono ?_
  rintro e W1 ⟨rfl, b1⟩
  go_wp2_with fail
  refine (written_yes _ (HT.out.below b1 hpos)).mono ?_
  rintro e W5 ⟨rfl, b5⟩
  have b15 := b1.trans (b5.mono b1.size)
  clear b5
  go_wp2_with fail
  refine (cut_b _ _ _ (HT.out.below b15 hpos) (by omega)).mono ?_
  rintro e W6 ⟨rfl, b6⟩
  have b16 := b15.trans (b6.mono b15.size)
  clear b15 b6
  go_wp2_with fail
  refine (fit_b _ _ _ (HT.out.below b16 hpos) (by omega)).mono ?_
  rintro e W7 ⟨rfl, b7⟩
  rw [HEQ.out]
  go_wp2
  go_ret
  exact ⟨rfl, b16.trans (b7.mono b16.size)⟩

set_option maxHeartbeats 2000000 in
theorem textCut_big (l : List UInt8) (n : Int) (w : World) (hT : Tab w) (hs : l.length ≤ 17592186044416) (hn : 120 < n) :
    Calls Tryd.prog 5 #[.string (bs l), .int .i64 n] w fun e w' => e = .returned (.bool true) ∧ Below w.heap.size w w' := by
  have hpos := hT.pos
  have HT : Hid (Tab w) := hT
  clear hT
  have hcl := cutB_length l n
  have HEQ : Hid (bs (fitB l n) = ⟨#[]⟩) := by unfold Hid fitB; rw [if_pos (by omega)]; rfl
  go_enter Tryd.func5, Tryd.ntmps5
  go_wp2_with fail
  refine (cutOf_b _ _ _ hs).mono ?_
  rintro e W1 ⟨rfl, b1⟩
  go_wp2_with fail
  refine (written_yes _ (HT.out.below b1 hpos)).mono ?_
  rintro e W5 ⟨rfl, b5⟩
  have b15 := b1.trans (b5.mono b1.size)
  clear b5
  go_wp2_with fail
  refine (cut_b _ _ _ (HT.out.below b15 hpos) (by omega)).mono ?_
  rintro e W6 ⟨rfl, b6⟩
  have b16 := b15.trans (b6.mono b15.size)
  clear b15 b6
  go_wp2_with fail
  refine (fit_b _ _ _ (HT.out.below b16 hpos) (by omega)).mono ?_
  rintro e W7 ⟨rfl, b7⟩
  rw [HEQ.out]
  go_wp2
  go_ret
  exact ⟨rfl, b16.trans (b7.mono b16.size)⟩

set_option maxHeartbeats 2000000 in
theorem textCut_mid (l : List UInt8) (n : Int) (w : World) (hT : Tab w) (hs : l.length ≤ 17592186044416) (hn : 0 ≤ n) (hn2 : n ≤ 120) :
    Calls Tryd.prog 5 #[.string (bs l), .int .i64 n] w fun e w' => e = .returned (.bool true) ∧ Below w.heap.size w w' := by
  have hpos := hT.pos
  have HT : Hid (Tab w) := hT
  clear hT
  have hcl := cutB_length l n
  have HF : Hid (fitB l n = cutB l n ++ List.replicate (n - wideB (cutB l n)).toNat 32) := by unfold Hid fitB; rw [if_neg (by omega)]; rfl
  have hcw : 0 ≤ wideB (cutB l n) ∧ wideB (cutB l n) ≤ n := cut_wide n (by omega) l
  go_enter Tryd.func5, Tryd.ntmps5
  go_wp2_with fail
  refine (cutOf_b _ _ _ hs).mono ?_
  rintro e W1 ⟨rfl, b1⟩
  go_wp2_with fail
  refine (wideOf_b _ _ (by omega)).mono ?_
  rintro e W2 ⟨rfl, b2⟩
  have b12 := b1.trans (b2.mono b1.size)
  clear b1 b2
  obtain ⟨c, hc⟩ : ∃ c : Nat, n - wideB (cutB l n) = c := Int.eq_ofNat_of_zero_le (by omega)
  have HQ : Hid (n - wideB (cutB l n) = c) := hc
  clear hc
  have hsum : ¬ 9223372036854775807 < (bs (cutB l n)).size + (bs (List.replicate c 32)).size := by
    have := HQ.out
    rw [bs_size, bs_size, List.length_replicate]; omega
  have HEQ : Hid (bs (fitB l n) = bs (cutB l n) ++ bs (List.replicate c 32)) := by unfold Hid; rw [HF.out, HQ.out, Int.toNat_natCast, bs_append]
  go_wp2_with fail
  rw [HQ.out]
  refine (repeat_b c _ (by have := HQ.out; omega)).mono ?_
  rintro e W3 ⟨rfl, b3⟩
  have b13 := b12.trans (b3.mono b12.size)
  clear b12 b3
  go_wp2_with fail
  refine (written_yes _ (HT.out.below b13 hpos)).mono ?_
  rintro e W5 ⟨rfl, b5⟩
  have b15 := b13.trans (b5.mono b13.size)
  clear b5
  go_wp2_with fail
  refine (cut_b _ _ _ (HT.out.below b15 hpos) (by omega)).mono ?_
  rintro e W6 ⟨rfl, b6⟩
  have b16 := b15.trans (b6.mono b15.size)
  clear b15 b6
  go_wp2_with fail
  refine (fit_b _ _ _ (HT.out.below b16 hpos) (by omega)).mono ?_
  rintro e W7 ⟨rfl, b7⟩
  rw [HEQ.out]
  go_wp2
  go_ret
  exact ⟨rfl, b16.trans (b7.mono b16.size)⟩
end Txt
end Go.Proofs.YtgbenpokncmfmaaDoor
