/- The walks of text.Cut, text.Wide and text.Fit, said of lists of bytes; and of trellislaw.written. -/
import Derived.Test.YtbhoklhcdefabaaDoorTextCut
import Derived.Test.YtbhoklhcdefabaaDoorTextKeep
namespace Go.Proofs.YtbhoklhcdefabaaDoor
open Go.ChangeShapes Go.WideShapes Go.ChangeAt Go.RowKit
namespace Txt
def cutB (l : List UInt8) (n : Int) : List UInt8 := l.take (cutL n (rn l) 0)
def wideB (l : List UInt8) : Int := wideL (rn l)
def fitB (l : List UInt8) (n : Int) : List UInt8 := if n < 0 ∨ 120 < n then [] else fitL l n
def bs (l : List UInt8) : ByteArray := ⟨l.toArray⟩
theorem bs_size (l : List UInt8) : (bs l).size = l.length := by simp [bs, ByteArray.size]
theorem bs_data (l : List UInt8) : (bs l).data.toList = l := by simp [bs]
theorem bs_self (s : ByteArray) : bs s.data.toList = s := by cases s; simp [bs]
theorem bs_append (a b : List UInt8) : bs a ++ bs b = bs (a ++ b) := by
  apply ByteArray.ext
  simp [bs]
theorem cutB_length (l : List UInt8) (n : Int) : (cutB l n).length ≤ l.length := by simp [cutB]; omega

theorem cut_b (l : List UInt8) (n : Int) (w : World) (hT : Tab w) (hs : l.length ≤ 281474976710656) :
    Calls Tryd.prog 21 #[.string (bs l), .int .i64 n] w fun e w' => e = .returned (.string (bs (cutB l n))) ∧ Below w.heap.size w w' := by
  refine (cut_any (bs l) n w hT (by rw [bs_size]; exact hs)).mono fun e w' ⟨he, hb⟩ => ⟨?_, hb⟩
  rw [he]; unfold cutS; rw [runes_rn, bs_data]; rfl
theorem wide_b (l : List UInt8) (w : World) (hT : Tab w) (hs : l.length ≤ 281474976710656) :
    Calls Tryd.prog 24 #[.string (bs l)] w fun e w' => e = .returned (.int .i64 (wideB l)) ∧ Below w.heap.size w w' := by
  refine (wide_any (bs l) w hT (by rw [bs_size]; exact hs)).mono fun e w' ⟨he, hb⟩ => ⟨?_, hb⟩
  rw [he]; unfold wideS; rw [runes_rn, bs_data]; rfl
theorem repeat_b (c : Nat) (w : World) (hc : c ≤ 1000) :
    Calls Tryd.prog 12 #[.string ⟨#[32]⟩, .int .i64 (c : Int)] w fun e w' => e = .returned (.string (bs (List.replicate c 32))) ∧ Below w.heap.size w w' := by
  refine (Tryd.strings_Repeat ⟨#[32]⟩ c w (by omega) (by show 1 * c ≤ _; omega)).mono fun e w' ⟨he, hb⟩ => ⟨?_, hb⟩
  rw [he]
  have := Lib.repeatL_replicate 32 1 c
  simp only [List.replicate_one, Nat.mul_one] at this
  show Ending.returned (.string (bs (Lib.repeatL [32] c))) = _
  rw [this]

set_option maxHeartbeats 1000000 in
theorem fit_b (l : List UInt8) (n : Int) (w : World) (hT : Tab w) (hs : l.length ≤ 281474976710000) :
    Calls Tryd.prog 23 #[.string (bs l), .int .i64 n] w fun e w' => e = .returned (.string (bs (fitB l n))) ∧ Below w.heap.size w w' := by
  have hpos := hT.pos
  have HT : Hid (Tab w) := hT
  clear hT
  by_cases h0 : n < 0
  · rw [show fitB l n = [] from by unfold fitB; rw [if_pos (Or.inl h0)]]
    go_enter Tryd.func23, Tryd.ntmps23
    go_wp2
    go_ret
    exact ⟨rfl, Below.refl _ _⟩
  · by_cases h1 : 120 < n
    · rw [show fitB l n = [] from by unfold fitB; rw [if_pos (Or.inr h1)]]
      go_enter Tryd.func23, Tryd.ntmps23
      go_wp2
      go_ret
      exact ⟨rfl, Below.refl _ _⟩
    · have HF : Hid (fitB l n = cutB l n ++ List.replicate (n - wideB (cutB l n)).toNat 32) := by unfold Hid fitB; rw [if_neg (by omega)]; rfl
      have hcw : 0 ≤ wideB (cutB l n) ∧ wideB (cutB l n) ≤ n := cut_wide n (by omega) l
      have hcl := cutB_length l n
      go_enter Tryd.func23, Tryd.ntmps23
      go_wp2_with (go_at_call 21; refine (cut_b _ _ _ HT.out (by omega)).mono ?_; rintro e W1 ⟨rfl, b1⟩)
      generalize hq : cutB l n = cl at *
      clear hq
      refine (wide_b cl _ (HT.out.below b1 hpos) (by omega)).mono ?_
      rintro e W2 ⟨rfl, b2⟩
      generalize hq : wideB cl = wc at *
      clear hq
      obtain ⟨c, hc⟩ : ∃ c : Nat, n - wc = c := Int.eq_ofNat_of_zero_le (by omega)
      have HQ : Hid (n - wc = c) := hc
      clear hc
      go_wp2_with fail
      rw [HQ.out]
      refine (repeat_b c _ (by have := HQ.out; omega)).mono ?_
      rintro e W3 ⟨rfl, b3⟩
      have hsum : ¬ 9223372036854775807 < (bs cl).size + (bs (List.replicate c 32)).size := by
        have := HQ.out
        rw [bs_size, bs_size, List.length_replicate]; omega
      go_wp2
      go_ret
      refine ⟨ret_str ?_, b1.trans ((b2.mono b1.size).trans (b3.mono (Nat.le_trans b1.size b2.size)))⟩
      rw [bs_append, HF.out, HQ.out, Int.toNat_natCast]

end Txt
end Go.Proofs.YtbhoklhcdefabaaDoor
