/- The walk of text.Cut. -/
import Derived.Test.YtbhoklhcdefabaaDoorTextWide
import Derived.Test.YtbhoklhcdefabaaDoorShelf
namespace Go.Proofs.YtbhoklhcdefabaaDoor
open Go.ChangeShapes Go.WideShapes Go.ChangeAt Go.RowKit
namespace Txt
theorem ret_str {a b : ByteArray} (h : a = b) : Ending.returned (.string a) = .returned (.string b) := by rw [h]

set_option maxHeartbeats 400000 in
theorem clone_any (s : ByteArray) (w : World) (hs : s.size ≤ 281474976710656) :
    Calls Tryd.prog 40 #[.string s] w fun e w' => e = .returned (.string s) ∧ Below w.heap.size w w' := by
  go_enter Tryd.func40, Tryd.ntmps40
  go_wp2_with (go_at_call 53; refine (Tryd.stringslite_Clone _ _ hs).mono ?_; rintro e W1 ⟨rfl, b1⟩)
  go_ret
  exact ⟨rfl, b1⟩
theorem extract_take (s : ByteArray) (k : Nat) : s.extract 0 k = ⟨(s.data.toList.take k).toArray⟩ := by
  rw [Lib.extract_eq]; simp
theorem extract_size_le (s : ByteArray) (k : Nat) : (s.extract 0 k).size ≤ s.size := by
  simp; omega

set_option maxHeartbeats 1000000 in
theorem cut_any (s : ByteArray) (n : Int) (w : World) (hT : Tab w) (hs : s.size ≤ 281474976710656) :
    Calls Tryd.prog 21 #[.string s, .int .i64 n] w fun e w' => e = .returned (.string ⟨(cutS s n).toArray⟩) ∧ Below w.heap.size w w' := by
  have HP : Hid (0 < w.heap.size) := hT.pos
  have HT : Hid (Tab w) := hT
  clear hT
  go_enter Tryd.func21, Tryd.ntmps21
  go_wp2
  go_loopw [5] (fun a wr => ∃ (pos f : Nat) (c : Int), wr.heap[w.heap.size]? = some (.stringIter s pos) ∧ Below w.heap.size w wr ∧ a = .int .i64 c ∧ pos + cutL n (rs s f pos) c = cutL n (runes s) 0 ∧ s.size ≤ pos + f ∧ 0 ≤ c ∧ c ≤ 2 * pos ∧ pos ≤ s.size) (fun _ wr => s.size - wr.iterPos w.heap.size)
  case atStart =>
    exact ⟨0, s.size, 0, World.iter_heap w s 0, (Below.refl _ w).alloc (Nat.le_refl _) _, rfl, by simp [runes], by omega, by omega, by omega, by omega⟩
  case round =>
    obtain ⟨pos, f, c, hit, hbw, rfl, hc, hf, hc0, hc1, hps⟩ := hrel
    have HC : Hid (pos + cutL n (rs s f pos) c = cutL n (runes s) 0) := hc
    clear hc
    have hsz : w.heap.size < wr.heap.size := (Array.getElem?_eq_some_iff.1 hit).1
    by_cases hp : pos < s.size
    · have hnx : ∀ ty, (Instr.next (.pointer (some ⟨w.heap.size, 0, none⟩)) true ty).run Tryd.prog wr = _ := fun ty => Lib.run_next_any_at wr w.heap.size s pos ty hit hp
      have hwd := width_pos s pos hp
      have hfit := decode_fits s pos hp
      obtain ⟨f, rfl⟩ : ∃ g, f = g + 1 := ⟨f - 1, by omega⟩
      have HR : Hid (rs s (f + 1) pos = (((Utf8.decode s pos).1 : Int), (Utf8.decode s pos).2) :: rs s f (pos + (Utf8.decode s pos).2)) := rs_step s f pos hp
      have hw := wd_range (Utf8.decode s pos).1
      have hit2 := Lib.iterAt_heap wr w.heap.size s pos (pos + (Utf8.decode s pos).2) hit
      have hbw2 := Lib.below_iterAt hbw (k := w.heap.size) (Nat.le_refl _) s (pos + (Utf8.decode s pos).2)
      have hsz2 : w.heap.size < (wr.iterAt w.heap.size s (pos + (Utf8.decode s pos).2)).heap.size := by rw [Lib.iterAt_size]; exact hsz
      have HI : Hid (wr.iterPos w.heap.size = pos) := by simp only [Hid, World.iterPos, hit]
      clear hit
      generalize Utf8.decode s pos = d at *
      by_cases hn : n < c + wd d.1
      · go_wp2_with (go_at_call 39; refine (width_any _ _ (HT.out.below hbw2 (by have := HP.out; omega))).mono ?_)
        rintro e W1 ⟨rfl, b1⟩
        have HS : Hid ((s.extract 0 pos).size ≤ 281474976710656) := Nat.le_trans (extract_size_le s pos) hs
        have HX : Hid (s.extract 0 pos = ⟨(s.data.toList.take pos).toArray⟩) := extract_take s pos
        go_wp2_with (go_at_call 40; refine (clone_any _ _ HS.out).mono ?_; rintro e W2 ⟨rfl, b2⟩)
        go_ret
        refine ⟨ret_str ?_, (hbw2.trans (b1.mono (by omega))).trans (b2.mono (by have := b1.size; omega))⟩
        rw [HX.out]
        have := HC.out
        rw [HR.out] at this
        simp only [cutL] at this
        rw [if_pos hn] at this
        unfold cutS
        rw [← this]
        rfl
      · have hn : c + wd d.1 ≤ n := by omega
        go_wp2_with (go_at_call 39; refine (width_any _ _ (HT.out.below hbw2 (by have := HP.out; omega))).mono ?_; rintro e W1 ⟨rfl, b1⟩)
        go_roundw
        case rel =>
          refine ⟨pos + d.2, f, c + wd d.1, (b1.block _ hsz2).trans hit2, hbw2.trans (b1.mono (by omega)), rfl, ?_, by omega, by omega, by omega, by omega⟩
          have := HC.out; rw [HR.out] at this; simp only [cutL] at this; rw [if_neg (by omega)] at this; omega
        case measure =>
          rw [HI.out]
          simp only [World.iterPos, (b1.block _ hsz2).trans hit2]
          omega
    · have hnx : ∀ ty, (Instr.next (.pointer (some ⟨w.heap.size, 0, none⟩)) true ty).run Tryd.prog wr = _ := fun ty => Lib.run_next_end_at wr w.heap.size s pos ty hit hp
      go_wp2_with (go_at_call 40; refine (clone_any _ _ hs).mono ?_; rintro e W2 ⟨rfl, b2⟩)
      go_ret
      refine ⟨ret_str ?_, hbw.trans (b2.mono (by omega))⟩
      have := HC.out
      rw [rs_end s f pos hp] at this
      simp only [cutL] at this
      unfold cutS
      rw [← this, List.take_of_length_le (by simp; omega)]
end Txt
end Go.Proofs.YtbhoklhcdefabaaDoor
