/- The walk of the reference's CleanOf. -/
import Derived.Test.YtbhoklhcdefabaaDoorTextClean
import Derived.Test.YtbhoklhcdefabaaDoorTextWidthOf
namespace Go.Proofs.YtbhoklhcdefabaaDoor
open Go.ChangeShapes Go.WideShapes Go.ChangeAt Go.RowKit Go.Maps
namespace Txt

set_option maxHeartbeats 1000000 in
theorem cleanOf_any (s : ByteArray) (w : World) (hs : s.size ≤ 281474976710656) :
    Calls Tryd.prog 10 #[.string s] w fun e w' => e = .returned (.string (bs (cleanL (runes s)))) ∧ Below w.heap.size w w' := by
  go_enter Tryd.func10, Tryd.ntmps10
  go_wp2
  go_loopw [3] (fun a wr => ∃ (pos f : Nat) (acc : List UInt8), wr.heap[w.heap.size]? = some (.stringIter s pos) ∧ Below w.heap.size w wr ∧ a = .string (bs acc) ∧ acc ++ cleanL (rs s f pos) = cleanL (runes s) ∧ s.size ≤ pos + f ∧ acc.length ≤ 4 * pos ∧ pos ≤ s.size) (fun _ wr => s.size - wr.iterPos w.heap.size)
  case atStart =>
    exact ⟨0, s.size, [], World.iter_heap w s 0, (Below.refl _ w).alloc (Nat.le_refl _) _, rfl, by simp [runes], by omega, by simp, by omega⟩
  case round =>
    obtain ⟨pos, f, acc, hit, hbw, rfl, hc, hf, hal, hps⟩ := hrel
    have HC : Hid (acc ++ cleanL (rs s f pos) = cleanL (runes s)) := hc
    clear hc
    have hsz : w.heap.size < wr.heap.size := (Array.getElem?_eq_some_iff.1 hit).1
    by_cases hp : pos < s.size
    · have hnx : ∀ ty, (Instr.next (.pointer (some ⟨w.heap.size, 0, none⟩)) true ty).run Tryd.prog wr = _ := fun ty => Lib.run_next_any_at wr w.heap.size s pos ty hit hp
      have hwd := width_pos s pos hp
      have hfit := decode_fits s pos hp
      obtain ⟨f, rfl⟩ : ∃ g, f = g + 1 := ⟨f - 1, by omega⟩
      have HR : Hid (rs s (f + 1) pos = (((Utf8.decode s pos).1 : Int), (Utf8.decode s pos).2) :: rs s f (pos + (Utf8.decode s pos).2)) := rs_step s f pos hp
      have hit2 := Lib.iterAt_heap wr w.heap.size s pos (pos + (Utf8.decode s pos).2) hit
      have hbw2 := Lib.below_iterAt hbw (k := w.heap.size) (Nat.le_refl _) s (pos + (Utf8.decode s pos).2)
      have hsz2 : w.heap.size < (wr.iterAt w.heap.size s (pos + (Utf8.decode s pos).2)).heap.size := by rw [Lib.iterAt_size]; exact hsz
      have HI : Hid (wr.iterPos w.heap.size = pos) := by simp only [Hid, World.iterPos, hit]
      clear hit
      generalize Utf8.decode s pos = d at *
      have hl4 := encodeRune_length d.1
      by_cases hpos : 0 < wd d.1
      · have HE : Hid (Utf8.encode (d.1 : Int) = bs (Lib.encodeRune d.1)) := encode_eq d.1
        have hsum : ¬ 9223372036854775807 < (bs acc).size + (Utf8.encode (d.1 : Int)).size := by rw [HE.out, bs_size, bs_size]; omega
        go_wp2_with (go_at_call 26; refine (widthOf_any _ _).mono ?_; rintro e W1 ⟨rfl, b1⟩)
        go_roundw
        case rel =>
          refine ⟨pos + d.2, f, acc ++ Lib.encodeRune d.1, (b1.block _ hsz2).trans hit2, hbw2.trans (b1.mono (by omega)), ?_, ?_, by omega, by simp; omega, by omega⟩
          · rw [← bs_append, ← HE.out]
          · rw [← HC.out, HR.out]; simp [cleanL, hpos]
        case measure =>
          rw [HI.out]
          simp only [World.iterPos, (b1.block _ hsz2).trans hit2]
          omega
      · have hz : ¬ 0 < wd d.1 := hpos
        go_wp2_with (go_at_call 26; refine (widthOf_any _ _).mono ?_; rintro e W1 ⟨rfl, b1⟩)
        go_roundw
        case rel =>
          refine ⟨pos + d.2, f, acc, (b1.block _ hsz2).trans hit2, hbw2.trans (b1.mono (by omega)), rfl, ?_, by omega, by omega, by omega⟩
          rw [← HC.out, HR.out]; simp only [cleanL]; rw [if_neg (by omega)]; rfl
        case measure =>
          rw [HI.out]
          simp only [World.iterPos, (b1.block _ hsz2).trans hit2]
          omega
    · have hnx : ∀ ty, (Instr.next (.pointer (some ⟨w.heap.size, 0, none⟩)) true ty).run Tryd.prog wr = _ := fun ty => Lib.run_next_end_at wr w.heap.size s pos ty hit hp
      go_wp2
      go_ret
      have := HC.out
      rw [rs_end s f pos hp, cleanL, List.append_nil] at this
      subst this
      exact ⟨rfl, hbw⟩
end Txt
end Go.Proofs.YtbhoklhcdefabaaDoor
