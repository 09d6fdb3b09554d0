/- The walk of text.Clean. -/
import Derived.Test.YtbhoklhcdefabaaDoorTextCols
import Derived.Test.YtbhoklhcdefabaaDoorShelfRune
namespace Go.Proofs.YtbhoklhcdefabaaDoor
open Go.ChangeShapes Go.WideShapes Go.ChangeAt Go.RowKit Go.Maps
namespace Txt
def cleanL : List (Int × Nat) → List UInt8
  | [] => []
  | x :: t => (if 0 < wd x.1 then Lib.encodeRune x.1 else []) ++ cleanL t
def cleanB (l : List UInt8) : List UInt8 := cleanL (rn l)
theorem encodeRune_length (r : Int) : 1 ≤ (Lib.encodeRune r).length ∧ (Lib.encodeRune r).length ≤ 4 := by
  rw [← Lib.runeCells_length]; exact Lib.runeCells_le r
theorem encode_eq (r : Int) : Utf8.encode r = bs (Lib.encodeRune r) := by
  by_cases h1 : 0 ≤ r ∧ r ≤ 127
  · have hv : Utf8.valid r = true := by simp [Utf8.valid]; omega
    simp only [Utf8.encode, hv, if_true]
    rw [if_pos (by omega)]
    unfold Lib.encodeRune
    rw [Lib.encodeRuneZ_one h1.1 h1.2]
    rfl
  · by_cases h2 : 128 ≤ r ∧ r ≤ 2047
    · have hv : Utf8.valid r = true := by simp [Utf8.valid]; omega
      simp only [Utf8.encode, hv, if_true]
      rw [if_neg (by omega), if_pos (by omega)]
      unfold Lib.encodeRune
      rw [Lib.encodeRuneZ_two h2.1 h2.2, show 0xC0 + r.toNat / 64 = (192 + r / 64).toNat by omega, show 0x80 + r.toNat % 64 = (128 + r % 64).toNat by omega]
      rfl
    · by_cases h3 : (2048 ≤ r ∧ r < 55296) ∨ (57343 < r ∧ r ≤ 65535)
      · have hv : Utf8.valid r = true := by simp [Utf8.valid]; omega
        simp only [Utf8.encode, hv, if_true]
        rw [if_neg (by omega), if_neg (by omega), if_pos (by omega)]
        unfold Lib.encodeRune
        rw [Lib.encodeRuneZ_three h3, show 0xE0 + r.toNat / 4096 = (224 + r / 4096).toNat by omega, show 0x80 + r.toNat / 64 % 64 = (128 + r / 64 % 64).toNat by omega, show 0x80 + r.toNat % 64 = (128 + r % 64).toNat by omega]
        rfl
      · by_cases h4 : 65536 ≤ r ∧ r ≤ 1114111
        · have hv : Utf8.valid r = true := by simp [Utf8.valid]; omega
          simp only [Utf8.encode, hv, if_true]
          rw [if_neg (by omega), if_neg (by omega), if_neg (by omega)]
          unfold Lib.encodeRune
          rw [Lib.encodeRuneZ_four h4.1 h4.2, show 0xF0 + r.toNat / 262144 = (240 + r / 262144).toNat by omega, show 0x80 + r.toNat / 4096 % 64 = (128 + r / 4096 % 64).toNat by omega, show 0x80 + r.toNat / 64 % 64 = (128 + r / 64 % 64).toNat by omega, show 0x80 + r.toNat % 64 = (128 + r % 64).toNat by omega]
          rfl
        · have hv : Utf8.valid r = false := by simp [Utf8.valid]; omega
          unfold Lib.encodeRune
          rw [Lib.encodeRuneZ_bad (by omega)]
          simp only [Utf8.encode, hv, Utf8.runeError, Bool.false_eq_true, if_false]
          decide
theorem builder_below {T e : TypeId} {B b : Nat} {bs : List Value} {w w' : World} (h : Lib.IsBuilderF T e B b bs w) (hb : Below w.heap.size w w') : Lib.IsBuilderF T e B b bs w' := by
  have key : ∀ p, Lib.BuilderAtF T e B b p bs w → Lib.BuilderAtF T e B b p bs w' := by
    rintro p ⟨hB, v, hh, hown, hne⟩
    refine ⟨hB, v, by rw [hb.block b (Array.getElem?_eq_some_iff.1 hh).1]; exact hh, ⟨hown.1, ?_⟩, hne⟩
    rcases hown.2 with hn | ⟨g, cap, cur, fz, hv, hbg, hg, rest⟩
    · exact .inl hn
    · exact .inr ⟨g, cap, cur, fz, hv, hbg, by rw [hb.block g (Array.getElem?_eq_some_iff.1 hg).1]; exact hg, rest⟩
  exact h.elim (fun x => .inl (key _ x)) (fun x => .inr (key _ x))
set_option maxHeartbeats 4000000 in
set_option maxRecDepth 1000000 in
theorem clean_any (s : ByteArray) (w : World) (hT : Tab w) (hs : s.size ≤ 17592186044416) :
    Calls Tryd.prog 22 #[.string s] w fun e w' => e = .returned (.string (bs (cleanL (runes s)))) ∧ Below w.heap.size w w' := by
  have HP : Hid (0 < w.heap.size) := hT.pos
  have HT : Hid (Tab w) := hT
  clear hT
  go_enter Tryd.func22, Tryd.ntmps22
  go_wp2
  go_loopw [] (fun wr => ∃ (pos f : Nat) (acc : List UInt8), Lib.IsBuilderF 56 5 w.heap.size w.heap.size (Lib.byteCells acc) wr ∧ wr.heap[w.heap.size + 1]? = some (.stringIter s pos) ∧ Below w.heap.size w wr ∧ acc ++ cleanL (rs s f pos) = cleanL (runes s) ∧ s.size ≤ pos + f ∧ acc.length ≤ 4 * pos ∧ pos ≤ s.size) (fun wr => s.size - wr.iterPos (w.heap.size + 1))
  case atStart =>
    refine ⟨0, s.size, [], (Lib.IsBuilderF.of (Lib.fresh_isBuilder 56 5 w)).alloc _, ?_, ((Below.refl _ w).alloc (Nat.le_refl _) _).alloc (by simp) _, by simp [runes], by omega, by simp, by omega⟩
    have := World.iter_heap (w.alloc (.cells #[.pointer none, .slice none 0 0] 56)) s 0
    simpa using this
  case round =>
    obtain ⟨pos, f, acc, hI, hit, hbw, hacc, hf, hal, hps⟩ := hrel
    have HC : Hid (acc ++ cleanL (rs s f pos) = cleanL (runes s)) := hacc
    clear hacc
    have hsz : w.heap.size + 1 < wr.heap.size := (Array.getElem?_eq_some_iff.1 hit).1
    by_cases hp : pos < s.size
    · have hnx : ∀ ty, (Instr.next (.pointer (some ⟨w.heap.size + 1, 0, none⟩)) true ty).run Tryd.prog wr = _ := fun ty => Lib.run_next_any_at wr (w.heap.size + 1) s pos ty hit hp
      have hwd := width_pos s pos hp
      have hfit := decode_fits s pos hp
      have hd1 := decode_le s pos
      obtain ⟨f, rfl⟩ : ∃ g, f = g + 1 := ⟨f - 1, by omega⟩
      have HR : Hid (rs s (f + 1) pos = (((Utf8.decode s pos).1 : Int), (Utf8.decode s pos).2) :: rs s f (pos + (Utf8.decode s pos).2)) := rs_step s f pos hp
      have hw := wd_range (Utf8.decode s pos).1
      have hI2 := hI.iterAt hit (pos + (Utf8.decode s pos).2)
      have hit2 := Lib.iterAt_heap wr (w.heap.size + 1) s pos (pos + (Utf8.decode s pos).2) hit
      have hbw2 := Lib.below_iterAt hbw (k := w.heap.size + 1) (by omega) s (pos + (Utf8.decode s pos).2)
      have hsz2 : w.heap.size + 1 < (wr.iterAt (w.heap.size + 1) s (pos + (Utf8.decode s pos).2)).heap.size := by rw [Lib.iterAt_size]; exact hsz
      have HI : Hid (wr.iterPos (w.heap.size + 1) = pos) := by simp only [Hid, World.iterPos, hit]
      clear hit hI
      generalize Utf8.decode s pos = d at *
      by_cases hpos : 0 < wd d.1
      · go_wp2_with (first
          | (go_at_call 39; refine (width_any _ _ (HT.out.below hbw2 (by have := HP.out; omega))).mono ?_; rintro e W1 ⟨rfl, b1⟩)
          | (go_at_call 41; refine (Tryd.Builder_WriteRune_k w.heap.size w.heap.size _ _ (by omega) (by omega) _ (builder_below hI2 b1) (by rw [Lib.byteCells_length]; omega) (by have := b1.size; omega)).mono ?_; rintro e W2 ⟨rfl, h2, b2, k2⟩))
        have hit3 := k2.iter ((b1.block _ hsz2).trans hit2) (by omega)
        have hl4 := encodeRune_length d.1
        go_roundw
        case rel =>
          refine ⟨pos + d.2, f, acc ++ Lib.encodeRune d.1, ?_, hit3, (hbw2.trans (b1.mono (by omega))).trans b2, ?_, by omega, by simp; omega, by omega⟩
          · rw [Lib.byteCells_append, Lib.byteCells_encodeRune]; exact Or.inr h2
          · rw [← HC.out, HR.out]; simp [cleanL, hpos]
        case measure =>
          rw [HI.out]
          simp only [World.iterPos, hit3]
          omega
      · have hz : ¬ 0 < wd d.1 := hpos
        go_wp2_with (go_at_call 39; refine (width_any _ _ (HT.out.below hbw2 (by have := HP.out; omega))).mono ?_; rintro e W1 ⟨rfl, b1⟩)
        go_roundw
        case rel =>
          refine ⟨pos + d.2, f, acc, builder_below hI2 b1, (b1.block _ hsz2).trans hit2, hbw2.trans (b1.mono (by omega)), ?_, by omega, by omega, by omega⟩
          rw [← HC.out, HR.out]; simp only [cleanL]; rw [if_neg (by omega)]; rfl
        case measure =>
          rw [HI.out]
          simp only [World.iterPos, (b1.block _ hsz2).trans hit2]
          omega
    · have hnx : ∀ ty, (Instr.next (.pointer (some ⟨w.heap.size + 1, 0, none⟩)) true ty).run Tryd.prog wr = _ := fun ty => Lib.run_next_end_at wr (w.heap.size + 1) s pos ty hit hp
      go_wp2_with (go_at_call 31; refine (Tryd.Builder_String_any_k w.heap.size w.heap.size acc _ hI (by omega)).mono ?_; rintro e W1 ⟨rfl, _, b1, _⟩)
      go_ret
      have := HC.out
      rw [rs_end s f pos hp, cleanL, List.append_nil] at this
      subst this
      exact ⟨rfl, hbw.trans b1⟩

end Txt
end Go.Proofs.YtbhoklhcdefabaaDoor
