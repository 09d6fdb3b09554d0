/- The reference's LineOf and LinesOf. -/
import Derived.Test.YtinhmklpnkikgaaDoorGridRefOf
import Derived.Test.YtinhmklpnkikgaaDoorGridLines
namespace Go.Proofs.YtinhmklpnkikgaaDoor
open Go.ChangeShapes Go.WideShapes Go.ChangeAt Go.RowKit Go.Maps
namespace Grd
open Txt (wd)
def bsG (l : List UInt8) : ByteArray := ⟨l.toArray⟩
theorem bsG_append (a b : List UInt8) : bsG a ++ bsG b = bsG (a ++ b) := by
  apply ByteArray.ext
  simp [bsG]
theorem bsG_size (l : List UInt8) : (bsG l).size = l.length := by simp [bsG, ByteArray.size]
theorem encode_eq (r : Int) : Utf8.encode r = bsG (Lib.encodeRune r) := by
  by_cases h1 : 0 ≤ r ∧ r ≤ 127
  · have hv : Utf8.valid r = true := by simp [Utf8.valid]; omega
    simp only [Utf8.encode, hv, if_true]
    rw [if_pos (by omega)]
    unfold Lib.encodeRune
    rw [Lib.encodeRuneZ_one h1.1 h1.2]
    rfl
  · by_cases h2 : 128 ≤ r ∧ r ≤ 2047
    · have hv : Utf8.valid r = true := by simp [Utf8.valid]; omega
      simp only [Utf8.encode, hv, if_true]
      rw [if_neg (by omega), if_pos (by omega)]
      unfold Lib.encodeRune
      rw [Lib.encodeRuneZ_two h2.1 h2.2, show 0xC0 + r.toNat / 64 = (192 + r / 64).toNat by omega, show 0x80 + r.toNat % 64 = (128 + r % 64).toNat by omega]
      rfl
    · by_cases h3 : (2048 ≤ r ∧ r < 55296) ∨ (57343 < r ∧ r ≤ 65535)
      · have hv : Utf8.valid r = true := by simp [Utf8.valid]; omega
        simp only [Utf8.encode, hv, if_true]
        rw [if_neg (by omega), if_neg (by omega), if_pos (by omega)]
        unfold Lib.encodeRune
        rw [Lib.encodeRuneZ_three h3, show 0xE0 + r.toNat / 4096 = (224 + r / 4096).toNat by omega, show 0x80 + r.toNat / 64 % 64 = (128 + r / 64 % 64).toNat by omega, show 0x80 + r.toNat % 64 = (128 + r % 64).toNat by omega]
        rfl
      · by_cases h4 : 65536 ≤ r ∧ r ≤ 1114111
        · have hv : Utf8.valid r = true := by simp [Utf8.valid]; omega
          simp only [Utf8.encode, hv, if_true]
          rw [if_neg (by omega), if_neg (by omega), if_neg (by omega)]
          unfold Lib.encodeRune
          rw [Lib.encodeRuneZ_four h4.1 h4.2, show 0xF0 + r.toNat / 262144 = (240 + r / 262144).toNat by omega, show 0x80 + r.toNat / 4096 % 64 = (128 + r / 4096 % 64).toNat by omega, show 0x80 + r.toNat / 64 % 64 = (128 + r / 64 % 64).toNat by omega, show 0x80 + r.toNat % 64 = (128 + r % 64).toNat by omega]
          rfl
        · have hv : Utf8.valid r = false := by simp [Utf8.valid]; omega
          unfold Lib.encodeRune
          rw [Lib.encodeRuneZ_bad (by omega)]
          simp only [Utf8.encode, hv, Utf8.runeError, Bool.false_eq_true, if_false]
          decide
set_option maxHeartbeats 4000000 in
theorem lineOf_any (b o c : Nat) (row : List C) (w : World) (hC : CellsAt w b o row) (hn : row.length ≤ 1000) (hin : ∀ j, j < row.length → 0 ≤ (row.getD j z0).1 ∧ (row.getD j z0).1 ≤ 1114111) :
    Calls Tryd.prog 53 #[.slice (some ⟨b, o, none⟩) row.length c] w fun e w' => e = .returned (.string (lineB row)) ∧ Below w.heap.size w w' := by
  have HC : Hid (CellsAt w b o row) := hC
  have HIN : Hid (∀ j, j < row.length → 0 ≤ (row.getD j z0).1 ∧ (row.getD j z0).1 ≤ 1114111) := hin
  clear hC hin
  generalize hl : row.length = L at *
  have HL : Hid (row.length = L) := hl
  clear hl
  go_enter Tryd.func53, Tryd.ntmps53
  go_wp2_with fail
  go_loopg [3, 8] L (fun q a i wr => ∃ (k : Nat) (acc : List UInt8), i = .int .i64 (k : Int) ∧ k ≤ L ∧ L - k ≤ q ∧ a = .string (bsG acc) ∧ acc = rowBytes (row.take k) ∧ acc.length ≤ 4 * k ∧ Below w.heap.size w wr)
  case atStart => exact ⟨0, [], rfl, by omega, by omega, rfl, rfl, by simp, Below.refl _ _⟩
  case round =>
    obtain ⟨k, acc, rfl, hk, hq, rfl, hacc, hal, hb⟩ := hrel
    have HACC : Hid (acc = rowBytes (row.take k)) := hacc
    clear hacc
    by_cases hlt : k < L
    · have lt1 : ((k : Int) < (L : Int)) := by omega
      have hrg := range_cell (HC.out.below hb) k (by rw [HL.out]; exact hlt)
      have hin := HIN.out k hlt
      have HNX : Hid (rowBytes (row.take (k + 1)) = rowBytes (row.take k) ++ (if (row.getD k z0).1 = 0 then [] else Lib.encodeRune (row.getD k z0).1)) := rowBytes_next _ k (by rw [HL.out]; exact hlt)
      rcases hce : row.getD k z0 with ⟨r, f, bk, x⟩
      rw [hce] at hrg hin HNX
      dsimp only at hin HNX
      have HRG : Hid (wr.rangeAt b (o + k * 4) (words (r, f, bk, x))) := hrg
      clear hrg hce
      have hl4 := encode_len r
      have HE : Hid (Utf8.encode r = bsG (Lib.encodeRune r)) := encode_eq r
      have hsum : ¬ 9223372036854775807 < (bsG acc).size + (Utf8.encode r).size := by rw [HE.out, bsG_size, bsG_size]; omega
      have kZ : Below wr.heap.size wr ((wr.alloc (.cells #[.int .i32 0, .int .i64 0, .int .i64 0, .int .i64 0] 40)).setRow wr.heap.size #[.int .i32 r, .int .i64 f, .int .i64 bk, .int .i64 x]) := below_setRow ((Below.refl _ _).alloc (Nat.le_refl _) _) (Nat.le_refl _) _
      by_cases hr0 : r = 0
      · have HN2 : Hid (acc = rowBytes (row.take (k + 1))) := by
          unfold Hid
          rw [HNX.out, if_pos hr0, List.append_nil]
          exact HACC.out
        have ne : ¬ 0 < r := by omega
        clear HNX HACC hin hr0
        go_wp2_with (first
          | (refine wpList_load_mid rfl 40 (.tmp 10) rfl b (o + k * 4) rfl (words (r, f, bk, x)) _ HRG.out Tryd.underlying40 rfl size_cell ?_)
          | (refine wpList_store_row rfl 40 (.tmp 5) _ rfl wr.heap.size #[.int .i32 r, .int .i64 f, .int .i64 bk, .int .i64 x] rfl rfl _ _ (heap_alloc_new wr _) size_cell rfl (words_one (r, f, bk, x)) ?_
             have hn0 := setRow_heap _ _ _ #[.int .i32 r, .int .i64 f, .int .i64 bk, .int .i64 x] _ _ (heap_alloc_new wr (.cells #[.int .i32 0, .int .i64 0, .int .i64 0, .int .i64 0] 40))
             generalize ((wr.alloc (.cells #[.int .i32 0, .int .i64 0, .int .i64 0, .int .i64 0] 40)).setRow wr.heap.size #[.int .i32 r, .int .i64 f, .int .i64 bk, .int .i64 x]) = Z at *
             obtain ⟨g0, g1, g2, g3⟩ := cells4 hn0))
        go_roundg (L - (k + 1))
        case measure => omega
        case rel => exact ⟨k + 1, acc, rfl, by omega, by omega, rfl, HN2.out, by omega, hb.trans (kZ.mono hb.size)⟩
      · have HN2 : Hid (acc ++ Lib.encodeRune r = rowBytes (row.take (k + 1))) := by
          unfold Hid
          rw [HNX.out, if_neg hr0, ← HACC.out]
        have ne : 0 < r := by omega
        clear HNX HACC hr0
        go_wp2_with (first
          | (refine wpList_load_mid rfl 40 (.tmp 10) rfl b (o + k * 4) rfl (words (r, f, bk, x)) _ HRG.out Tryd.underlying40 rfl size_cell ?_)
          | (refine wpList_store_row rfl 40 (.tmp 5) _ rfl wr.heap.size #[.int .i32 r, .int .i64 f, .int .i64 bk, .int .i64 x] rfl rfl _ _ (heap_alloc_new wr _) size_cell rfl (words_one (r, f, bk, x)) ?_
             have hn0 := setRow_heap _ _ _ #[.int .i32 r, .int .i64 f, .int .i64 bk, .int .i64 x] _ _ (heap_alloc_new wr (.cells #[.int .i32 0, .int .i64 0, .int .i64 0, .int .i64 0] 40))
             generalize ((wr.alloc (.cells #[.int .i32 0, .int .i64 0, .int .i64 0, .int .i64 0] 40)).setRow wr.heap.size #[.int .i32 r, .int .i64 f, .int .i64 bk, .int .i64 x]) = Z at *
             obtain ⟨g0, g1, g2, g3⟩ := cells4 hn0))
        go_roundg (L - (k + 1))
        case measure => omega
        case rel =>
          refine ⟨k + 1, acc ++ Lib.encodeRune r, rfl, by omega, by omega, ?_, HN2.out, by rw [List.length_append]; omega, hb.trans (kZ.mono hb.size)⟩
          rw [← bsG_append, ← HE.out]
    · have lt1 : ¬ ((k : Int) < (L : Int)) := by omega
      have HE : Hid (acc = rowBytes row) := by
        unfold Hid
        rw [HACC.out, List.take_of_length_le (by rw [HL.out]; omega)]
      have hTR : ∀ W, Calls Tryd.prog 51 #[.string (bsG acc), .string ⟨#[32]⟩] W fun e w' => e = .returned (.string ⟨(Lib.trimRightB acc 32).toArray⟩) ∧ W = w' := fun W => by
        have := Tryd.strings_TrimRight_one (bsG acc) 32 (by decide) W (by rw [bsG_size]; omega)
        exact this.mono fun e w' h => ⟨by simpa [bsG] using h.1, h.2.symm⟩
      go_wp2_with (go_at_call 51; refine (hTR _).mono ?_; rintro e W8 ⟨rfl, rfl⟩)
      go_ret
      exact ⟨by rw [HE.out]; rfl, hb⟩
end Grd
end Go.Proofs.YtinhmklpnkikgaaDoor
