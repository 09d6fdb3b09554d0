/- The reference's KeyBytes: keys that are told by a sequence. (Written by gen_keysrefy.py.) -/
import Derived.Test.YtdmooeoklcjplaaDoorPartH
import Derived.Test.YtdmooeoklcjplaaDoorPartG
import Derived.BigQuiet
import Derived.Laws.IdiomStrings
namespace Go.Proofs.YtdmooeoklcjplaaDoor
open Go.ChangeShapes Go.WideShapes Go.ChangeAt Go.RowKit Go.Maps
namespace Kys
open Txt (wd bs)
set_option maxHeartbeats 4000000 in
set_option maxRecDepth 100000 in
theorem kb_l0f (kind n : Int) (c : UInt8) (w : World) (hk : Wf ⟨kind, 0, n, 0⟩) (hc : ((((⟨#[c]⟩ : ByteArray)[0]'(show 0 < 1 by omega)).toNat : Int) == 126) = false) (hsq : sq ⟨kind, 0, n, 0⟩ = [c]) :
    Calls Tryd.prog 10 #[kyv ⟨kind, 0, n, 0⟩, .bool false] w fun e w' => e = .returned (.string (⟨#[27, 91]⟩ ++ ⟨#[c]⟩)) ∧ Below w.heap.size w w' := by
  have HL := fun (W : World) (b : Nat) (h : SeqAt W b seqT) => sq_run h kind 0 n (wf_bare hk)
  rw [hsq, show bs [c] = ⟨#[c]⟩ from rfl] at HL
  clear hk hsq
  unfold kyv
  go_enter Tryd.func10, Tryd.ntmps10
  go_upto_region 3 with fail
  obtain ⟨kb0, z0, z1⟩ := two_blocks w #[.int .i64 kind, .int .i32 0, .int .i64 n, .int .i64 0] #[.int .i64 kind, .int .i32 0, .int .i64 n, .int .i64 0] 23
  generalize (w.alloc (.cells #[.int .i64 kind, .int .i32 0, .int .i64 n, .int .i64 0] 23)).alloc (.cells #[.int .i64 kind, .int .i32 0, .int .i64 n, .int .i64 0] 23) = W0 at *
  obtain ⟨⟨c0, c1, c2, c3⟩, _⟩ := four_cells z1
  go_region_with (go_at_call 18; refine (sequences_any _).mono ?_; rintro e W1 ⟨rfl, hS, hB, hlt⟩; have y0 := by_drew z1 hB; obtain ⟨⟨d0, d1, d2, d3⟩, _⟩ := four_cells y0; have hl := HL W1 W0.heap.size hS)
  all_goals have zz := by_drew z0 hB
  all_goals obtain ⟨⟨e0, e1, e2, e3⟩, _⟩ := four_cells zz
  all_goals have kb1 := below_drew kb0 hB
  all_goals clear c0 c1 c2 c3 d0 d1 d2 d3 hS hB hlt HL y0 z0 z1 hl kb0
  all_goals go_wp2_with fail
  all_goals go_ret
  all_goals exact ⟨rfl, kb1⟩
set_option maxHeartbeats 4000000 in
set_option maxRecDepth 100000 in
theorem kb_l0t (kind n : Int) (c : UInt8) (w : World) (hk : Wf ⟨kind, 0, n, 0⟩) (hc : ((((⟨#[c]⟩ : ByteArray)[0]'(show 0 < 1 by omega)).toNat : Int) == 126) = false) (hsq : sq ⟨kind, 0, n, 0⟩ = [c]) :
    Calls Tryd.prog 10 #[kyv ⟨kind, 0, n, 0⟩, .bool true] w fun e w' => e = .returned (.string (⟨#[27, 79]⟩ ++ ⟨#[c]⟩)) ∧ Below w.heap.size w w' := by
  have HL := fun (W : World) (b : Nat) (h : SeqAt W b seqT) => sq_run h kind 0 n (wf_bare hk)
  rw [hsq, show bs [c] = ⟨#[c]⟩ from rfl] at HL
  clear hk hsq
  unfold kyv
  go_enter Tryd.func10, Tryd.ntmps10
  go_upto_region 3 with fail
  obtain ⟨kb0, z0, z1⟩ := two_blocks w #[.int .i64 kind, .int .i32 0, .int .i64 n, .int .i64 0] #[.int .i64 kind, .int .i32 0, .int .i64 n, .int .i64 0] 23
  generalize (w.alloc (.cells #[.int .i64 kind, .int .i32 0, .int .i64 n, .int .i64 0] 23)).alloc (.cells #[.int .i64 kind, .int .i32 0, .int .i64 n, .int .i64 0] 23) = W0 at *
  obtain ⟨⟨c0, c1, c2, c3⟩, _⟩ := four_cells z1
  go_region_with (go_at_call 18; refine (sequences_any _).mono ?_; rintro e W1 ⟨rfl, hS, hB, hlt⟩; have y0 := by_drew z1 hB; obtain ⟨⟨d0, d1, d2, d3⟩, _⟩ := four_cells y0; have hl := HL W1 W0.heap.size hS)
  all_goals have zz := by_drew z0 hB
  all_goals obtain ⟨⟨e0, e1, e2, e3⟩, _⟩ := four_cells zz
  all_goals have kb1 := below_drew kb0 hB
  all_goals clear c0 c1 c2 c3 d0 d1 d2 d3 hS hB hlt HL y0 z0 z1 hl kb0
  all_goals go_wp2_with fail
  all_goals go_ret
  all_goals exact ⟨rfl, kb1⟩
set_option maxHeartbeats 4000000 in
set_option maxRecDepth 100000 in
theorem kb_lh (kind n : Int) (c : UInt8) (j : Nat) (kp : Bool) (w : World) (hk : Wf ⟨kind, 0, n, (j : Int)⟩) (hc : ((((⟨#[c]⟩ : ByteArray)[0]'(show 0 < 1 by omega)).toNat : Int) == 126) = false) (hsq : sq ⟨kind, 0, n, 0⟩ = [c]) (h1 : 1 ≤ j) (h7 : j ≤ 7) :
    Calls Tryd.prog 10 #[kyv ⟨kind, 0, n, (j : Int)⟩, .bool kp] w fun e w' => e = .returned (.string (⟨#[27, 91, 49, 59]⟩ ++ ⟨#[UInt8.ofNat (48 + (j + 1))]⟩ ++ ⟨#[c]⟩)) ∧ Below w.heap.size w w' := by
  have HL := fun (W : World) (b : Nat) (h : SeqAt W b seqT) => sq_run h kind 0 n (wf_bare hk)
  rw [hsq, show bs [c] = ⟨#[c]⟩ from rfl] at HL
  clear hk hsq
  have HI := fun W => Tryd.strconv_Itoa_small (j + 1) (by omega) W
  rw [Lib.decDigits_one (show j + 1 < 10 by omega)] at HI
  generalize UInt8.ofNat (48 + (j + 1)) = dj at *
  have hj1 : wrap64 ((j : Int) + 1) = ((j + 1 : Nat) : Int) := by unfold wrap64; omega
  have hj : (0 : Int) < (j : Int) := by omega
  unfold kyv
  go_enter Tryd.func10, Tryd.ntmps10
  go_upto_region 3 with fail
  obtain ⟨kb0, z0, z1⟩ := two_blocks w #[.int .i64 kind, .int .i32 0, .int .i64 n, .int .i64 (j : Int)] #[.int .i64 kind, .int .i32 0, .int .i64 n, .int .i64 0] 23
  generalize (w.alloc (.cells #[.int .i64 kind, .int .i32 0, .int .i64 n, .int .i64 (j : Int)] 23)).alloc (.cells #[.int .i64 kind, .int .i32 0, .int .i64 n, .int .i64 0] 23) = W0 at *
  obtain ⟨⟨c0, c1, c2, c3⟩, _⟩ := four_cells z1
  go_region_with (go_at_call 18; refine (sequences_any _).mono ?_; rintro e W1 ⟨rfl, hS, hB, hlt⟩; have y0 := by_drew z1 hB; obtain ⟨⟨d0, d1, d2, d3⟩, _⟩ := four_cells y0; have hl := HL W1 W0.heap.size hS)
  all_goals have zz := by_drew z0 hB
  all_goals obtain ⟨⟨e0, e1, e2, e3⟩, _⟩ := four_cells zz
  all_goals have kb1 := below_drew kb0 hB
  all_goals clear c0 c1 c2 c3 d0 d1 d2 d3 hS hB hlt HL y0 z0 z1 hl kb0
  all_goals go_wp2_with (go_at_call 23; refine (HI _).mono ?_; rintro e W2 ⟨rfl, hW⟩; subst hW)
  all_goals go_ret
  all_goals exact ⟨rfl, kb1⟩
set_option maxHeartbeats 4000000 in
set_option maxRecDepth 100000 in
theorem kb_a0 (kind n : Int) (a : UInt8) (kp : Bool) (w : World) (hk : Wf ⟨kind, 0, n, 0⟩) (hsq : sq ⟨kind, 0, n, 0⟩ = [a, 126]) :
    Calls Tryd.prog 10 #[kyv ⟨kind, 0, n, 0⟩, .bool kp] w fun e w' => e = .returned (.string (⟨#[27, 91]⟩ ++ ⟨#[a, 126]⟩)) ∧ Below w.heap.size w w' := by
  have HL := fun (W : World) (b : Nat) (h : SeqAt W b seqT) => sq_run h kind 0 n (wf_bare hk)
  rw [hsq, show bs [a, 126] = ⟨#[a, 126]⟩ from rfl] at HL
  clear hk hsq
  have hc : ((((⟨#[a, 126]⟩ : ByteArray)[1]'(show 1 < 2 by omega)).toNat : Int) == 126) = true := rfl
  unfold kyv
  go_enter Tryd.func10, Tryd.ntmps10
  go_upto_region 3 with fail
  obtain ⟨kb0, z0, z1⟩ := two_blocks w #[.int .i64 kind, .int .i32 0, .int .i64 n, .int .i64 0] #[.int .i64 kind, .int .i32 0, .int .i64 n, .int .i64 0] 23
  generalize (w.alloc (.cells #[.int .i64 kind, .int .i32 0, .int .i64 n, .int .i64 0] 23)).alloc (.cells #[.int .i64 kind, .int .i32 0, .int .i64 n, .int .i64 0] 23) = W0 at *
  obtain ⟨⟨c0, c1, c2, c3⟩, _⟩ := four_cells z1
  go_region_with (go_at_call 18; refine (sequences_any _).mono ?_; rintro e W1 ⟨rfl, hS, hB, hlt⟩; have y0 := by_drew z1 hB; obtain ⟨⟨d0, d1, d2, d3⟩, _⟩ := four_cells y0; have hl := HL W1 W0.heap.size hS)
  all_goals have zz := by_drew z0 hB
  all_goals obtain ⟨⟨e0, e1, e2, e3⟩, _⟩ := four_cells zz
  all_goals have kb1 := below_drew kb0 hB
  all_goals clear c0 c1 c2 c3 d0 d1 d2 d3 hS hB hlt HL y0 z0 z1 hl kb0
  all_goals go_wp2_with fail
  all_goals go_ret
  all_goals exact ⟨rfl, kb1⟩
set_option maxHeartbeats 4000000 in
set_option maxRecDepth 100000 in
theorem kb_b0 (kind n : Int) (a b : UInt8) (kp : Bool) (w : World) (hk : Wf ⟨kind, 0, n, 0⟩) (hsq : sq ⟨kind, 0, n, 0⟩ = [a, b, 126]) :
    Calls Tryd.prog 10 #[kyv ⟨kind, 0, n, 0⟩, .bool kp] w fun e w' => e = .returned (.string (⟨#[27, 91]⟩ ++ ⟨#[a, b, 126]⟩)) ∧ Below w.heap.size w w' := by
  have HL := fun (W : World) (b : Nat) (h : SeqAt W b seqT) => sq_run h kind 0 n (wf_bare hk)
  rw [hsq, show bs [a, b, 126] = ⟨#[a, b, 126]⟩ from rfl] at HL
  clear hk hsq
  have hc : ((((⟨#[a, b, 126]⟩ : ByteArray)[2]'(show 2 < 3 by omega)).toNat : Int) == 126) = true := rfl
  unfold kyv
  go_enter Tryd.func10, Tryd.ntmps10
  go_upto_region 3 with fail
  obtain ⟨kb0, z0, z1⟩ := two_blocks w #[.int .i64 kind, .int .i32 0, .int .i64 n, .int .i64 0] #[.int .i64 kind, .int .i32 0, .int .i64 n, .int .i64 0] 23
  generalize (w.alloc (.cells #[.int .i64 kind, .int .i32 0, .int .i64 n, .int .i64 0] 23)).alloc (.cells #[.int .i64 kind, .int .i32 0, .int .i64 n, .int .i64 0] 23) = W0 at *
  obtain ⟨⟨c0, c1, c2, c3⟩, _⟩ := four_cells z1
  go_region_with (go_at_call 18; refine (sequences_any _).mono ?_; rintro e W1 ⟨rfl, hS, hB, hlt⟩; have y0 := by_drew z1 hB; obtain ⟨⟨d0, d1, d2, d3⟩, _⟩ := four_cells y0; have hl := HL W1 W0.heap.size hS)
  all_goals have zz := by_drew z0 hB
  all_goals obtain ⟨⟨e0, e1, e2, e3⟩, _⟩ := four_cells zz
  all_goals have kb1 := below_drew kb0 hB
  all_goals clear c0 c1 c2 c3 d0 d1 d2 d3 hS hB hlt HL y0 z0 z1 hl kb0
  all_goals go_wp2_with fail
  all_goals go_ret
  all_goals exact ⟨rfl, kb1⟩
end Kys
end Go.Proofs.YtdmooeoklcjplaaDoor

/- Package keys: the writers of runes and of numbers. -/
namespace Go.Proofs.YtdmooeoklcjplaaDoor
open Go.ChangeShapes Go.WideShapes Go.ChangeAt Go.RowKit Go.Sort
namespace Kys
open Txt (wd bs)
theorem encode_eq (r : Int) : Utf8.encode r = bs (Lib.encodeRune r) := by
  by_cases h1 : 0 ≤ r ∧ r ≤ 127
  · have hv : Utf8.valid r = true := by simp [Utf8.valid]; omega
    simp only [Utf8.encode, hv, if_true]
    rw [if_pos (by omega)]
    unfold Lib.encodeRune
    rw [Lib.encodeRuneZ_one h1.1 h1.2]
    rfl
  · by_cases h2 : 128 ≤ r ∧ r ≤ 2047
    · have hv : Utf8.valid r = true := by simp [Utf8.valid]; omega
      simp only [Utf8.encode, hv, if_true]
      rw [if_neg (by omega), if_pos (by omega)]
      unfold Lib.encodeRune
      rw [Lib.encodeRuneZ_two h2.1 h2.2, show 0xC0 + r.toNat / 64 = (192 + r / 64).toNat by omega, show 0x80 + r.toNat % 64 = (128 + r % 64).toNat by omega]
      rfl
    · by_cases h3 : (2048 ≤ r ∧ r < 55296) ∨ (57343 < r ∧ r ≤ 65535)
      · have hv : Utf8.valid r = true := by simp [Utf8.valid]; omega
        simp only [Utf8.encode, hv, if_true]
        rw [if_neg (by omega), if_neg (by omega), if_pos (by omega)]
        unfold Lib.encodeRune
        rw [Lib.encodeRuneZ_three h3, show 0xE0 + r.toNat / 4096 = (224 + r / 4096).toNat by omega, show 0x80 + r.toNat / 64 % 64 = (128 + r / 64 % 64).toNat by omega, show 0x80 + r.toNat % 64 = (128 + r % 64).toNat by omega]
        rfl
      · by_cases h4 : 65536 ≤ r ∧ r ≤ 1114111
        · have hv : Utf8.valid r = true := by simp [Utf8.valid]; omega
          simp only [Utf8.encode, hv, if_true]
          rw [if_neg (by omega), if_neg (by omega), if_neg (by omega)]
          unfold Lib.encodeRune
          rw [Lib.encodeRuneZ_four h4.1 h4.2, show 0xF0 + r.toNat / 262144 = (240 + r / 262144).toNat by omega, show 0x80 + r.toNat / 4096 % 64 = (128 + r / 4096 % 64).toNat by omega, show 0x80 + r.toNat / 64 % 64 = (128 + r / 64 % 64).toNat by omega, show 0x80 + r.toNat % 64 = (128 + r % 64).toNat by omega]
          rfl
        · have hv : Utf8.valid r = false := by simp [Utf8.valid]; omega
          unfold Lib.encodeRune
          rw [Lib.encodeRuneZ_bad (by omega)]
          simp only [Utf8.encode, hv, Utf8.runeError, Bool.false_eq_true, if_false]
          decide
set_option maxHeartbeats 4000000 in
theorem writeRune_0 (kind r n : Int) (kp : Bool) (w : World) : Calls Tryd.prog 31 #[kyv ⟨kind, r, n, 0⟩, .bool kp] w fun e w' => e = .returned (.string (bs (altA 0 ++ Lib.encodeRune r))) ∧ Below w.heap.size w w' := by
  have kb : Below w.heap.size w (w.alloc (.cells #[.int .i64 kind, .int .i32 r, .int .i64 n, .int .i64 0] 23)) := (Below.refl _ _).alloc (Nat.le_refl _) _
  have HW := altAhead_any ⟨kind, r, n, 0⟩ (by simp) (w.alloc (.cells #[.int .i64 kind, .int .i32 r, .int .i64 n, .int .i64 0] 23))
  have hb : bits BinOp.and IntKind.i64 0 4 = 0 := by kernel_rfl
  have he : bs (altA 0 ++ Lib.encodeRune r) = bs (altA 0) ++ Utf8.encode r := by rw [encode_eq, Txt.bs_append]
  have hl : (bs (altA 0)).size ≤ 1 := by rw [bs_size]; decide
  have hl2 : (Utf8.encode r).size ≤ 4 := by
    rw [encode_eq, bs_size]
    have := Lib.encodeRuneZ_length r
    simp only [Lib.encodeRune, List.length_map]
    omega
  have hs : ¬ 9223372036854775807 < (bs (altA 0)).size + (Utf8.encode r).size := by omega
  rw [he]
  clear he hl hl2
  simp only at HW
  generalize bs (altA 0) = t at *
  unfold kyv at HW ⊢
  go_enter Tryd.func31, Tryd.ntmps31
  go_wp2_with (go_at_call 55; refine HW.mono ?_; rintro e W1 ⟨rfl, b1⟩; replace kb := kb.trans (b1.mono kb.size))
  go_ret
  exact ⟨rfl, kb⟩
set_option maxHeartbeats 4000000 in
theorem writeRune_2 (kind r n : Int) (kp : Bool) (w : World) : Calls Tryd.prog 31 #[kyv ⟨kind, r, n, 2⟩, .bool kp] w fun e w' => e = .returned (.string (bs (altA 2 ++ Lib.encodeRune r))) ∧ Below w.heap.size w w' := by
  have kb : Below w.heap.size w (w.alloc (.cells #[.int .i64 kind, .int .i32 r, .int .i64 n, .int .i64 2] 23)) := (Below.refl _ _).alloc (Nat.le_refl _) _
  have HW := altAhead_any ⟨kind, r, n, 2⟩ (by simp) (w.alloc (.cells #[.int .i64 kind, .int .i32 r, .int .i64 n, .int .i64 2] 23))
  have hb : bits BinOp.and IntKind.i64 2 4 = 0 := by kernel_rfl
  have he : bs (altA 2 ++ Lib.encodeRune r) = bs (altA 2) ++ Utf8.encode r := by rw [encode_eq, Txt.bs_append]
  have hl : (bs (altA 2)).size ≤ 1 := by rw [bs_size]; decide
  have hl2 : (Utf8.encode r).size ≤ 4 := by
    rw [encode_eq, bs_size]
    have := Lib.encodeRuneZ_length r
    simp only [Lib.encodeRune, List.length_map]
    omega
  have hs : ¬ 9223372036854775807 < (bs (altA 2)).size + (Utf8.encode r).size := by omega
  rw [he]
  clear he hl hl2
  simp only at HW
  generalize bs (altA 2) = t at *
  unfold kyv at HW ⊢
  go_enter Tryd.func31, Tryd.ntmps31
  go_wp2_with (go_at_call 55; refine HW.mono ?_; rintro e W1 ⟨rfl, b1⟩; replace kb := kb.trans (b1.mono kb.size))
  go_ret
  exact ⟨rfl, kb⟩
set_option maxHeartbeats 4000000 in
theorem writeRune_4 (kind r n : Int) (kp : Bool) (w : World) (h1 : 97 ≤ r) (h2 : r ≤ 122) : Calls Tryd.prog 31 #[kyv ⟨kind, r, n, 4⟩, .bool kp] w fun e w' => e = .returned (.string (bs (altA 4 ++ Lib.encodeRune (r - 96)))) ∧ Below w.heap.size w w' := by
  have kb : Below w.heap.size w (w.alloc (.cells #[.int .i64 kind, .int .i32 r, .int .i64 n, .int .i64 4] 23)) := (Below.refl _ _).alloc (Nat.le_refl _) _
  have HW := altAhead_any ⟨kind, r, n, 4⟩ (by simp) (w.alloc (.cells #[.int .i64 kind, .int .i32 r, .int .i64 n, .int .i64 4] 23))
  have hb : bits BinOp.and IntKind.i64 4 4 = 4 := by kernel_rfl
  have he : bs (altA 4 ++ Lib.encodeRune (r - 96)) = bs (altA 4) ++ Utf8.encode (r - 96) := by rw [encode_eq, Txt.bs_append]
  have hl : (bs (altA 4)).size ≤ 1 := by rw [bs_size]; decide
  have hl2 : (Utf8.encode (r - 96)).size ≤ 4 := by
    rw [encode_eq, bs_size]
    have := Lib.encodeRuneZ_length (r - 96)
    simp only [Lib.encodeRune, List.length_map]
    omega
  have hs : ¬ 9223372036854775807 < (bs (altA 4)).size + (Utf8.encode (r - 96)).size := by omega
  rw [he]
  clear he hl hl2
  simp only at HW
  generalize bs (altA 4) = t at *
  have hw : wrap32 (r - 96) = r - 96 := by unfold wrap32; omega
  unfold kyv at HW ⊢
  go_enter Tryd.func31, Tryd.ntmps31
  go_wp2_with (go_at_call 55; refine HW.mono ?_; rintro e W1 ⟨rfl, b1⟩; replace kb := kb.trans (b1.mono kb.size))
  go_ret
  exact ⟨rfl, kb⟩
set_option maxHeartbeats 4000000 in
theorem writeRune_6 (kind r n : Int) (kp : Bool) (w : World) (h1 : 97 ≤ r) (h2 : r ≤ 122) : Calls Tryd.prog 31 #[kyv ⟨kind, r, n, 6⟩, .bool kp] w fun e w' => e = .returned (.string (bs (altA 6 ++ Lib.encodeRune (r - 96)))) ∧ Below w.heap.size w w' := by
  have kb : Below w.heap.size w (w.alloc (.cells #[.int .i64 kind, .int .i32 r, .int .i64 n, .int .i64 6] 23)) := (Below.refl _ _).alloc (Nat.le_refl _) _
  have HW := altAhead_any ⟨kind, r, n, 6⟩ (by simp) (w.alloc (.cells #[.int .i64 kind, .int .i32 r, .int .i64 n, .int .i64 6] 23))
  have hb : bits BinOp.and IntKind.i64 6 4 = 4 := by kernel_rfl
  have he : bs (altA 6 ++ Lib.encodeRune (r - 96)) = bs (altA 6) ++ Utf8.encode (r - 96) := by rw [encode_eq, Txt.bs_append]
  have hl : (bs (altA 6)).size ≤ 1 := by rw [bs_size]; decide
  have hl2 : (Utf8.encode (r - 96)).size ≤ 4 := by
    rw [encode_eq, bs_size]
    have := Lib.encodeRuneZ_length (r - 96)
    simp only [Lib.encodeRune, List.length_map]
    omega
  have hs : ¬ 9223372036854775807 < (bs (altA 6)).size + (Utf8.encode (r - 96)).size := by omega
  rw [he]
  clear he hl hl2
  simp only at HW
  generalize bs (altA 6) = t at *
  have hw : wrap32 (r - 96) = r - 96 := by unfold wrap32; omega
  unfold kyv at HW ⊢
  go_enter Tryd.func31, Tryd.ntmps31
  go_wp2_with (go_at_call 55; refine HW.mono ?_; rintro e W1 ⟨rfl, b1⟩; replace kb := kb.trans (b1.mono kb.size))
  go_ret
  exact ⟨rfl, kb⟩
theorem writeRune_any (k : Ky) (kp : Bool) (h : k.held = 0 ∨ k.held = 2 ∨ (k.held = 4 ∨ k.held = 6) ∧ 97 ≤ k.r ∧ k.r ≤ 122) (w : World) : Calls Tryd.prog 31 #[kyv k, .bool kp] w fun e w' => e = .returned (.string (bs (altA k.held ++ Lib.encodeRune (wrR k)))) ∧ Below w.heap.size w w' := by
  obtain ⟨kind, r, n, held⟩ := k
  simp only at h
  rcases h with rfl | rfl | ⟨rfl | rfl, h1, h2⟩
  · exact writeRune_0 kind r n kp w
  · exact writeRune_2 kind r n kp w
  · exact writeRune_4 kind r n kp w h1 h2
  · exact writeRune_6 kind r n kp w h1 h2
/-- Keys that are told by a number. -/
def numKeys : List (Int × Int) := [(12, 0), (13, 0), (14, 0)] ++ (List.range 12).map fun i : Nat => (15, 1 + (i : Int))
theorem num_at : ∀ x ∈ numKeys, numOf x.1 x.2 < 25 ∧ numT.getD (numOf x.1 x.2) (0, 0) = x ∧ ∀ i ∈ List.range 25, i < numOf x.1 x.2 → numT.getD i (0, 0) ≠ x := by decide +kernel
theorem num_idx (i : Nat) (hi : i < 25) (wr : World) : (Instr.index 106 (.agg numCells) (.int .i64 (i : Int))).run Tryd.prog wr = .ok (.agg #[.int .i64 (numT.getD i (0, 0)).1, .int .i32 0, .int .i64 (numT.getD i (0, 0)).2, .int .i64 0]) wr := by
  have : i = 0 ∨ i = 1 ∨ i = 2 ∨ i = 3 ∨ i = 4 ∨ i = 5 ∨ i = 6 ∨ i = 7 ∨ i = 8 ∨ i = 9 ∨ i = 10 ∨ i = 11 ∨ i = 12 ∨ i = 13 ∨ i = 14 ∨ i = 15 ∨ i = 16 ∨ i = 17 ∨ i = 18 ∨ i = 19 ∨ i = 20 ∨ i = 21 ∨ i = 22 ∨ i = 23 ∨ i = 24 := by omega
  rcases this with rfl | rfl | rfl | rfl | rfl | rfl | rfl | rfl | rfl | rfl | rfl | rfl | rfl | rfl | rfl | rfl | rfl | rfl | rfl | rfl | rfl | rfl | rfl | rfl | rfl <;> (show (_ : Result Value) = _; kernel_rfl)
theorem eql_key (a b c d : Int) (w : World) : (binOp .eql 23 (.agg #[.int .i64 a, .int .i32 0, .int .i64 b, .int .i64 0]) (.agg #[.int .i64 c, .int .i32 0, .int .i64 d, .int .i64 0])).run Tryd.prog w = .ok (.bool (decide ((a, b) = (c, d)))) w := by
  have e : decide ((a, b) = (c, d)) = (a == c && b == d) := by
    rw [Bool.eq_iff_iff]
    simp
  rw [e]
  go_simp
  by_cases h1 : a = c <;> by_cases h2 : b = d <;> simp [h1, h2]
set_option maxHeartbeats 4000000 in
set_option maxRecDepth 100000 in
theorem number_any (kind n held : Int) (hk : (kind, n) ∈ numKeys) (w : World) (hN : NumTab w) : Calls Tryd.prog 57 #[kyv ⟨kind, 0, n, held⟩] w fun e w' => e = .returned (.int .i64 (numOf kind n : Nat)) ∧ Below w.heap.size w w' := by
  obtain ⟨g25, gat, gno⟩ := num_at (kind, n) hk
  simp only at g25 gat gno
  have kb0 : Below w.heap.size w (w.alloc (.cells #[.int .i64 kind, .int .i32 0, .int .i64 n, .int .i64 0] 23)) := (Below.refl _ _).alloc (Nat.le_refl _) _
  obtain ⟨tt, fr, hN⟩ := hN.below kb0
  have HN : Hid ((w.alloc (.cells #[.int .i64 kind, .int .i32 0, .int .i64 n, .int .i64 0] 23)).heap[7]? = some (.cells numCells tt fr)) := hN
  clear hN hk
  generalize numOf kind n = T at *
  have HG : Hid (numT.getD T (0, 0) = (kind, n)) := gat
  have HB : Hid (∀ i, i < T → numT.getD i (0, 0) ≠ (kind, n)) := fun i hi => gno i (List.mem_range.2 (by omega)) hi
  clear gat gno
  unfold kyv
  go_enter Tryd.func57, Tryd.ntmps57
  go_wp2_with (refine wpList_load_row rfl 106 (.global 7) rfl 7 rfl _ numCells _ _ HN.out Tryd.underlying106 rfl (by kernel_rfl) ?_)
  obtain ⟨W0, hW0⟩ : ∃ W0, w.alloc (.cells #[.int .i64 kind, .int .i32 0, .int .i64 n, .int .i64 0] 23) = W0 := ⟨_, rfl⟩
  have z0 : W0.heap[w.heap.size]? = some (.cells #[.int .i64 kind, .int .i32 0, .int .i64 n, .int .i64 0] 23 (0, 0)) := by rw [← hW0]; exact heap_alloc_new _ _
  rw [hW0] at kb0
  rw [hW0]
  clear HN hW0
  go_loopg [7] 25 (fun g v wr => ∃ i : Nat, i ≤ T ∧ 25 - i ≤ g ∧ v = .int .i64 (i : Int) ∧ Below W0.heap.size W0 wr)
  case atStart => exact ⟨0, Nat.zero_le _, by omega, rfl, Below.refl _ _⟩
  case round =>
    obtain ⟨i, hi, hg, rfl, hb⟩ := hrel
    have i25 : (i : Int) < 25 := by omega
    have hix := num_idx i (by omega)
    have zr := by_block z0 hb
    obtain ⟨⟨c0, c1, c2, c3⟩, _⟩ := four_cells zr
    have hq := fun a b W => eql_key a b kind n W
    have hw : wrap64 ((i : Int) + 1) = (i : Int) + 1 := by unfold wrap64; omega
    have hsz := hb.size
    have zlt : w.heap.size < wr.heap.size := (Array.getElem?_eq_some_iff.1 zr).1
    have hne : ¬ w.heap.size = wr.heap.size := by omega
    by_cases hT : i = T
    · subst hT
      have e := HG.out
      obtain ⟨⟨a, b⟩, hab⟩ : ∃ x, numT.getD i (0, 0) = x := ⟨_, rfl⟩
      rw [hab] at hix e
      simp only at hix
      injection e with e1 e2
      subst e1 e2
      clear hab
      go_wp2_with fail
      go_ret
      have k1 := kb0.trans (hb.mono kb0.size)
      exact ⟨rfl, k1.alloc k1.size _⟩
    · have e := HB.out i (by omega)
      obtain ⟨⟨a, b⟩, hab⟩ : ∃ x, numT.getD i (0, 0) = x := ⟨_, rfl⟩
      rw [hab] at hix e
      simp only at hix
      have hq2 := fun W => (hq a b W).trans (by rw [decide_eq_false e])
      clear hab hq
      go_wp2_with fail
      go_roundg (25 - (i + 1))
      case measure => omega
      case rel => exact ⟨i + 1, by omega, by omega, by go_num, hb.alloc hsz _⟩
theorem dig_num : ∀ x ∈ numKeys, bs (Lib.decDigits (numOf x.1 x.2)) = bs (digB (numOf x.1 x.2)) ∧ (digB (numOf x.1 x.2)).length ≤ 2 ∧ numOf x.1 x.2 < 100 := by
  have h : ∀ x ∈ numKeys, Lib.decDigits (numOf x.1 x.2) = digB (numOf x.1 x.2) ∧ (digB (numOf x.1 x.2)).length ≤ 2 ∧ numOf x.1 x.2 < 100 := by decide +kernel
  exact fun x hx => ⟨congrArg bs (h x hx).1, (h x hx).2⟩
set_option maxHeartbeats 4000000 in
theorem writeNumber_any (kind n held : Int) (kp : Bool) (hk : (kind, n) ∈ numKeys) (h0 : 0 ≤ held) (h7 : held ≤ 7) (w : World) (hN : NumTab w) : Calls Tryd.prog 37 #[kyv ⟨kind, 0, n, held⟩, .bool kp] w fun e w' => e = .returned (.string (bs ([27, 91] ++ digB (numOf kind n) ++ heldB held ++ [126]))) ∧ Below w.heap.size w w' := by
  obtain ⟨d1, d2, d3⟩ := dig_num (kind, n) hk
  simp only at d1 d2 d3
  obtain ⟨W0, hW0⟩ : ∃ W0, w.alloc (.cells #[.int .i64 kind, .int .i32 0, .int .i64 n, .int .i64 held] 23) = W0 := ⟨_, rfl⟩
  have kb : Below w.heap.size w W0 := by rw [← hW0]; exact (Below.refl _ _).alloc (Nat.le_refl _) _
  have z0 : W0.heap[w.heap.size]? = some (.cells #[.int .i64 kind, .int .i32 0, .int .i64 n, .int .i64 held] 23 (0, 0)) := by rw [← hW0]; exact heap_alloc_new _ _
  have hN0 := hN.below kb
  have HA := fun d os => Calls.regrown_of (number_any kind n held hk (grow (redrawn W0 d) os) (hN0.below ((below_regrown W0 d os))))
  have HB := fun d os => Calls.regrown_of ((Tryd.strconv_Itoa_small (numOf kind n) d3 (grow (redrawn W0 d) os)).mono (fun e w' ⟨he, hw⟩ => (⟨he, by rw [hw]; exact Below.refl _ _⟩ : e = .returned (.string (bs (Lib.decDigits (numOf kind n)))) ∧ Below (grow (redrawn W0 d) os).heap.size (grow (redrawn W0 d) os) w')))
  have HC := fun d os => Calls.regrown_of (heldBehind_any ⟨kind, 0, n, held⟩ h0 h7 (grow (redrawn W0 d) os))
  simp only at HC
  rw [d1] at HB
  obtain ⟨⟨c0, c1, c2, c3⟩, _⟩ := four_cells z0
  have g0 := fun d os => cell_regrown c0 d os
  have g1 := fun d os => cell_regrown c1 d os
  have g2 := fun d os => cell_regrown c2 d os
  have g3 := fun d os => cell_regrown c3 d os
  have e : bs ([27, 91] ++ digB (numOf kind n) ++ heldB held ++ [126]) = ⟨#[27, 91]⟩ ++ bs (digB (numOf kind n)) ++ bs (heldB held) ++ ⟨#[126]⟩ := by
    rw [← Txt.bs_append, ← Txt.bs_append, ← Txt.bs_append]
    rfl
  rw [e]
  have l1 : (bs (digB (numOf kind n))).size ≤ 2 := by rw [bs_size]; exact d2
  have l2 : (bs (heldB held)).size ≤ 2 := by rw [bs_size]; unfold heldB; split <;> simp
  clear e d1 d2 d3 hN hN0 c0 c1 c2 c3 z0
  generalize bs (digB (numOf kind n)) = tA at *
  generalize bs (heldB held) = tB at *
  generalize numOf kind n = nk at *
  have s1 : ¬ 9223372036854775807 < 2 + tA.size := by omega
  have s2 : ¬ 9223372036854775807 < 2 + tA.size + tB.size := by omega
  have s3 : ¬ 9223372036854775807 < 2 + tA.size + tB.size + 1 := by omega
  unfold kyv at HA HC ⊢
  go_enter Tryd.func37, Tryd.ntmps37
  go_wp2_with fail
  refine wp_region_quiet_below (by kernel_rfl) (by kernel_rfl) ?_
  repeat (first | go_big_quiet_skip | quiet_step (first | (go_at_call 57; exact HA _ _) | (go_at_call 23; exact HB _ _) | (go_at_call 56; exact HC _ _)))
  refine wpQuiet_nil ?_
  intro _ hw'
  obtain ⟨⟨dq, os⟩, hw''⟩ := hw'
  subst hw''
  have kR := below_regrown W0 dq os
  have kw := kb.trans (kR.mono kb.size)
  clear g0 g1 g2 g3 HA HB HC kR
  generalize grow (redrawn W0 dq) os = V at *
  go_wp2_with fail
  go_ret
  exact ⟨rfl, kw⟩
end Kys
end Go.Proofs.YtdmooeoklcjplaaDoor

/- The reference's KeyBytes: numbers with something held. (Written by gen_keysrefz.py.) -/
namespace Go.Proofs.YtdmooeoklcjplaaDoor
open Go.ChangeShapes Go.WideShapes Go.ChangeAt Go.RowKit Go.Maps Go.Sort
namespace Kys
open Txt (wd bs)
set_option maxHeartbeats 4000000 in
set_option maxRecDepth 100000 in
theorem kb_ah (kind n : Int) (a : UInt8) (j : Nat) (kp : Bool) (w : World) (hk : Wf ⟨kind, 0, n, (j : Int)⟩) (hsq : sq ⟨kind, 0, n, 0⟩ = [a, 126]) (h1 : 1 ≤ j) (h7 : j ≤ 7) :
    Calls Tryd.prog 10 #[kyv ⟨kind, 0, n, (j : Int)⟩, .bool kp] w fun e w' => e = .returned (.string (⟨#[27, 91]⟩ ++ ((⟨#[a, 126]⟩ : ByteArray).extract 0 1 ++ ⟨#[59]⟩ ++ ⟨#[UInt8.ofNat (48 + (j + 1))]⟩ ++ ⟨#[126]⟩))) ∧ Below w.heap.size w w' := by
  have HL := fun (W : World) (b : Nat) (h : SeqAt W b seqT) => sq_run h kind 0 n (wf_bare hk)
  rw [hsq, show bs [a, 126] = ⟨#[a, 126]⟩ from rfl] at HL
  clear hk hsq
  have hc : ((((⟨#[a, 126]⟩ : ByteArray)[1]'(show 1 < 2 by omega)).toNat : Int) == 126) = true := rfl
  have HI := fun W => Tryd.strconv_Itoa_small (j + 1) (by omega) W
  rw [Lib.decDigits_one (show j + 1 < 10 by omega)] at HI
  generalize UInt8.ofNat (48 + (j + 1)) = dj at *
  have hj1 : IntKind.i64.wrap ((j : Int) + 1) = ((j + 1 : Nat) : Int) := (IntWalk.i64_in _ ⟨by omega, by omega⟩).trans (by omega)
  have hw2 : IntKind.i64.wrap 1 = 1 := by kernel_rfl
  have hw3 : IntKind.i64.wrap 2 = 2 := by kernel_rfl
  have hj : (0 : Int) < (j : Int) := by omega
  unfold kyv
  go_enter Tryd.func10, Tryd.ntmps10
  go_upto_region 3 with fail
  obtain ⟨kb0, z0, z1⟩ := two_blocks w #[.int .i64 kind, .int .i32 0, .int .i64 n, .int .i64 (j : Int)] #[.int .i64 kind, .int .i32 0, .int .i64 n, .int .i64 0] 23
  generalize (w.alloc (.cells #[.int .i64 kind, .int .i32 0, .int .i64 n, .int .i64 (j : Int)] 23)).alloc (.cells #[.int .i64 kind, .int .i32 0, .int .i64 n, .int .i64 0] 23) = W0 at *
  obtain ⟨⟨c0, c1, c2, c3⟩, _⟩ := four_cells z1
  go_region_with (go_at_call 18; refine (sequences_any _).mono ?_; rintro e W1 ⟨rfl, hS, hB, hlt⟩; have y0 := by_drew z1 hB; obtain ⟨⟨d0, d1, d2, d3⟩, _⟩ := four_cells y0; have hl := HL W1 W0.heap.size hS)
  all_goals have zz := by_drew z0 hB
  all_goals obtain ⟨⟨e0, e1, e2, e3⟩, _⟩ := four_cells zz
  all_goals have kb1 := below_drew kb0 hB
  all_goals clear c0 c1 c2 c3 d0 d1 d2 d3 hS hB hlt HL y0 z0 z1 hl kb0
  all_goals go_upto_region 7 with fail
  all_goals
    have HB := fun d os => Calls.regrown_of ((HI (grow (redrawn W1 d) os)).mono (fun e w' ⟨he, hw⟩ => (⟨he, by rw [hw]; exact Below.refl _ _⟩ : e = .returned (.string ⟨#[dj]⟩) ∧ Below (grow (redrawn W1 d) os).heap.size (grow (redrawn W1 d) os) w')))
    have g3 := fun d os => cell_regrown e3 d os
    have g0 := fun d os => cell_regrown e0 d os
    refine wp_region_quiet_below (by kernel_rfl) (by kernel_rfl) ?_
    repeat (first | go_big_quiet_skip | quiet_step (first | (go_at_call 23; exact HB _ _)))
    refine wpQuiet_nil ?_
    intro _ hw'
    obtain ⟨⟨dq, os⟩, hw''⟩ := hw'
    subst hw''
    have kR := below_regrown W1 dq os
    have kw := kb1.trans (kR.mono kb1.size)
    clear g0 g3 HB HI kR e0 e1 e2 e3 zz kb1
    generalize grow (redrawn W1 dq) os = V at *
    go_wp2_with fail
    go_ret
    exact ⟨rfl, kw⟩
set_option maxHeartbeats 4000000 in
set_option maxRecDepth 100000 in
theorem kb_bh (kind n : Int) (a b : UInt8) (j : Nat) (kp : Bool) (w : World) (hk : Wf ⟨kind, 0, n, (j : Int)⟩) (hsq : sq ⟨kind, 0, n, 0⟩ = [a, b, 126]) (h1 : 1 ≤ j) (h7 : j ≤ 7) :
    Calls Tryd.prog 10 #[kyv ⟨kind, 0, n, (j : Int)⟩, .bool kp] w fun e w' => e = .returned (.string (⟨#[27, 91]⟩ ++ ((⟨#[a, b, 126]⟩ : ByteArray).extract 0 2 ++ ⟨#[59]⟩ ++ ⟨#[UInt8.ofNat (48 + (j + 1))]⟩ ++ ⟨#[126]⟩))) ∧ Below w.heap.size w w' := by
  have HL := fun (W : World) (b : Nat) (h : SeqAt W b seqT) => sq_run h kind 0 n (wf_bare hk)
  rw [hsq, show bs [a, b, 126] = ⟨#[a, b, 126]⟩ from rfl] at HL
  clear hk hsq
  have hc : ((((⟨#[a, b, 126]⟩ : ByteArray)[2]'(show 2 < 3 by omega)).toNat : Int) == 126) = true := rfl
  have HI := fun W => Tryd.strconv_Itoa_small (j + 1) (by omega) W
  rw [Lib.decDigits_one (show j + 1 < 10 by omega)] at HI
  generalize UInt8.ofNat (48 + (j + 1)) = dj at *
  have hj1 : IntKind.i64.wrap ((j : Int) + 1) = ((j + 1 : Nat) : Int) := (IntWalk.i64_in _ ⟨by omega, by omega⟩).trans (by omega)
  have hw2 : IntKind.i64.wrap 1 = 1 := by kernel_rfl
  have hw3 : IntKind.i64.wrap 2 = 2 := by kernel_rfl
  have hj : (0 : Int) < (j : Int) := by omega
  unfold kyv
  go_enter Tryd.func10, Tryd.ntmps10
  go_upto_region 3 with fail
  obtain ⟨kb0, z0, z1⟩ := two_blocks w #[.int .i64 kind, .int .i32 0, .int .i64 n, .int .i64 (j : Int)] #[.int .i64 kind, .int .i32 0, .int .i64 n, .int .i64 0] 23
  generalize (w.alloc (.cells #[.int .i64 kind, .int .i32 0, .int .i64 n, .int .i64 (j : Int)] 23)).alloc (.cells #[.int .i64 kind, .int .i32 0, .int .i64 n, .int .i64 0] 23) = W0 at *
  obtain ⟨⟨c0, c1, c2, c3⟩, _⟩ := four_cells z1
  go_region_with (go_at_call 18; refine (sequences_any _).mono ?_; rintro e W1 ⟨rfl, hS, hB, hlt⟩; have y0 := by_drew z1 hB; obtain ⟨⟨d0, d1, d2, d3⟩, _⟩ := four_cells y0; have hl := HL W1 W0.heap.size hS)
  all_goals have zz := by_drew z0 hB
  all_goals obtain ⟨⟨e0, e1, e2, e3⟩, _⟩ := four_cells zz
  all_goals have kb1 := below_drew kb0 hB
  all_goals clear c0 c1 c2 c3 d0 d1 d2 d3 hS hB hlt HL y0 z0 z1 hl kb0
  all_goals go_upto_region 7 with fail
  all_goals
    have HB := fun d os => Calls.regrown_of ((HI (grow (redrawn W1 d) os)).mono (fun e w' ⟨he, hw⟩ => (⟨he, by rw [hw]; exact Below.refl _ _⟩ : e = .returned (.string ⟨#[dj]⟩) ∧ Below (grow (redrawn W1 d) os).heap.size (grow (redrawn W1 d) os) w')))
    have g3 := fun d os => cell_regrown e3 d os
    have g0 := fun d os => cell_regrown e0 d os
    refine wp_region_quiet_below (by kernel_rfl) (by kernel_rfl) ?_
    repeat (first | go_big_quiet_skip | quiet_step (first | (go_at_call 23; exact HB _ _)))
    refine wpQuiet_nil ?_
    intro _ hw'
    obtain ⟨⟨dq, os⟩, hw''⟩ := hw'
    subst hw''
    have kR := below_regrown W1 dq os
    have kw := kb1.trans (kR.mono kb1.size)
    clear g0 g3 HB HI kR e0 e1 e2 e3 zz kb1
    generalize grow (redrawn W1 dq) os = V at *
    go_wp2_with fail
    go_ret
    exact ⟨rfl, kw⟩
end Kys
end Go.Proofs.YtdmooeoklcjplaaDoor

/- The reference's KeyBytes: kinds without a sequence. (Written by gen_keysrefz.py.) -/
namespace Go.Proofs.YtdmooeoklcjplaaDoor
open Go.ChangeShapes Go.WideShapes Go.ChangeAt Go.RowKit Go.Maps Go.Sort
namespace Kys
open Txt (wd bs)
theorem im_map : Tryd.prog.underlying 51 = some (.map 3 9) := by kernel_rfl
noncomputable def putI (D : DataW Unit) (p : Int × ByteArray) : DataW Unit := D.put (.int .i64 p.1) (.lit (.string p.2.data.toList))
noncomputable def litsI (l : List (Int × ByteArray)) : DataW Unit := l.foldl putI (.map [])
def lookI (l : List (Int × ByteArray)) (n : Int) : ByteArray := l.foldl (fun c p => if n = p.1 then p.2 else c) ⟨#[]⟩
theorem litsI_at : ∀ (l : List (Int × ByteArray)) (D : DataW Unit) (c : ByteArray) (n : Int), IsMap D → D.atKey (.int .i64 n) (.lit (.string [])) = .lit (.string c.data.toList) →
    (l.foldl putI D).atKey (.int .i64 n) (.lit (.string [])) = .lit (.string (l.foldl (fun c p => if n = p.1 then p.2 else c) c).data.toList)
  | [], D, c, n, _, h => h
  | p :: l, D, c, n, hD, h => by
    refine litsI_at l _ _ n (hD.put _ _) ?_
    unfold putI
    show (D.put (.int .i64 p.1) (.lit (.string p.2.data.toList))).atKey (.int .i64 n) (.lit (.string [])) = .lit (.string (if n = p.1 then p.2 else c).data.toList)
    by_cases hn : n = p.1
    · rw [if_pos hn, hn]
      exact atKey_put_same hD (by trivial) _ _
    · rw [if_neg hn, atKey_put_other (by simp [hn]), h]
def IMap (w : World) (b : Nat) (l : List (Int × ByteArray)) : Prop := ∃ n, n ≤ l.length ∧ w.ownsMap Tryd.prog 3 (plainElem (H := Unit) Tryd.prog 9) b n (litsI l)
theorem im_made (w : World) : IMap (w.alloc (.map #[] 0)) w.heap.size [] := ⟨0, Nat.le_refl _, World.ownsMap_made _ _ _ _⟩
theorem IMap.lookup {w : World} {b : Nat} {l : List (Int × ByteArray)} (h : IMap w b l) (n : Int) (h0 : -9223372036854775808 ≤ n ∧ n ≤ 9223372036854775807) :
    (Instr.lookup 51 (.map (some b)) (.int .i64 n) false).run Tryd.prog w = .ok (.string (lookI l n)) w := by
  obtain ⟨k, _, h⟩ := h
  obtain ⟨v, ps, hrun, hat⟩ := h.lookup (int_keyed ky_int) im_map (ky_zero w) (plainElem_string ky_string (s := ⟨#[]⟩) (by decide)) (keyOf_int_mk ky_int (WalkArith.wf_i64 h0))
  obtain ⟨s, rfl, hz, _⟩ := plainElem_string_inv ky_string hat
  rw [show (⟨#[]⟩ : ByteArray).data.toList = [] from rfl, show (litsI l).atKey (.int .i64 n) (.lit (.string [])) = _ from litsI_at l (.map []) ⟨#[]⟩ n isMap_empty rfl] at hz
  simp only [Prod.mk.injEq, DataW.lit.injEq, Lit.string.injEq] at hz
  have e : s = lookI l n := by
    have := hz.1
    unfold lookI
    obtain ⟨⟨s⟩⟩ := s
    generalize l.foldl (fun c p => if n = p.1 then p.2 else c) ⟨#[]⟩ = t at *
    obtain ⟨⟨t⟩⟩ := t
    simp only at this
    rw [this]
  rw [hrun, e]
theorem IMap.put {w : World} {b : Nat} {l : List (Int × ByteArray)} (h : IMap w b l) (hn : l.length < 100) (k : Int) (hk : -9223372036854775808 ≤ k ∧ k ≤ 9223372036854775807) (t : ByteArray) (ht : t.size < 100) :
    ∃ w', Sem.run Tryd.prog (Instr.mapUpdate 51 (.map (some b)) (.int .i64 k) (.string t)) w = .ok () w' ∧ IMap w' b (l ++ [(k, t)]) ∧ w.grownBy w' (some b) := by
  obtain ⟨n, hn', h⟩ := h
  obtain ⟨w', hrun, r1, r2⟩ := h.update (t := 51) (int_keyed ky_int) im_map (by unfold maxLen; omega) (keyOf_int_mk ky_int (WalkArith.wf_i64 hk)) (plainElem_string (s := t) ky_string (by unfold maxLen; omega))
  refine ⟨w', hrun, ⟨n + 1, by simp; omega, ?_⟩, r2⟩
  unfold litsI at r1 ⊢
  rw [List.foldl_append]
  exact r1
theorem enc_small (r : Int) : (Utf8.encode r).size ≤ 4 := by
  rw [encode_eq, bs_size]
  have := Lib.encodeRuneZ_length r
  simp only [Lib.encodeRune, List.length_map]
  omega
def litK (r : Int) : List (Int × ByteArray) := [(2, ⟨#[13]⟩), (4, ⟨#[127]⟩), (5, ⟨#[27]⟩), (3, ⟨#[9]⟩), (1, Utf8.encode r)]
/-- The map of a literal, made. -/
theorem lit_made (W1 : World) (r : Int) {b : Nat} {o : Obj} (hz : W1.heap[b]? = some o) {w : World} (hk : Below w.heap.size w W1) : ∃ V1 V2 V3 V4 V5,
    Sem.run Tryd.prog (Instr.mapUpdate 51 (.map (some W1.heap.size)) (.int .i64 2) (.string ⟨#[13]⟩)) (W1.alloc (.map #[] 0)) = .ok () V1 ∧
    Sem.run Tryd.prog (Instr.mapUpdate 51 (.map (some W1.heap.size)) (.int .i64 4) (.string ⟨#[127]⟩)) V1 = .ok () V2 ∧
    Sem.run Tryd.prog (Instr.mapUpdate 51 (.map (some W1.heap.size)) (.int .i64 5) (.string ⟨#[27]⟩)) V2 = .ok () V3 ∧
    Sem.run Tryd.prog (Instr.mapUpdate 51 (.map (some W1.heap.size)) (.int .i64 3) (.string ⟨#[9]⟩)) V3 = .ok () V4 ∧
    Sem.run Tryd.prog (Instr.mapUpdate 51 (.map (some W1.heap.size)) (.int .i64 1) (.string (Utf8.encode r))) V4 = .ok () V5 ∧
    V4.heap[b]? = some o ∧ V5.heap[b]? = some o ∧ Below w.heap.size w V5 ∧ (∀ n : Int, -9223372036854775808 ≤ n ∧ n ≤ 9223372036854775807 → (Instr.lookup 51 (.map (some W1.heap.size)) (.int .i64 n) false).run Tryd.prog V5 = .ok (.string (lookI (litK r) n)) V5) := by
  have hb : b < W1.heap.size := (Array.getElem?_eq_some_iff.1 hz).1
  have hz0 : (W1.alloc (.map #[] 0)).heap[b]? = some o := by_block hz ((Below.refl _ _).alloc (Nat.le_refl _) _)
  have hk0 : Below w.heap.size w (W1.alloc (.map #[] 0)) := hk.alloc hk.size _
  have m0 := im_made W1
  have hne : b ≠ W1.heap.size := by omega
  have hsz : w.heap.size ≤ W1.heap.size := hk.size
  obtain ⟨V1, r1, m1, g1⟩ := m0.put (by decide) 2 (by decide) ⟨#[13]⟩ (by decide)
  obtain ⟨V2, r2, m2, g2⟩ := m1.put (by simp) 4 (by decide) ⟨#[127]⟩ (by decide)
  obtain ⟨V3, r3, m3, g3⟩ := m2.put (by simp) 5 (by decide) ⟨#[27]⟩ (by decide)
  obtain ⟨V4, r4, m4, g4⟩ := m3.put (by simp) 3 (by decide) ⟨#[9]⟩ (by decide)
  obtain ⟨V5, r5, m5, g5⟩ := m4.put (by simp) 1 (by decide) (Utf8.encode r) (by have := enc_small r; omega)
  have k1 := hk0.grown g1 hk0.size (fun j hj => by cases hj; exact hsz)
  have k2 := k1.grown g2 k1.size (fun j hj => by cases hj; exact hsz)
  have k3 := k2.grown g3 k2.size (fun j hj => by cases hj; exact hsz)
  have k4 := k3.grown g4 k3.size (fun j hj => by cases hj; exact hsz)
  have k5 := k4.grown g5 k4.size (fun j hj => by cases hj; exact hsz)
  have z4 := heap_grown (heap_grown (heap_grown (heap_grown hz0 g1 hne) g2 hne) g3 hne) g4 hne
  exact ⟨V1, V2, V3, V4, V5, r1, r2, r3, r4, r5, z4, heap_grown z4 g5 hne, k5, fun n hn => m5.lookup n hn⟩
set_option maxHeartbeats 4000000 in
set_option maxRecDepth 100000 in
theorem kb_2_0 (r : Int) (kp : Bool) (w : World) (hk : Wf ⟨2, r, 0, 0⟩)  :
    Calls Tryd.prog 10 #[kyv ⟨2, r, 0, 0⟩, .bool kp] w fun e w' => e = .returned (.string (⟨#[13]⟩)) ∧ Below w.heap.size w w' := by
  have HL := fun (W : World) (b : Nat) (h : SeqAt W b seqT) => sq_run h 2 r 0 (wf_bare hk)
  rw [show sq ⟨2, r, 0, 0⟩ = [] from sq_no _ (fun h => by unfold isSq at h; simp only at h; omega), show bs ([] : List UInt8) = ⟨#[]⟩ from rfl] at HL
  clear hk
  have hmm := @run_makeMap Tryd.prog
  have hb4 : bits BinOp.and IntKind.i64 0 4 = 0 := by kernel_rfl
  have hb2 : bits BinOp.and IntKind.i64 0 2 = 0 := by kernel_rfl
  unfold kyv
  go_enter Tryd.func10, Tryd.ntmps10
  go_upto_region 3 with fail
  obtain ⟨kb0, z0, z1⟩ := two_blocks w #[.int .i64 2, .int .i32 r, .int .i64 0, .int .i64 0] #[.int .i64 2, .int .i32 r, .int .i64 0, .int .i64 0] 23
  generalize (w.alloc (.cells #[.int .i64 2, .int .i32 r, .int .i64 0, .int .i64 0] 23)).alloc (.cells #[.int .i64 2, .int .i32 r, .int .i64 0, .int .i64 0] 23) = W0 at *
  obtain ⟨⟨c0, c1, c2, c3⟩, _⟩ := four_cells z1
  go_region_with (go_at_call 18; refine (sequences_any _).mono ?_; rintro e W1 ⟨rfl, hS, hB, hlt⟩; have y0 := by_drew z1 hB; obtain ⟨⟨d0, d1, d2, d3⟩, _⟩ := four_cells y0; have hl := HL W1 W0.heap.size hS)
  all_goals have zz := by_drew z0 hB
  all_goals obtain ⟨⟨e0, e1, e2, e3⟩, _⟩ := four_cells zz
  all_goals have kb1 := below_drew kb0 hB
  all_goals clear c0 c1 c2 c3 d0 d1 d2 d3 hS hB hlt HL y0 z0 z1 hl kb0
  all_goals obtain ⟨V1, V2, V3, V4, V5, r1, r2, r3, r4, r5, z4, z5, k5, hlk⟩ := lit_made W1 r zz kb1
  all_goals replace hlk := hlk 2 (by decide)
  all_goals rw [show lookI (litK r) 2 = ⟨#[13]⟩ from rfl] at hlk
  all_goals obtain ⟨⟨e0, e1, e2, e3⟩, _⟩ := four_cells z4
  all_goals obtain ⟨⟨f0, f1, f2, f3⟩, _⟩ := four_cells z5
  all_goals clear zz kb1 z4 z5
  all_goals go_wp2_with fail
  all_goals go_ret
  all_goals exact ⟨rfl, k5⟩
set_option maxHeartbeats 4000000 in
set_option maxRecDepth 100000 in
theorem kb_2_2 (r : Int) (kp : Bool) (w : World) (hk : Wf ⟨2, r, 0, 2⟩)  :
    Calls Tryd.prog 10 #[kyv ⟨2, r, 0, 2⟩, .bool kp] w fun e w' => e = .returned (.string (⟨#[27]⟩ ++ ⟨#[13]⟩)) ∧ Below w.heap.size w w' := by
  have HL := fun (W : World) (b : Nat) (h : SeqAt W b seqT) => sq_run h 2 r 0 (wf_bare hk)
  rw [show sq ⟨2, r, 0, 0⟩ = [] from sq_no _ (fun h => by unfold isSq at h; simp only at h; omega), show bs ([] : List UInt8) = ⟨#[]⟩ from rfl] at HL
  clear hk
  have hmm := @run_makeMap Tryd.prog
  have hb4 : bits BinOp.and IntKind.i64 2 4 = 0 := by kernel_rfl
  have hb2 : bits BinOp.and IntKind.i64 2 2 = 2 := by kernel_rfl
  unfold kyv
  go_enter Tryd.func10, Tryd.ntmps10
  go_upto_region 3 with fail
  obtain ⟨kb0, z0, z1⟩ := two_blocks w #[.int .i64 2, .int .i32 r, .int .i64 0, .int .i64 2] #[.int .i64 2, .int .i32 r, .int .i64 0, .int .i64 0] 23
  generalize (w.alloc (.cells #[.int .i64 2, .int .i32 r, .int .i64 0, .int .i64 2] 23)).alloc (.cells #[.int .i64 2, .int .i32 r, .int .i64 0, .int .i64 0] 23) = W0 at *
  obtain ⟨⟨c0, c1, c2, c3⟩, _⟩ := four_cells z1
  go_region_with (go_at_call 18; refine (sequences_any _).mono ?_; rintro e W1 ⟨rfl, hS, hB, hlt⟩; have y0 := by_drew z1 hB; obtain ⟨⟨d0, d1, d2, d3⟩, _⟩ := four_cells y0; have hl := HL W1 W0.heap.size hS)
  all_goals have zz := by_drew z0 hB
  all_goals obtain ⟨⟨e0, e1, e2, e3⟩, _⟩ := four_cells zz
  all_goals have kb1 := below_drew kb0 hB
  all_goals clear c0 c1 c2 c3 d0 d1 d2 d3 hS hB hlt HL y0 z0 z1 hl kb0
  all_goals obtain ⟨V1, V2, V3, V4, V5, r1, r2, r3, r4, r5, z4, z5, k5, hlk⟩ := lit_made W1 r zz kb1
  all_goals replace hlk := hlk 2 (by decide)
  all_goals rw [show lookI (litK r) 2 = ⟨#[13]⟩ from rfl] at hlk
  all_goals obtain ⟨⟨e0, e1, e2, e3⟩, _⟩ := four_cells z4
  all_goals obtain ⟨⟨f0, f1, f2, f3⟩, _⟩ := four_cells z5
  all_goals clear zz kb1 z4 z5
  all_goals go_wp2_with fail
  all_goals go_ret
  all_goals exact ⟨rfl, k5⟩
set_option maxHeartbeats 4000000 in
set_option maxRecDepth 100000 in
theorem kb_4_0 (r : Int) (kp : Bool) (w : World) (hk : Wf ⟨4, r, 0, 0⟩)  :
    Calls Tryd.prog 10 #[kyv ⟨4, r, 0, 0⟩, .bool kp] w fun e w' => e = .returned (.string (⟨#[127]⟩)) ∧ Below w.heap.size w w' := by
  have HL := fun (W : World) (b : Nat) (h : SeqAt W b seqT) => sq_run h 4 r 0 (wf_bare hk)
  rw [show sq ⟨4, r, 0, 0⟩ = [] from sq_no _ (fun h => by unfold isSq at h; simp only at h; omega), show bs ([] : List UInt8) = ⟨#[]⟩ from rfl] at HL
  clear hk
  have hmm := @run_makeMap Tryd.prog
  have hb4 : bits BinOp.and IntKind.i64 0 4 = 0 := by kernel_rfl
  have hb2 : bits BinOp.and IntKind.i64 0 2 = 0 := by kernel_rfl
  unfold kyv
  go_enter Tryd.func10, Tryd.ntmps10
  go_upto_region 3 with fail
  obtain ⟨kb0, z0, z1⟩ := two_blocks w #[.int .i64 4, .int .i32 r, .int .i64 0, .int .i64 0] #[.int .i64 4, .int .i32 r, .int .i64 0, .int .i64 0] 23
  generalize (w.alloc (.cells #[.int .i64 4, .int .i32 r, .int .i64 0, .int .i64 0] 23)).alloc (.cells #[.int .i64 4, .int .i32 r, .int .i64 0, .int .i64 0] 23) = W0 at *
  obtain ⟨⟨c0, c1, c2, c3⟩, _⟩ := four_cells z1
  go_region_with (go_at_call 18; refine (sequences_any _).mono ?_; rintro e W1 ⟨rfl, hS, hB, hlt⟩; have y0 := by_drew z1 hB; obtain ⟨⟨d0, d1, d2, d3⟩, _⟩ := four_cells y0; have hl := HL W1 W0.heap.size hS)
  all_goals have zz := by_drew z0 hB
  all_goals obtain ⟨⟨e0, e1, e2, e3⟩, _⟩ := four_cells zz
  all_goals have kb1 := below_drew kb0 hB
  all_goals clear c0 c1 c2 c3 d0 d1 d2 d3 hS hB hlt HL y0 z0 z1 hl kb0
  all_goals obtain ⟨V1, V2, V3, V4, V5, r1, r2, r3, r4, r5, z4, z5, k5, hlk⟩ := lit_made W1 r zz kb1
  all_goals replace hlk := hlk 4 (by decide)
  all_goals rw [show lookI (litK r) 4 = ⟨#[127]⟩ from rfl] at hlk
  all_goals obtain ⟨⟨e0, e1, e2, e3⟩, _⟩ := four_cells z4
  all_goals obtain ⟨⟨f0, f1, f2, f3⟩, _⟩ := four_cells z5
  all_goals clear zz kb1 z4 z5
  all_goals go_wp2_with fail
  all_goals go_ret
  all_goals exact ⟨rfl, k5⟩
set_option maxHeartbeats 4000000 in
set_option maxRecDepth 100000 in
theorem kb_4_2 (r : Int) (kp : Bool) (w : World) (hk : Wf ⟨4, r, 0, 2⟩)  :
    Calls Tryd.prog 10 #[kyv ⟨4, r, 0, 2⟩, .bool kp] w fun e w' => e = .returned (.string (⟨#[27]⟩ ++ ⟨#[127]⟩)) ∧ Below w.heap.size w w' := by
  have HL := fun (W : World) (b : Nat) (h : SeqAt W b seqT) => sq_run h 4 r 0 (wf_bare hk)
  rw [show sq ⟨4, r, 0, 0⟩ = [] from sq_no _ (fun h => by unfold isSq at h; simp only at h; omega), show bs ([] : List UInt8) = ⟨#[]⟩ from rfl] at HL
  clear hk
  have hmm := @run_makeMap Tryd.prog
  have hb4 : bits BinOp.and IntKind.i64 2 4 = 0 := by kernel_rfl
  have hb2 : bits BinOp.and IntKind.i64 2 2 = 2 := by kernel_rfl
  unfold kyv
  go_enter Tryd.func10, Tryd.ntmps10
  go_upto_region 3 with fail
  obtain ⟨kb0, z0, z1⟩ := two_blocks w #[.int .i64 4, .int .i32 r, .int .i64 0, .int .i64 2] #[.int .i64 4, .int .i32 r, .int .i64 0, .int .i64 0] 23
  generalize (w.alloc (.cells #[.int .i64 4, .int .i32 r, .int .i64 0, .int .i64 2] 23)).alloc (.cells #[.int .i64 4, .int .i32 r, .int .i64 0, .int .i64 0] 23) = W0 at *
  obtain ⟨⟨c0, c1, c2, c3⟩, _⟩ := four_cells z1
  go_region_with (go_at_call 18; refine (sequences_any _).mono ?_; rintro e W1 ⟨rfl, hS, hB, hlt⟩; have y0 := by_drew z1 hB; obtain ⟨⟨d0, d1, d2, d3⟩, _⟩ := four_cells y0; have hl := HL W1 W0.heap.size hS)
  all_goals have zz := by_drew z0 hB
  all_goals obtain ⟨⟨e0, e1, e2, e3⟩, _⟩ := four_cells zz
  all_goals have kb1 := below_drew kb0 hB
  all_goals clear c0 c1 c2 c3 d0 d1 d2 d3 hS hB hlt HL y0 z0 z1 hl kb0
  all_goals obtain ⟨V1, V2, V3, V4, V5, r1, r2, r3, r4, r5, z4, z5, k5, hlk⟩ := lit_made W1 r zz kb1
  all_goals replace hlk := hlk 4 (by decide)
  all_goals rw [show lookI (litK r) 4 = ⟨#[127]⟩ from rfl] at hlk
  all_goals obtain ⟨⟨e0, e1, e2, e3⟩, _⟩ := four_cells z4
  all_goals obtain ⟨⟨f0, f1, f2, f3⟩, _⟩ := four_cells z5
  all_goals clear zz kb1 z4 z5
  all_goals go_wp2_with fail
  all_goals go_ret
  all_goals exact ⟨rfl, k5⟩
set_option maxHeartbeats 4000000 in
set_option maxRecDepth 100000 in
theorem kb_3_0 (r : Int) (kp : Bool) (w : World) (hk : Wf ⟨3, r, 0, 0⟩)  :
    Calls Tryd.prog 10 #[kyv ⟨3, r, 0, 0⟩, .bool kp] w fun e w' => e = .returned (.string (⟨#[9]⟩)) ∧ Below w.heap.size w w' := by
  have HL := fun (W : World) (b : Nat) (h : SeqAt W b seqT) => sq_run h 3 r 0 (wf_bare hk)
  rw [show sq ⟨3, r, 0, 0⟩ = [] from sq_no _ (fun h => by unfold isSq at h; simp only at h; omega), show bs ([] : List UInt8) = ⟨#[]⟩ from rfl] at HL
  clear hk
  have hmm := @run_makeMap Tryd.prog
  have hb4 : bits BinOp.and IntKind.i64 0 4 = 0 := by kernel_rfl
  have hb2 : bits BinOp.and IntKind.i64 0 2 = 0 := by kernel_rfl
  unfold kyv
  go_enter Tryd.func10, Tryd.ntmps10
  go_upto_region 3 with fail
  obtain ⟨kb0, z0, z1⟩ := two_blocks w #[.int .i64 3, .int .i32 r, .int .i64 0, .int .i64 0] #[.int .i64 3, .int .i32 r, .int .i64 0, .int .i64 0] 23
  generalize (w.alloc (.cells #[.int .i64 3, .int .i32 r, .int .i64 0, .int .i64 0] 23)).alloc (.cells #[.int .i64 3, .int .i32 r, .int .i64 0, .int .i64 0] 23) = W0 at *
  obtain ⟨⟨c0, c1, c2, c3⟩, _⟩ := four_cells z1
  go_region_with (go_at_call 18; refine (sequences_any _).mono ?_; rintro e W1 ⟨rfl, hS, hB, hlt⟩; have y0 := by_drew z1 hB; obtain ⟨⟨d0, d1, d2, d3⟩, _⟩ := four_cells y0; have hl := HL W1 W0.heap.size hS)
  all_goals have zz := by_drew z0 hB
  all_goals obtain ⟨⟨e0, e1, e2, e3⟩, _⟩ := four_cells zz
  all_goals have kb1 := below_drew kb0 hB
  all_goals clear c0 c1 c2 c3 d0 d1 d2 d3 hS hB hlt HL y0 z0 z1 hl kb0
  all_goals obtain ⟨V1, V2, V3, V4, V5, r1, r2, r3, r4, r5, z4, z5, k5, hlk⟩ := lit_made W1 r zz kb1
  all_goals replace hlk := hlk 3 (by decide)
  all_goals rw [show lookI (litK r) 3 = ⟨#[9]⟩ from rfl] at hlk
  all_goals obtain ⟨⟨e0, e1, e2, e3⟩, _⟩ := four_cells z4
  all_goals obtain ⟨⟨f0, f1, f2, f3⟩, _⟩ := four_cells z5
  all_goals clear zz kb1 z4 z5
  all_goals go_wp2_with fail
  all_goals go_ret
  all_goals exact ⟨rfl, k5⟩
set_option maxHeartbeats 4000000 in
set_option maxRecDepth 100000 in
theorem kb_3_1 (r : Int) (kp : Bool) (w : World) (hk : Wf ⟨3, r, 0, 1⟩)  :
    Calls Tryd.prog 10 #[kyv ⟨3, r, 0, 1⟩, .bool kp] w fun e w' => e = .returned (.string (⟨#[27, 91, 90]⟩)) ∧ Below w.heap.size w w' := by
  have HL := fun (W : World) (b : Nat) (h : SeqAt W b seqT) => sq_run h 3 r 0 (wf_bare hk)
  rw [show sq ⟨3, r, 0, 0⟩ = [] from sq_no _ (fun h => by unfold isSq at h; simp only at h; omega), show bs ([] : List UInt8) = ⟨#[]⟩ from rfl] at HL
  clear hk
  have hmm := @run_makeMap Tryd.prog
  have hb4 : bits BinOp.and IntKind.i64 1 4 = 0 := by kernel_rfl
  have hb2 : bits BinOp.and IntKind.i64 1 2 = 0 := by kernel_rfl
  unfold kyv
  go_enter Tryd.func10, Tryd.ntmps10
  go_upto_region 3 with fail
  obtain ⟨kb0, z0, z1⟩ := two_blocks w #[.int .i64 3, .int .i32 r, .int .i64 0, .int .i64 1] #[.int .i64 3, .int .i32 r, .int .i64 0, .int .i64 0] 23
  generalize (w.alloc (.cells #[.int .i64 3, .int .i32 r, .int .i64 0, .int .i64 1] 23)).alloc (.cells #[.int .i64 3, .int .i32 r, .int .i64 0, .int .i64 0] 23) = W0 at *
  obtain ⟨⟨c0, c1, c2, c3⟩, _⟩ := four_cells z1
  go_region_with (go_at_call 18; refine (sequences_any _).mono ?_; rintro e W1 ⟨rfl, hS, hB, hlt⟩; have y0 := by_drew z1 hB; obtain ⟨⟨d0, d1, d2, d3⟩, _⟩ := four_cells y0; have hl := HL W1 W0.heap.size hS)
  all_goals have zz := by_drew z0 hB
  all_goals obtain ⟨⟨e0, e1, e2, e3⟩, _⟩ := four_cells zz
  all_goals have kb1 := below_drew kb0 hB
  all_goals clear c0 c1 c2 c3 d0 d1 d2 d3 hS hB hlt HL y0 z0 z1 hl kb0
  all_goals obtain ⟨V1, V2, V3, V4, V5, r1, r2, r3, r4, r5, z4, z5, k5, hlk⟩ := lit_made W1 r zz kb1
  all_goals replace hlk := hlk 3 (by decide)
  all_goals rw [show lookI (litK r) 3 = ⟨#[9]⟩ from rfl] at hlk
  all_goals obtain ⟨⟨e0, e1, e2, e3⟩, _⟩ := four_cells z4
  all_goals obtain ⟨⟨f0, f1, f2, f3⟩, _⟩ := four_cells z5
  all_goals clear zz kb1 z4 z5
  all_goals go_wp2_with fail
  all_goals go_ret
  all_goals exact ⟨rfl, k5⟩
set_option maxHeartbeats 4000000 in
set_option maxRecDepth 100000 in
theorem kb_5_0 (r : Int) (kp : Bool) (w : World) (hk : Wf ⟨5, r, 0, 0⟩)  :
    Calls Tryd.prog 10 #[kyv ⟨5, r, 0, 0⟩, .bool kp] w fun e w' => e = .returned (.string (⟨#[27]⟩)) ∧ Below w.heap.size w w' := by
  have HL := fun (W : World) (b : Nat) (h : SeqAt W b seqT) => sq_run h 5 r 0 (wf_bare hk)
  rw [show sq ⟨5, r, 0, 0⟩ = [] from sq_no _ (fun h => by unfold isSq at h; simp only at h; omega), show bs ([] : List UInt8) = ⟨#[]⟩ from rfl] at HL
  clear hk
  have hmm := @run_makeMap Tryd.prog
  have hb4 : bits BinOp.and IntKind.i64 0 4 = 0 := by kernel_rfl
  have hb2 : bits BinOp.and IntKind.i64 0 2 = 0 := by kernel_rfl
  unfold kyv
  go_enter Tryd.func10, Tryd.ntmps10
  go_upto_region 3 with fail
  obtain ⟨kb0, z0, z1⟩ := two_blocks w #[.int .i64 5, .int .i32 r, .int .i64 0, .int .i64 0] #[.int .i64 5, .int .i32 r, .int .i64 0, .int .i64 0] 23
  generalize (w.alloc (.cells #[.int .i64 5, .int .i32 r, .int .i64 0, .int .i64 0] 23)).alloc (.cells #[.int .i64 5, .int .i32 r, .int .i64 0, .int .i64 0] 23) = W0 at *
  obtain ⟨⟨c0, c1, c2, c3⟩, _⟩ := four_cells z1
  go_region_with (go_at_call 18; refine (sequences_any _).mono ?_; rintro e W1 ⟨rfl, hS, hB, hlt⟩; have y0 := by_drew z1 hB; obtain ⟨⟨d0, d1, d2, d3⟩, _⟩ := four_cells y0; have hl := HL W1 W0.heap.size hS)
  all_goals have zz := by_drew z0 hB
  all_goals obtain ⟨⟨e0, e1, e2, e3⟩, _⟩ := four_cells zz
  all_goals have kb1 := below_drew kb0 hB
  all_goals clear c0 c1 c2 c3 d0 d1 d2 d3 hS hB hlt HL y0 z0 z1 hl kb0
  all_goals obtain ⟨V1, V2, V3, V4, V5, r1, r2, r3, r4, r5, z4, z5, k5, hlk⟩ := lit_made W1 r zz kb1
  all_goals replace hlk := hlk 5 (by decide)
  all_goals rw [show lookI (litK r) 5 = ⟨#[27]⟩ from rfl] at hlk
  all_goals obtain ⟨⟨e0, e1, e2, e3⟩, _⟩ := four_cells z4
  all_goals obtain ⟨⟨f0, f1, f2, f3⟩, _⟩ := four_cells z5
  all_goals clear zz kb1 z4 z5
  all_goals go_wp2_with fail
  all_goals go_ret
  all_goals exact ⟨rfl, k5⟩
set_option maxHeartbeats 4000000 in
set_option maxRecDepth 100000 in
theorem kb_1_0 (r : Int) (kp : Bool) (w : World) (hk : Wf ⟨1, r, 0, 0⟩)  :
    Calls Tryd.prog 10 #[kyv ⟨1, r, 0, 0⟩, .bool kp] w fun e w' => e = .returned (.string (Utf8.encode r)) ∧ Below w.heap.size w w' := by
  have HL := fun (W : World) (b : Nat) (h : SeqAt W b seqT) => sq_run h 1 r 0 (wf_bare hk)
  rw [show sq ⟨1, r, 0, 0⟩ = [] from sq_no _ (fun h => by unfold isSq at h; simp only at h; omega), show bs ([] : List UInt8) = ⟨#[]⟩ from rfl] at HL
  clear hk
  have hen := enc_small r
  have hs1 : ¬ 9223372036854775807 < 1 + (Utf8.encode r).size := by omega
  have hmm := @run_makeMap Tryd.prog
  have hb4 : bits BinOp.and IntKind.i64 0 4 = 0 := by kernel_rfl
  have hb2 : bits BinOp.and IntKind.i64 0 2 = 0 := by kernel_rfl
  unfold kyv
  go_enter Tryd.func10, Tryd.ntmps10
  go_upto_region 3 with fail
  obtain ⟨kb0, z0, z1⟩ := two_blocks w #[.int .i64 1, .int .i32 r, .int .i64 0, .int .i64 0] #[.int .i64 1, .int .i32 r, .int .i64 0, .int .i64 0] 23
  generalize (w.alloc (.cells #[.int .i64 1, .int .i32 r, .int .i64 0, .int .i64 0] 23)).alloc (.cells #[.int .i64 1, .int .i32 r, .int .i64 0, .int .i64 0] 23) = W0 at *
  obtain ⟨⟨c0, c1, c2, c3⟩, _⟩ := four_cells z1
  go_region_with (go_at_call 18; refine (sequences_any _).mono ?_; rintro e W1 ⟨rfl, hS, hB, hlt⟩; have y0 := by_drew z1 hB; obtain ⟨⟨d0, d1, d2, d3⟩, _⟩ := four_cells y0; have hl := HL W1 W0.heap.size hS)
  all_goals have zz := by_drew z0 hB
  all_goals obtain ⟨⟨e0, e1, e2, e3⟩, _⟩ := four_cells zz
  all_goals have kb1 := below_drew kb0 hB
  all_goals clear c0 c1 c2 c3 d0 d1 d2 d3 hS hB hlt HL y0 z0 z1 hl kb0
  all_goals obtain ⟨V1, V2, V3, V4, V5, r1, r2, r3, r4, r5, z4, z5, k5, hlk⟩ := lit_made W1 r zz kb1
  all_goals replace hlk := hlk 1 (by decide)
  all_goals rw [show lookI (litK r) 1 = Utf8.encode r from rfl] at hlk
  all_goals obtain ⟨⟨e0, e1, e2, e3⟩, _⟩ := four_cells z4
  all_goals obtain ⟨⟨f0, f1, f2, f3⟩, _⟩ := four_cells z5
  all_goals clear zz kb1 z4 z5
  all_goals go_wp2_with fail
  all_goals go_ret
  all_goals exact ⟨rfl, k5⟩
set_option maxHeartbeats 4000000 in
set_option maxRecDepth 100000 in
theorem kb_1_2 (r : Int) (kp : Bool) (w : World) (hk : Wf ⟨1, r, 0, 2⟩)  :
    Calls Tryd.prog 10 #[kyv ⟨1, r, 0, 2⟩, .bool kp] w fun e w' => e = .returned (.string (⟨#[27]⟩ ++ Utf8.encode r)) ∧ Below w.heap.size w w' := by
  have HL := fun (W : World) (b : Nat) (h : SeqAt W b seqT) => sq_run h 1 r 0 (wf_bare hk)
  rw [show sq ⟨1, r, 0, 0⟩ = [] from sq_no _ (fun h => by unfold isSq at h; simp only at h; omega), show bs ([] : List UInt8) = ⟨#[]⟩ from rfl] at HL
  clear hk
  have hen := enc_small r
  have hs1 : ¬ 9223372036854775807 < 1 + (Utf8.encode r).size := by omega
  have hmm := @run_makeMap Tryd.prog
  have hb4 : bits BinOp.and IntKind.i64 2 4 = 0 := by kernel_rfl
  have hb2 : bits BinOp.and IntKind.i64 2 2 = 2 := by kernel_rfl
  unfold kyv
  go_enter Tryd.func10, Tryd.ntmps10
  go_upto_region 3 with fail
  obtain ⟨kb0, z0, z1⟩ := two_blocks w #[.int .i64 1, .int .i32 r, .int .i64 0, .int .i64 2] #[.int .i64 1, .int .i32 r, .int .i64 0, .int .i64 0] 23
  generalize (w.alloc (.cells #[.int .i64 1, .int .i32 r, .int .i64 0, .int .i64 2] 23)).alloc (.cells #[.int .i64 1, .int .i32 r, .int .i64 0, .int .i64 0] 23) = W0 at *
  obtain ⟨⟨c0, c1, c2, c3⟩, _⟩ := four_cells z1
  go_region_with (go_at_call 18; refine (sequences_any _).mono ?_; rintro e W1 ⟨rfl, hS, hB, hlt⟩; have y0 := by_drew z1 hB; obtain ⟨⟨d0, d1, d2, d3⟩, _⟩ := four_cells y0; have hl := HL W1 W0.heap.size hS)
  all_goals have zz := by_drew z0 hB
  all_goals obtain ⟨⟨e0, e1, e2, e3⟩, _⟩ := four_cells zz
  all_goals have kb1 := below_drew kb0 hB
  all_goals clear c0 c1 c2 c3 d0 d1 d2 d3 hS hB hlt HL y0 z0 z1 hl kb0
  all_goals obtain ⟨V1, V2, V3, V4, V5, r1, r2, r3, r4, r5, z4, z5, k5, hlk⟩ := lit_made W1 r zz kb1
  all_goals replace hlk := hlk 1 (by decide)
  all_goals rw [show lookI (litK r) 1 = Utf8.encode r from rfl] at hlk
  all_goals obtain ⟨⟨e0, e1, e2, e3⟩, _⟩ := four_cells z4
  all_goals obtain ⟨⟨f0, f1, f2, f3⟩, _⟩ := four_cells z5
  all_goals clear zz kb1 z4 z5
  all_goals go_wp2_with fail
  all_goals go_ret
  all_goals exact ⟨rfl, k5⟩
end Kys
end Go.Proofs.YtdmooeoklcjplaaDoor

/- The reference's KeyBytes: runes with Ctrl. (Written by gen_keysrefz.py.) -/
namespace Go.Proofs.YtdmooeoklcjplaaDoor
open Go.ChangeShapes Go.WideShapes Go.ChangeAt Go.RowKit Go.Maps Go.Sort
namespace Kys
open Txt (wd bs)
/-- One byte in a block of its own, turned into a text. -/
theorem byte_conv (z : Int) (h0 : 0 ≤ z) (h1 : z ≤ 255) (W : World) : (convert 52 9 (.slice (some ⟨W.heap.size, 0, none⟩) 1 1)).run Tryd.prog (W.alloc (.cells #[.int .u8 z] 5)) = .ok (.string ⟨#[z.toNat.toUInt8]⟩) (W.alloc (.cells #[.int .u8 z] 5)) := by
  have e : (z.toNat.toUInt8.toNat : Int) = z := by
    have : z.toNat.toUInt8.toNat = z.toNat % 256 := rfl
    rw [this]
    omega
  have h := run_convert_bytes_back (P := Tryd.prog) (W.alloc (.cells #[.int .u8 (z.toNat.toUInt8.toNat : Int)] 5)) 52 9 5 ⟨W.heap.size, 0, none⟩ 1 [z.toNat.toUInt8] (by kernel_rfl) (by kernel_rfl) (by kernel_rfl) (fun j hj => by
      match j, hj with
      | 0, _ => exact cell_of (heap_alloc_new W _) rfl)
  rw [e] at h
  exact h
set_option maxHeartbeats 4000000 in
set_option maxRecDepth 100000 in
theorem kb_1_4 (r : Int) (kp : Bool) (w : World) (hk : Wf ⟨1, r, 0, 4⟩) (h1 : 97 ≤ r) (h2 : r ≤ 122) :
    Calls Tryd.prog 10 #[kyv ⟨1, r, 0, 4⟩, .bool kp] w fun e w' => e = .returned (.string (⟨#[(r - 96).toNat.toUInt8]⟩)) ∧ Below w.heap.size w w' := by
  have HL := fun (W : World) (b : Nat) (h : SeqAt W b seqT) => sq_run h 1 r 0 (wf_bare hk)
  rw [show sq ⟨1, r, 0, 0⟩ = [] from sq_no _ (fun h => by unfold isSq at h; simp only at h; omega), show bs ([] : List UInt8) = ⟨#[]⟩ from rfl] at HL
  clear hk
  obtain ⟨bb, hbb⟩ : ∃ bb, (r - 96).toNat.toUInt8 = bb := ⟨_, rfl⟩
  rw [hbb]
  have HBB : Hid ((r - 96).toNat.toUInt8 = bb) := hbb
  clear hbb
  have hmm := @run_makeMap Tryd.prog
  have hb4 : bits BinOp.and IntKind.i64 4 4 = 4 := by kernel_rfl
  have hb2 : bits BinOp.and IntKind.i64 4 2 = 0 := by kernel_rfl
  unfold kyv
  go_enter Tryd.func10, Tryd.ntmps10
  go_upto_region 3 with fail
  obtain ⟨kb0, z0, z1⟩ := two_blocks w #[.int .i64 1, .int .i32 r, .int .i64 0, .int .i64 4] #[.int .i64 1, .int .i32 r, .int .i64 0, .int .i64 0] 23
  generalize (w.alloc (.cells #[.int .i64 1, .int .i32 r, .int .i64 0, .int .i64 4] 23)).alloc (.cells #[.int .i64 1, .int .i32 r, .int .i64 0, .int .i64 0] 23) = W0 at *
  obtain ⟨⟨c0, c1, c2, c3⟩, _⟩ := four_cells z1
  go_region_with (go_at_call 18; refine (sequences_any _).mono ?_; rintro e W1 ⟨rfl, hS, hB, hlt⟩; have y0 := by_drew z1 hB; obtain ⟨⟨d0, d1, d2, d3⟩, _⟩ := four_cells y0; have hl := HL W1 W0.heap.size hS)
  all_goals have zz := by_drew z0 hB
  all_goals obtain ⟨⟨e0, e1, e2, e3⟩, _⟩ := four_cells zz
  all_goals have kb1 := below_drew kb0 hB
  all_goals clear c0 c1 c2 c3 d0 d1 d2 d3 hS hB hlt HL y0 z0 z1 hl kb0
  all_goals obtain ⟨V1, V2, V3, V4, V5, r1, r2, r3, r4, r5, z4, z5, k5, hlk⟩ := lit_made W1 r zz kb1
  all_goals replace hlk := hlk 1 (by decide)
  all_goals rw [show lookI (litK r) 1 = Utf8.encode r from rfl] at hlk
  all_goals obtain ⟨⟨e0, e1, e2, e3⟩, _⟩ := four_cells z4
  all_goals obtain ⟨⟨f0, f1, f2, f3⟩, _⟩ := four_cells z5
  all_goals have z6 := by_block z5 ((Below.refl _ _).alloc (Nat.le_refl _) (.cells #[.int .u8 (r - 96)] 5))
  all_goals obtain ⟨⟨t0, t1, t2, t3⟩, _⟩ := four_cells z6
  all_goals have hlt : w.heap.size < V5.heap.size := (Array.getElem?_eq_some_iff.1 z5).1
  all_goals have hne : ¬ w.heap.size = V5.heap.size := by omega
  all_goals clear z6 hlt
  all_goals clear zz kb1 z4 z5
  all_goals have hcv := byte_conv (r - 96) (by omega) (by omega) V5
  all_goals have k6 := k5.alloc k5.size (.cells #[.int .u8 (r - 96)] 5)
  all_goals rw [HBB.out] at hcv
  all_goals go_wp2_with fail
  all_goals go_ret
  all_goals exact ⟨rfl, k6⟩
set_option maxHeartbeats 4000000 in
set_option maxRecDepth 100000 in
theorem kb_1_6 (r : Int) (kp : Bool) (w : World) (hk : Wf ⟨1, r, 0, 6⟩) (h1 : 97 ≤ r) (h2 : r ≤ 122) :
    Calls Tryd.prog 10 #[kyv ⟨1, r, 0, 6⟩, .bool kp] w fun e w' => e = .returned (.string (⟨#[27]⟩ ++ ⟨#[(r - 96).toNat.toUInt8]⟩)) ∧ Below w.heap.size w w' := by
  have HL := fun (W : World) (b : Nat) (h : SeqAt W b seqT) => sq_run h 1 r 0 (wf_bare hk)
  rw [show sq ⟨1, r, 0, 0⟩ = [] from sq_no _ (fun h => by unfold isSq at h; simp only at h; omega), show bs ([] : List UInt8) = ⟨#[]⟩ from rfl] at HL
  clear hk
  obtain ⟨bb, hbb⟩ : ∃ bb, (r - 96).toNat.toUInt8 = bb := ⟨_, rfl⟩
  rw [hbb]
  have HBB : Hid ((r - 96).toNat.toUInt8 = bb) := hbb
  clear hbb
  have hmm := @run_makeMap Tryd.prog
  have hb4 : bits BinOp.and IntKind.i64 6 4 = 4 := by kernel_rfl
  have hb2 : bits BinOp.and IntKind.i64 6 2 = 2 := by kernel_rfl
  unfold kyv
  go_enter Tryd.func10, Tryd.ntmps10
  go_upto_region 3 with fail
  obtain ⟨kb0, z0, z1⟩ := two_blocks w #[.int .i64 1, .int .i32 r, .int .i64 0, .int .i64 6] #[.int .i64 1, .int .i32 r, .int .i64 0, .int .i64 0] 23
  generalize (w.alloc (.cells #[.int .i64 1, .int .i32 r, .int .i64 0, .int .i64 6] 23)).alloc (.cells #[.int .i64 1, .int .i32 r, .int .i64 0, .int .i64 0] 23) = W0 at *
  obtain ⟨⟨c0, c1, c2, c3⟩, _⟩ := four_cells z1
  go_region_with (go_at_call 18; refine (sequences_any _).mono ?_; rintro e W1 ⟨rfl, hS, hB, hlt⟩; have y0 := by_drew z1 hB; obtain ⟨⟨d0, d1, d2, d3⟩, _⟩ := four_cells y0; have hl := HL W1 W0.heap.size hS)
  all_goals have zz := by_drew z0 hB
  all_goals obtain ⟨⟨e0, e1, e2, e3⟩, _⟩ := four_cells zz
  all_goals have kb1 := below_drew kb0 hB
  all_goals clear c0 c1 c2 c3 d0 d1 d2 d3 hS hB hlt HL y0 z0 z1 hl kb0
  all_goals obtain ⟨V1, V2, V3, V4, V5, r1, r2, r3, r4, r5, z4, z5, k5, hlk⟩ := lit_made W1 r zz kb1
  all_goals replace hlk := hlk 1 (by decide)
  all_goals rw [show lookI (litK r) 1 = Utf8.encode r from rfl] at hlk
  all_goals obtain ⟨⟨e0, e1, e2, e3⟩, _⟩ := four_cells z4
  all_goals obtain ⟨⟨f0, f1, f2, f3⟩, _⟩ := four_cells z5
  all_goals have z6 := by_block z5 ((Below.refl _ _).alloc (Nat.le_refl _) (.cells #[.int .u8 (r - 96)] 5))
  all_goals obtain ⟨⟨t0, t1, t2, t3⟩, _⟩ := four_cells z6
  all_goals have hlt : w.heap.size < V5.heap.size := (Array.getElem?_eq_some_iff.1 z5).1
  all_goals have hne : ¬ w.heap.size = V5.heap.size := by omega
  all_goals clear z6 hlt
  all_goals clear zz kb1 z4 z5
  all_goals have hcv := byte_conv (r - 96) (by omega) (by omega) V5
  all_goals have k6 := k5.alloc k5.size (.cells #[.int .u8 (r - 96)] 5)
  all_goals rw [HBB.out] at hcv
  all_goals go_wp2_with fail
  all_goals go_ret
  all_goals exact ⟨rfl, k6⟩
end Kys
end Go.Proofs.YtdmooeoklcjplaaDoor

/- The reference's KeyBytes, of every key that can be told. -/
namespace Go.Proofs.YtdmooeoklcjplaaDoor
open Go.ChangeShapes Go.WideShapes Go.ChangeAt Go.RowKit Go.Maps
namespace Kys
open Txt (wd bs)
theorem let_ne : ∀ i ∈ List.range 6, ((letB (6 + (i : Int))).toNat : Int) ≠ 126 := by decide +kernel
theorem bsq {a b : List UInt8} (h : a = b) : bs a = bs b := by rw [h]
theorem held_dig (j : Nat) (h : 1 ≤ j) : heldB (j : Int) = [59, UInt8.ofNat (48 + (j + 1))] := by
  unfold heldB
  rw [if_neg (by omega), show 49 + ((j : Int)).toNat = 48 + (j + 1) by omega]
theorem dig_one (n : Nat) (h : n < 10) : digB n = [UInt8.ofNat (48 + n)] := by unfold digB; rw [if_pos h]
theorem dig_two (n : Nat) (h : ¬ n < 10) : digB n = [UInt8.ofNat (48 + n / 10), UInt8.ofNat (48 + n % 10)] := by unfold digB; rw [if_neg h]
theorem kb_is {k : Ky} {kp : Bool} {w : World} {t : ByteArray} (h : Calls Tryd.prog 10 #[kyv k, .bool kp] w fun e w' => e = .returned (.string t) ∧ Below w.heap.size w w') (e : t = bs (wr k kp)) :
    Calls Tryd.prog 10 #[kyv k, .bool kp] w fun e w' => e = .returned (.string (bs (wr k kp))) ∧ Below w.heap.size w w' := e ▸ h
theorem keyBytes_any (k : Ky) (kp : Bool) (w : World) (hk : Wf k) (hc : chk k = true) : Calls Tryd.prog 10 #[kyv k, .bool kp] w fun e w' => e = .returned (.string (bs (wr k kp))) ∧ Below w.heap.size w w' := by
  obtain ⟨kind, r, n, held⟩ := k
  have hh : 0 ≤ held ∧ held ≤ 7 := by
    by_cases h : held < 0 ∨ 7 < held
    · rw [chk_out ⟨kind, r, n, held⟩ h] at hc; cases hc
    · omega
  obtain ⟨j, rfl⟩ : ∃ j : Nat, held = (j : Int) := ⟨held.toNat, by omega⟩
  by_cases hs : isSq ⟨kind, r, n, (j : Int)⟩
  · have hq : sq ⟨kind, r, n, 0⟩ = _ := sq_is ⟨kind, r, n, 0⟩ hs
    have hr : r = 0 := hs.1
    subst hr
    have h6 : (n = 0 ∧ 6 ≤ kind ∧ kind ≤ 14) ∨ (kind = 15 ∧ 1 ≤ n ∧ n ≤ 12) := hs.2
    simp only at hq
    by_cases h11 : kind ≤ 11
    · rw [if_pos h11] at hq
      have hl : ((((⟨#[letB kind]⟩ : ByteArray)[0]'(show 0 < 1 by omega)).toNat : Int) == 126) = false := by
        have := let_ne (kind - 6).toNat (List.mem_range.2 (by omega))
        rw [show 6 + (((kind - 6).toNat : Nat) : Int) = kind by omega] at this
        exact beq_eq_false_iff_ne.2 this
      have hw : wr ⟨kind, 0, n, (j : Int)⟩ kp = (if (j : Int) ≠ 0 then [27, 91, 49] ++ heldB (j : Int) ++ [letB kind] else if kp then [27, 79, letB kind] else [27, 91, letB kind]) := by
        unfold wr
        simp only
        rw [if_neg (by omega), if_neg (by omega), if_neg (by omega), if_neg (by omega), if_neg (by omega), if_pos (by omega)]
      by_cases hj : j = 0
      · subst hj
        rw [if_neg (by simp)] at hw
        cases kp with
        | true => exact kb_is (kb_l0t kind n (letB kind) w hk hl hq) (by rw [hw]; rfl)
        | false => exact kb_is (kb_l0f kind n (letB kind) w hk hl hq) (by rw [hw]; rfl)
      · rw [if_pos (by omega), held_dig j (by omega)] at hw
        exact kb_is (kb_lh kind n (letB kind) j kp w hk hl hq (by omega) (by omega)) (by rw [hw]; rfl)
    · rw [if_neg h11] at hq
      have hw : wr ⟨kind, 0, n, (j : Int)⟩ kp = [27, 91] ++ digB (numOf kind n) ++ heldB (j : Int) ++ [126] := by
        unfold wr
        simp only
        rw [if_neg (by omega), if_neg (by omega), if_neg (by omega), if_neg (by omega), if_neg (by omega), if_neg (by omega)]
      by_cases hd : numOf kind n < 10
      · rw [dig_one _ hd] at hq hw
        by_cases hj : j = 0
        · subst hj
          exact kb_is (kb_a0 kind n _ kp w hk hq) (by rw [hw]; rfl)
        · rw [held_dig j (by omega)] at hw
          exact kb_is (kb_ah kind n _ j kp w hk hq (by omega) (by omega)) (by rw [hw]; rfl)
      · rw [dig_two _ hd] at hq hw
        by_cases hj : j = 0
        · subst hj
          exact kb_is (kb_b0 kind n _ _ kp w hk hq) (by rw [hw]; rfl)
        · rw [held_dig j (by omega)] at hw
          exact kb_is (kb_bh kind n _ _ j kp w hk hq (by omega) (by omega)) (by rw [hw]; rfl)
  · have hn : n = 0 := by
      by_cases h : n ≠ 0
      · rw [chk_no1 _ hs (.inl h)] at hc; cases hc
      · omega
    subst hn
    have hr : kind = 1 ∨ r = 0 := by
      by_cases h : kind ≠ 1 ∧ r ≠ 0
      · rw [chk_no1 _ hs (.inr h)] at hc; cases hc
      · omega
    have h5 : 1 ≤ kind ∧ kind ≤ 5 := by
      by_cases h : 1 ≤ kind ∧ kind ≤ 5
      · exact h
      · rw [chk_else _ hs rfl hr (by show (0 : Int) ≤ (j : Int); omega) (by show (j : Int) ≤ 7; omega) h] at hc; cases hc
    unfold chk at hc
    simp only at hc
    rw [if_neg (by omega)] at hc
    have h15 : kind = 1 ∨ kind = 2 ∨ kind = 3 ∨ kind = 4 ∨ kind = 5 := by omega
    rcases h15 with rfl | rfl | rfl | rfl | rfl
    · simp only [if_true] at hc
      unfold chkR at hc
      simp only at hc
      split at hc
      · rename_i h46
        have hR := of_decide_eq_true hc
        have e1 : Lib.encodeRune (r - 96) = [(r - 96).toNat.toUInt8] := by
          unfold Lib.encodeRune
          rw [Lib.encodeRuneZ_one (by omega) (by omega)]
          rfl
        have h46' : j = 4 ∨ j = 6 := by omega
        rcases h46' with rfl | rfl
        · refine kb_is (kb_1_4 r kp w hk (by omega) (by omega)) ?_
          rw [show wr ⟨1, r, 0, ((4 : Nat) : Int)⟩ kp = [] ++ Lib.encodeRune (r - 96) from rfl, e1]
          rfl
        · refine kb_is (kb_1_6 r kp w hk (by omega) (by omega)) ?_
          rw [show wr ⟨1, r, 0, ((6 : Nat) : Int)⟩ kp = [27] ++ Lib.encodeRune (r - 96) from rfl, e1]
          rfl
      · split at hc
        · rename_i h02
          have h02' : j = 0 ∨ j = 2 := by omega
          rcases h02' with rfl | rfl
          · refine kb_is (kb_1_0 r kp w hk) ?_
            rw [show wr ⟨1, r, 0, ((0 : Nat) : Int)⟩ kp = [] ++ Lib.encodeRune r from rfl, encode_eq]
            rfl
          · refine kb_is (kb_1_2 r kp w hk) ?_
            rw [show wr ⟨1, r, 0, ((2 : Nat) : Int)⟩ kp = [27] ++ Lib.encodeRune r from rfl, encode_eq]
            rfl
        · cases hc
    · have h02 : j = 0 ∨ j = 2 := by simp at hc; omega
      rcases h02 with rfl | rfl
      · exact kb_is (kb_2_0 r kp w hk) rfl
      · exact kb_is (kb_2_2 r kp w hk) rfl
    · have h02 : j = 0 ∨ j = 1 := by simp at hc; omega
      rcases h02 with rfl | rfl
      · exact kb_is (kb_3_0 r kp w hk) rfl
      · exact kb_is (kb_3_1 r kp w hk) rfl
    · have h02 : j = 0 ∨ j = 2 := by simp at hc; omega
      rcases h02 with rfl | rfl
      · exact kb_is (kb_4_0 r kp w hk) rfl
      · exact kb_is (kb_4_2 r kp w hk) rfl
    · have h02 : j = 0 := by simp at hc; omega
      subst h02
      exact kb_is (kb_5_0 r kp w hk) rfl
end Kys
end Go.Proofs.YtdmooeoklcjplaaDoor
