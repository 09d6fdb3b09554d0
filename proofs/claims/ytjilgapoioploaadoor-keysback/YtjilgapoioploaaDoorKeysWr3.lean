/- Package keys: the writers of runes and of numbers. -/
import Derived.Test.YtjilgapoioploaaDoorKeysWr2
import Derived.Test.YtjilgapoioploaaDoorKeysRd6
namespace Go.Proofs.YtjilgapoioploaaDoor
open Go.ChangeShapes Go.WideShapes Go.ChangeAt Go.RowKit Go.Sort
namespace Kys
open Txt (wd bs)
theorem encode_eq (r : Int) : Utf8.encode r = bs (Lib.encodeRune r) := by
  by_cases h1 : 0 ≤ r ∧ r ≤ 127
  · have hv : Utf8.valid r = true := by simp [Utf8.valid]; omega
    simp only [Utf8.encode, hv, if_true]
    rw [if_pos (by omega)]
    unfold Lib.encodeRune
    rw [Lib.encodeRuneZ_one h1.1 h1.2]
    rfl
  · by_cases h2 : 128 ≤ r ∧ r ≤ 2047
    · have hv : Utf8.valid r = true := by simp [Utf8.valid]; omega
      simp only [Utf8.encode, hv, if_true]
      rw [if_neg (by omega), if_pos (by omega)]
      unfold Lib.encodeRune
      rw [Lib.encodeRuneZ_two h2.1 h2.2, show 0xC0 + r.toNat / 64 = (192 + r / 64).toNat by omega, show 0x80 + r.toNat % 64 = (128 + r % 64).toNat by omega]
      rfl
    · by_cases h3 : (2048 ≤ r ∧ r < 55296) ∨ (57343 < r ∧ r ≤ 65535)
      · have hv : Utf8.valid r = true := by simp [Utf8.valid]; omega
        simp only [Utf8.encode, hv, if_true]
        rw [if_neg (by omega), if_neg (by omega), if_pos (by omega)]
        unfold Lib.encodeRune
        rw [Lib.encodeRuneZ_three h3, show 0xE0 + r.toNat / 4096 = (224 + r / 4096).toNat by omega, show 0x80 + r.toNat / 64 % 64 = (128 + r / 64 % 64).toNat by omega, show 0x80 + r.toNat % 64 = (128 + r % 64).toNat by omega]
        rfl
      · by_cases h4 : 65536 ≤ r ∧ r ≤ 1114111
        · have hv : Utf8.valid r = true := by simp [Utf8.valid]; omega
          simp only [Utf8.encode, hv, if_true]
          rw [if_neg (by omega), if_neg (by omega), if_neg (by omega)]
          unfold Lib.encodeRune
          rw [Lib.encodeRuneZ_four h4.1 h4.2, show 0xF0 + r.toNat / 262144 = (240 + r / 262144).toNat by omega, show 0x80 + r.toNat / 4096 % 64 = (128 + r / 4096 % 64).toNat by omega, show 0x80 + r.toNat / 64 % 64 = (128 + r / 64 % 64).toNat by omega, show 0x80 + r.toNat % 64 = (128 + r % 64).toNat by omega]
          rfl
        · have hv : Utf8.valid r = false := by simp [Utf8.valid]; omega
          unfold Lib.encodeRune
          rw [Lib.encodeRuneZ_bad (by omega)]
          simp only [Utf8.encode, hv, Utf8.runeError, Bool.false_eq_true, if_false]
          decide
set_option maxHeartbeats 4000000 in
theorem writeRune_0 (kind r n : Int) (kp : Bool) (w : World) : Calls Tryd.prog 33 #[kyv ⟨kind, r, n, 0⟩, .bool kp] w fun e w' => e = .returned (.string (bs (altA 0 ++ Lib.encodeRune r))) ∧ Below w.heap.size w w' := by
  have kb : Below w.heap.size w (w.alloc (.cells #[.int .i64 kind, .int .i32 r, .int .i64 n, .int .i64 0] 23)) := (Below.refl _ _).alloc (Nat.le_refl _) _
  have HW := altAhead_any ⟨kind, r, n, 0⟩ (by simp) (w.alloc (.cells #[.int .i64 kind, .int .i32 r, .int .i64 n, .int .i64 0] 23))
  have hb : bits BinOp.and IntKind.i64 0 4 = 0 := by kernel_rfl
  have he : bs (altA 0 ++ Lib.encodeRune r) = bs (altA 0) ++ Utf8.encode r := by rw [encode_eq, Txt.bs_append]
  have hl : (bs (altA 0)).size ≤ 1 := by rw [bs_size]; decide
  have hl2 : (Utf8.encode r).size ≤ 4 := by
    rw [encode_eq, bs_size]
    have := Lib.encodeRuneZ_length r
    simp only [Lib.encodeRune, List.length_map]
    omega
  have hs : ¬ 9223372036854775807 < (bs (altA 0)).size + (Utf8.encode r).size := by omega
  rw [he]
  clear he hl hl2
  simp only at HW
  generalize bs (altA 0) = t at *
  unfold kyv at HW ⊢
  go_enter Tryd.func33, Tryd.ntmps33
  go_wp2_with (go_at_call 57; refine HW.mono ?_; rintro e W1 ⟨rfl, b1⟩; replace kb := kb.trans (b1.mono kb.size))
  go_ret
  exact ⟨rfl, kb⟩
set_option maxHeartbeats 4000000 in
theorem writeRune_2 (kind r n : Int) (kp : Bool) (w : World) : Calls Tryd.prog 33 #[kyv ⟨kind, r, n, 2⟩, .bool kp] w fun e w' => e = .returned (.string (bs (altA 2 ++ Lib.encodeRune r))) ∧ Below w.heap.size w w' := by
  have kb : Below w.heap.size w (w.alloc (.cells #[.int .i64 kind, .int .i32 r, .int .i64 n, .int .i64 2] 23)) := (Below.refl _ _).alloc (Nat.le_refl _) _
  have HW := altAhead_any ⟨kind, r, n, 2⟩ (by simp) (w.alloc (.cells #[.int .i64 kind, .int .i32 r, .int .i64 n, .int .i64 2] 23))
  have hb : bits BinOp.and IntKind.i64 2 4 = 0 := by kernel_rfl
  have he : bs (altA 2 ++ Lib.encodeRune r) = bs (altA 2) ++ Utf8.encode r := by rw [encode_eq, Txt.bs_append]
  have hl : (bs (altA 2)).size ≤ 1 := by rw [bs_size]; decide
  have hl2 : (Utf8.encode r).size ≤ 4 := by
    rw [encode_eq, bs_size]
    have := Lib.encodeRuneZ_length r
    simp only [Lib.encodeRune, List.length_map]
    omega
  have hs : ¬ 9223372036854775807 < (bs (altA 2)).size + (Utf8.encode r).size := by omega
  rw [he]
  clear he hl hl2
  simp only at HW
  generalize bs (altA 2) = t at *
  unfold kyv at HW ⊢
  go_enter Tryd.func33, Tryd.ntmps33
  go_wp2_with (go_at_call 57; refine HW.mono ?_; rintro e W1 ⟨rfl, b1⟩; replace kb := kb.trans (b1.mono kb.size))
  go_ret
  exact ⟨rfl, kb⟩
set_option maxHeartbeats 4000000 in
theorem writeRune_4 (kind r n : Int) (kp : Bool) (w : World) (h1 : 97 ≤ r) (h2 : r ≤ 122) : Calls Tryd.prog 33 #[kyv ⟨kind, r, n, 4⟩, .bool kp] w fun e w' => e = .returned (.string (bs (altA 4 ++ Lib.encodeRune (r - 96)))) ∧ Below w.heap.size w w' := by
  have kb : Below w.heap.size w (w.alloc (.cells #[.int .i64 kind, .int .i32 r, .int .i64 n, .int .i64 4] 23)) := (Below.refl _ _).alloc (Nat.le_refl _) _
  have HW := altAhead_any ⟨kind, r, n, 4⟩ (by simp) (w.alloc (.cells #[.int .i64 kind, .int .i32 r, .int .i64 n, .int .i64 4] 23))
  have hb : bits BinOp.and IntKind.i64 4 4 = 4 := by kernel_rfl
  have he : bs (altA 4 ++ Lib.encodeRune (r - 96)) = bs (altA 4) ++ Utf8.encode (r - 96) := by rw [encode_eq, Txt.bs_append]
  have hl : (bs (altA 4)).size ≤ 1 := by rw [bs_size]; decide
  have hl2 : (Utf8.encode (r - 96)).size ≤ 4 := by
    rw [encode_eq, bs_size]
    have := Lib.encodeRuneZ_length (r - 96)
    simp only [Lib.encodeRune, List.length_map]
    omega
  have hs : ¬ 9223372036854775807 < (bs (altA 4)).size + (Utf8.encode (r - 96)).size := by omega
  rw [he]
  clear he hl hl2
  simp only at HW
  generalize bs (altA 4) = t at *
  have hw : wrap32 (r - 96) = r - 96 := by unfold wrap32; omega
  unfold kyv at HW ⊢
  go_enter Tryd.func33, Tryd.ntmps33
  go_wp2_with (go_at_call 57; refine HW.mono ?_; rintro e W1 ⟨rfl, b1⟩; replace kb := kb.trans (b1.mono kb.size))
  go_ret
  exact ⟨rfl, kb⟩
set_option maxHeartbeats 4000000 in
theorem writeRune_6 (kind r n : Int) (kp : Bool) (w : World) (h1 : 97 ≤ r) (h2 : r ≤ 122) : Calls Tryd.prog 33 #[kyv ⟨kind, r, n, 6⟩, .bool kp] w fun e w' => e = .returned (.string (bs (altA 6 ++ Lib.encodeRune (r - 96)))) ∧ Below w.heap.size w w' := by
  have kb : Below w.heap.size w (w.alloc (.cells #[.int .i64 kind, .int .i32 r, .int .i64 n, .int .i64 6] 23)) := (Below.refl _ _).alloc (Nat.le_refl _) _
  have HW := altAhead_any ⟨kind, r, n, 6⟩ (by simp) (w.alloc (.cells #[.int .i64 kind, .int .i32 r, .int .i64 n, .int .i64 6] 23))
  have hb : bits BinOp.and IntKind.i64 6 4 = 4 := by kernel_rfl
  have he : bs (altA 6 ++ Lib.encodeRune (r - 96)) = bs (altA 6) ++ Utf8.encode (r - 96) := by rw [encode_eq, Txt.bs_append]
  have hl : (bs (altA 6)).size ≤ 1 := by rw [bs_size]; decide
  have hl2 : (Utf8.encode (r - 96)).size ≤ 4 := by
    rw [encode_eq, bs_size]
    have := Lib.encodeRuneZ_length (r - 96)
    simp only [Lib.encodeRune, List.length_map]
    omega
  have hs : ¬ 9223372036854775807 < (bs (altA 6)).size + (Utf8.encode (r - 96)).size := by omega
  rw [he]
  clear he hl hl2
  simp only at HW
  generalize bs (altA 6) = t at *
  have hw : wrap32 (r - 96) = r - 96 := by unfold wrap32; omega
  unfold kyv at HW ⊢
  go_enter Tryd.func33, Tryd.ntmps33
  go_wp2_with (go_at_call 57; refine HW.mono ?_; rintro e W1 ⟨rfl, b1⟩; replace kb := kb.trans (b1.mono kb.size))
  go_ret
  exact ⟨rfl, kb⟩
theorem writeRune_any (k : Ky) (kp : Bool) (h : k.held = 0 ∨ k.held = 2 ∨ (k.held = 4 ∨ k.held = 6) ∧ 97 ≤ k.r ∧ k.r ≤ 122) (w : World) : Calls Tryd.prog 33 #[kyv k, .bool kp] w fun e w' => e = .returned (.string (bs (altA k.held ++ Lib.encodeRune (wrR k)))) ∧ Below w.heap.size w w' := by
  obtain ⟨kind, r, n, held⟩ := k
  simp only at h
  rcases h with rfl | rfl | ⟨rfl | rfl, h1, h2⟩
  · exact writeRune_0 kind r n kp w
  · exact writeRune_2 kind r n kp w
  · exact writeRune_4 kind r n kp w h1 h2
  · exact writeRune_6 kind r n kp w h1 h2
/-- Keys that are told by a number. -/
def numKeys : List (Int × Int) := [(12, 0), (13, 0), (14, 0)] ++ (List.range 12).map fun i : Nat => (15, 1 + (i : Int))
theorem num_at : ∀ x ∈ numKeys, numOf x.1 x.2 < 25 ∧ numT.getD (numOf x.1 x.2) (0, 0) = x ∧ ∀ i ∈ List.range 25, i < numOf x.1 x.2 → numT.getD i (0, 0) ≠ x := by decide +kernel
theorem num_idx (i : Nat) (hi : i < 25) (wr : World) : (Instr.index 107 (.agg numCells) (.int .i64 (i : Int))).run Tryd.prog wr = .ok (.agg #[.int .i64 (numT.getD i (0, 0)).1, .int .i32 0, .int .i64 (numT.getD i (0, 0)).2, .int .i64 0]) wr := by
  have : i = 0 ∨ i = 1 ∨ i = 2 ∨ i = 3 ∨ i = 4 ∨ i = 5 ∨ i = 6 ∨ i = 7 ∨ i = 8 ∨ i = 9 ∨ i = 10 ∨ i = 11 ∨ i = 12 ∨ i = 13 ∨ i = 14 ∨ i = 15 ∨ i = 16 ∨ i = 17 ∨ i = 18 ∨ i = 19 ∨ i = 20 ∨ i = 21 ∨ i = 22 ∨ i = 23 ∨ i = 24 := by omega
  rcases this with rfl | rfl | rfl | rfl | rfl | rfl | rfl | rfl | rfl | rfl | rfl | rfl | rfl | rfl | rfl | rfl | rfl | rfl | rfl | rfl | rfl | rfl | rfl | rfl | rfl <;> (show (_ : Result Value) = _; kernel_rfl)
theorem eql_key (a b c d : Int) (w : World) : (binOp .eql 23 (.agg #[.int .i64 a, .int .i32 0, .int .i64 b, .int .i64 0]) (.agg #[.int .i64 c, .int .i32 0, .int .i64 d, .int .i64 0])).run Tryd.prog w = .ok (.bool (decide ((a, b) = (c, d)))) w := by
  have e : decide ((a, b) = (c, d)) = (a == c && b == d) := by
    rw [Bool.eq_iff_iff]
    simp
  rw [e]
  go_simp
  by_cases h1 : a = c <;> by_cases h2 : b = d <;> simp [h1, h2]
set_option maxHeartbeats 4000000 in
set_option maxRecDepth 100000 in
theorem number_any (kind n held : Int) (hk : (kind, n) ∈ numKeys) (w : World) (hN : NumTab w) : Calls Tryd.prog 59 #[kyv ⟨kind, 0, n, held⟩] w fun e w' => e = .returned (.int .i64 (numOf kind n : Nat)) ∧ Below w.heap.size w w' := by
  obtain ⟨g25, gat, gno⟩ := num_at (kind, n) hk
  simp only at g25 gat gno
  have kb0 : Below w.heap.size w (w.alloc (.cells #[.int .i64 kind, .int .i32 0, .int .i64 n, .int .i64 0] 23)) := (Below.refl _ _).alloc (Nat.le_refl _) _
  obtain ⟨tt, fr, hN⟩ := hN.below kb0
  have HN : Hid ((w.alloc (.cells #[.int .i64 kind, .int .i32 0, .int .i64 n, .int .i64 0] 23)).heap[7]? = some (.cells numCells tt fr)) := hN
  clear hN hk
  generalize numOf kind n = T at *
  have HG : Hid (numT.getD T (0, 0) = (kind, n)) := gat
  have HB : Hid (∀ i, i < T → numT.getD i (0, 0) ≠ (kind, n)) := fun i hi => gno i (List.mem_range.2 (by omega)) hi
  clear gat gno
  unfold kyv
  go_enter Tryd.func59, Tryd.ntmps59
  go_wp2_with (refine wpList_load_row rfl 107 (.global 7) rfl 7 rfl _ numCells _ _ HN.out Tryd.underlying107 rfl (by kernel_rfl) ?_)
  obtain ⟨W0, hW0⟩ : ∃ W0, w.alloc (.cells #[.int .i64 kind, .int .i32 0, .int .i64 n, .int .i64 0] 23) = W0 := ⟨_, rfl⟩
  have z0 : W0.heap[w.heap.size]? = some (.cells #[.int .i64 kind, .int .i32 0, .int .i64 n, .int .i64 0] 23 (0, 0)) := by rw [← hW0]; exact heap_alloc_new _ _
  rw [hW0] at kb0
  rw [hW0]
  clear HN hW0
  go_loopg [7] 25 (fun g v wr => ∃ i : Nat, i ≤ T ∧ 25 - i ≤ g ∧ v = .int .i64 (i : Int) ∧ Below W0.heap.size W0 wr)
  case atStart => exact ⟨0, Nat.zero_le _, by omega, rfl, Below.refl _ _⟩
  case round =>
    obtain ⟨i, hi, hg, rfl, hb⟩ := hrel
    have i25 : (i : Int) < 25 := by omega
    have hix := num_idx i (by omega)
    have zr := by_block z0 hb
    obtain ⟨⟨c0, c1, c2, c3⟩, _⟩ := four_cells zr
    have hq := fun a b W => eql_key a b kind n W
    have hw : wrap64 ((i : Int) + 1) = (i : Int) + 1 := by unfold wrap64; omega
    have hsz := hb.size
    have zlt : w.heap.size < wr.heap.size := (Array.getElem?_eq_some_iff.1 zr).1
    have hne : ¬ w.heap.size = wr.heap.size := by omega
    by_cases hT : i = T
    · subst hT
      have e := HG.out
      obtain ⟨⟨a, b⟩, hab⟩ : ∃ x, numT.getD i (0, 0) = x := ⟨_, rfl⟩
      rw [hab] at hix e
      simp only at hix
      injection e with e1 e2
      subst e1 e2
      clear hab
      go_wp2_with fail
      go_ret
      have k1 := kb0.trans (hb.mono kb0.size)
      exact ⟨rfl, k1.alloc k1.size _⟩
    · have e := HB.out i (by omega)
      obtain ⟨⟨a, b⟩, hab⟩ : ∃ x, numT.getD i (0, 0) = x := ⟨_, rfl⟩
      rw [hab] at hix e
      simp only at hix
      have hq2 := fun W => (hq a b W).trans (by rw [decide_eq_false e])
      clear hab hq
      go_wp2_with fail
      go_roundg (25 - (i + 1))
      case measure => omega
      case rel => exact ⟨i + 1, by omega, by omega, by go_num, hb.alloc hsz _⟩
theorem dig_num : ∀ x ∈ numKeys, bs (Lib.decDigits (numOf x.1 x.2)) = bs (digB (numOf x.1 x.2)) ∧ (digB (numOf x.1 x.2)).length ≤ 2 ∧ numOf x.1 x.2 < 100 := by
  have h : ∀ x ∈ numKeys, Lib.decDigits (numOf x.1 x.2) = digB (numOf x.1 x.2) ∧ (digB (numOf x.1 x.2)).length ≤ 2 ∧ numOf x.1 x.2 < 100 := by decide +kernel
  exact fun x hx => ⟨congrArg bs (h x hx).1, (h x hx).2⟩
set_option maxHeartbeats 4000000 in
theorem writeNumber_any (kind n held : Int) (kp : Bool) (hk : (kind, n) ∈ numKeys) (h0 : 0 ≤ held) (h7 : held ≤ 7) (w : World) (hN : NumTab w) : Calls Tryd.prog 39 #[kyv ⟨kind, 0, n, held⟩, .bool kp] w fun e w' => e = .returned (.string (bs ([27, 91] ++ digB (numOf kind n) ++ heldB held ++ [126]))) ∧ Below w.heap.size w w' := by
  obtain ⟨d1, d2, d3⟩ := dig_num (kind, n) hk
  simp only at d1 d2 d3
  obtain ⟨W0, hW0⟩ : ∃ W0, w.alloc (.cells #[.int .i64 kind, .int .i32 0, .int .i64 n, .int .i64 held] 23) = W0 := ⟨_, rfl⟩
  have kb : Below w.heap.size w W0 := by rw [← hW0]; exact (Below.refl _ _).alloc (Nat.le_refl _) _
  have z0 : W0.heap[w.heap.size]? = some (.cells #[.int .i64 kind, .int .i32 0, .int .i64 n, .int .i64 held] 23 (0, 0)) := by rw [← hW0]; exact heap_alloc_new _ _
  have hN0 := hN.below kb
  have HA := fun d os => Calls.regrown_of (number_any kind n held hk (grow (redrawn W0 d) os) (hN0.below ((below_regrown W0 d os))))
  have HB := fun d os => Calls.regrown_of ((Tryd.strconv_Itoa_small (numOf kind n) d3 (grow (redrawn W0 d) os)).mono (fun e w' ⟨he, hw⟩ => (⟨he, by rw [hw]; exact Below.refl _ _⟩ : e = .returned (.string (bs (Lib.decDigits (numOf kind n)))) ∧ Below (grow (redrawn W0 d) os).heap.size (grow (redrawn W0 d) os) w')))
  have HC := fun d os => Calls.regrown_of (heldBehind_any ⟨kind, 0, n, held⟩ h0 h7 (grow (redrawn W0 d) os))
  simp only at HC
  rw [d1] at HB
  obtain ⟨⟨c0, c1, c2, c3⟩, _⟩ := four_cells z0
  have g0 := fun d os => cell_regrown c0 d os
  have g1 := fun d os => cell_regrown c1 d os
  have g2 := fun d os => cell_regrown c2 d os
  have g3 := fun d os => cell_regrown c3 d os
  have e : bs ([27, 91] ++ digB (numOf kind n) ++ heldB held ++ [126]) = ⟨#[27, 91]⟩ ++ bs (digB (numOf kind n)) ++ bs (heldB held) ++ ⟨#[126]⟩ := by
    rw [← Txt.bs_append, ← Txt.bs_append, ← Txt.bs_append]
    rfl
  rw [e]
  have l1 : (bs (digB (numOf kind n))).size ≤ 2 := by rw [bs_size]; exact d2
  have l2 : (bs (heldB held)).size ≤ 2 := by rw [bs_size]; unfold heldB; split <;> simp
  clear e d1 d2 d3 hN hN0 c0 c1 c2 c3 z0
  generalize bs (digB (numOf kind n)) = tA at *
  generalize bs (heldB held) = tB at *
  generalize numOf kind n = nk at *
  have s1 : ¬ 9223372036854775807 < 2 + tA.size := by omega
  have s2 : ¬ 9223372036854775807 < 2 + tA.size + tB.size := by omega
  have s3 : ¬ 9223372036854775807 < 2 + tA.size + tB.size + 1 := by omega
  unfold kyv at HA HC ⊢
  go_enter Tryd.func39, Tryd.ntmps39
  go_wp2_with fail
  refine wp_region_quiet_below (by kernel_rfl) (by kernel_rfl) ?_
  repeat (first | go_big_quiet_skip | quiet_step (first | (go_at_call 59; exact HA _ _) | (go_at_call 25; exact HB _ _) | (go_at_call 58; exact HC _ _)))
  refine wpQuiet_nil ?_
  intro _ hw'
  obtain ⟨⟨dq, os⟩, hw''⟩ := hw'
  subst hw''
  have kR := below_regrown W0 dq os
  have kw := kb.trans (kR.mono kb.size)
  clear g0 g1 g2 g3 HA HB HC kR
  generalize grow (redrawn W0 dq) os = V at *
  go_wp2_with fail
  go_ret
  exact ⟨rfl, kw⟩
end Kys
end Go.Proofs.YtjilgapoioploaaDoor
