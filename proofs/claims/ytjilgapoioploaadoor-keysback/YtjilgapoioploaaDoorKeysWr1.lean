/- Package keys: the writers of one kind each. -/
import Derived.Test.YtjilgapoioploaaDoorKeysChk
import Derived.Test.YtjilgapoioploaaDoorShelf
import Derived.Test.YtjilgapoioploaaDoorTextFit

namespace Go.Proofs.YtjilgapoioploaaDoor
open Go.ChangeShapes Go.WideShapes Go.ChangeAt Go.RowKit
namespace Kys
open Txt (wd bs)
set_option maxHeartbeats 4000000 in
theorem altAhead_0 (kind r n : Int) (w : World) : Calls Tryd.prog 57 #[kyv ⟨kind, r, n, 0⟩] w fun e w' => e = .returned (.string ⟨#[]⟩) ∧ Below w.heap.size w w' := by
  have hb : bits BinOp.and IntKind.i64 0 2 = 0 := by kernel_rfl
  unfold kyv
  go_enter Tryd.func57, Tryd.ntmps57
  go_wp2_with fail
  go_ret
  exact ⟨rfl, (Below.refl _ _).alloc (Nat.le_refl _) _⟩
set_option maxHeartbeats 4000000 in
theorem altAhead_2 (kind r n : Int) (w : World) : Calls Tryd.prog 57 #[kyv ⟨kind, r, n, 2⟩] w fun e w' => e = .returned (.string ⟨#[27]⟩) ∧ Below w.heap.size w w' := by
  have hb : bits BinOp.and IntKind.i64 2 2 = 2 := by kernel_rfl
  unfold kyv
  go_enter Tryd.func57, Tryd.ntmps57
  go_wp2_with fail
  go_ret
  exact ⟨rfl, (Below.refl _ _).alloc (Nat.le_refl _) _⟩
set_option maxHeartbeats 4000000 in
theorem altAhead_4 (kind r n : Int) (w : World) : Calls Tryd.prog 57 #[kyv ⟨kind, r, n, 4⟩] w fun e w' => e = .returned (.string ⟨#[]⟩) ∧ Below w.heap.size w w' := by
  have hb : bits BinOp.and IntKind.i64 4 2 = 0 := by kernel_rfl
  unfold kyv
  go_enter Tryd.func57, Tryd.ntmps57
  go_wp2_with fail
  go_ret
  exact ⟨rfl, (Below.refl _ _).alloc (Nat.le_refl _) _⟩
set_option maxHeartbeats 4000000 in
theorem altAhead_6 (kind r n : Int) (w : World) : Calls Tryd.prog 57 #[kyv ⟨kind, r, n, 6⟩] w fun e w' => e = .returned (.string ⟨#[27]⟩) ∧ Below w.heap.size w w' := by
  have hb : bits BinOp.and IntKind.i64 6 2 = 2 := by kernel_rfl
  unfold kyv
  go_enter Tryd.func57, Tryd.ntmps57
  go_wp2_with fail
  go_ret
  exact ⟨rfl, (Below.refl _ _).alloc (Nat.le_refl _) _⟩
theorem altAhead_any (k : Ky) (h : k.held = 0 ∨ k.held = 2 ∨ k.held = 4 ∨ k.held = 6) (w : World) : Calls Tryd.prog 57 #[kyv k] w fun e w' => e = .returned (.string (bs (altA k.held))) ∧ Below w.heap.size w w' := by
  obtain ⟨kind, r, n, held⟩ := k
  simp only at h
  rcases h with rfl | rfl | rfl | rfl
  · exact altAhead_0 kind r n w
  · exact altAhead_2 kind r n w
  · exact altAhead_4 kind r n w
  · exact altAhead_6 kind r n w
theorem bs_size (l : List UInt8) : (bs l).size = l.length := by simp [bs, ByteArray.size]
set_option maxHeartbeats 4000000 in
theorem writeEnter_any (k : Ky) (kp : Bool) (h : k.held = 0 ∨ k.held = 2) (w : World) : Calls Tryd.prog 34 #[kyv k, .bool kp] w fun e w' => e = .returned (.string (bs (altA k.held ++ [13]))) ∧ Below w.heap.size w w' := by
  have kb : Below w.heap.size w (w.alloc (.cells #[.int .i64 k.kind, .int .i32 k.r, .int .i64 k.n, .int .i64 k.held] 23)) := (Below.refl _ _).alloc (Nat.le_refl _) _
  have HW := altAhead_any k (by omega) (w.alloc (.cells #[.int .i64 k.kind, .int .i32 k.r, .int .i64 k.n, .int .i64 k.held] 23))
  have hl : (altA k.held).length ≤ 1 := by unfold altA; split <;> simp
  have he : bs (altA k.held ++ [13]) = bs (altA k.held) ++ ⟨#[13]⟩ := (Txt.bs_append _ _).symm
  have hs : ¬ 9223372036854775807 < (bs (altA k.held)).size + 1 := by rw [bs_size]; omega
  rw [he]
  clear he hl
  generalize bs (altA k.held) = t at *
  unfold kyv at HW ⊢
  go_enter Tryd.func34, Tryd.ntmps34
  go_wp2_with (go_at_call 57; refine HW.mono ?_; rintro e W1 ⟨rfl, b1⟩; replace kb := kb.trans (b1.mono kb.size))
  go_ret
  exact ⟨rfl, kb⟩
set_option maxHeartbeats 4000000 in
theorem writeBack_any (k : Ky) (kp : Bool) (h : k.held = 0 ∨ k.held = 2) (w : World) : Calls Tryd.prog 36 #[kyv k, .bool kp] w fun e w' => e = .returned (.string (bs (altA k.held ++ [127]))) ∧ Below w.heap.size w w' := by
  have kb : Below w.heap.size w (w.alloc (.cells #[.int .i64 k.kind, .int .i32 k.r, .int .i64 k.n, .int .i64 k.held] 23)) := (Below.refl _ _).alloc (Nat.le_refl _) _
  have HW := altAhead_any k (by omega) (w.alloc (.cells #[.int .i64 k.kind, .int .i32 k.r, .int .i64 k.n, .int .i64 k.held] 23))
  have hl : (altA k.held).length ≤ 1 := by unfold altA; split <;> simp
  have he : bs (altA k.held ++ [127]) = bs (altA k.held) ++ ⟨#[127]⟩ := (Txt.bs_append _ _).symm
  have hs : ¬ 9223372036854775807 < (bs (altA k.held)).size + 1 := by rw [bs_size]; omega
  rw [he]
  clear he hl
  generalize bs (altA k.held) = t at *
  unfold kyv at HW ⊢
  go_enter Tryd.func36, Tryd.ntmps36
  go_wp2_with (go_at_call 57; refine HW.mono ?_; rintro e W1 ⟨rfl, b1⟩; replace kb := kb.trans (b1.mono kb.size))
  go_ret
  exact ⟨rfl, kb⟩
set_option maxHeartbeats 4000000 in
theorem writeTab_any (k : Ky) (kp : Bool) (w : World) : Calls Tryd.prog 35 #[kyv k, .bool kp] w fun e w' => e = .returned (.string (bs (if k.held ≠ 0 then [27, 91, 90] else [9]))) ∧ Below w.heap.size w w' := by
  obtain ⟨kind, r, n, held⟩ := k
  unfold kyv
  simp only
  by_cases h : held = 0
  · subst h
    go_enter Tryd.func35, Tryd.ntmps35
    go_wp2_with fail
    go_ret
    exact ⟨rfl, (Below.refl _ _).alloc (Nat.le_refl _) _⟩
  · rw [if_pos h]
    have hb : (held == 0) = false := by rw [beq_eq_false_iff_ne]; exact h
    go_enter Tryd.func35, Tryd.ntmps35
    go_wp2_with fail
    go_ret
    exact ⟨rfl, (Below.refl _ _).alloc (Nat.le_refl _) _⟩
set_option maxHeartbeats 4000000 in
theorem writeEsc_any (k : Ky) (kp : Bool) (w : World) : Calls Tryd.prog 37 #[kyv k, .bool kp] w fun e w' => e = .returned (.string (bs [27])) ∧ Below w.heap.size w w' := by
  unfold kyv
  go_enter Tryd.func37, Tryd.ntmps37
  go_wp2_with fail
  go_ret
  first | exact ⟨rfl, (Below.refl _ _).alloc (Nat.le_refl _) _⟩ | exact ⟨rfl, Below.refl _ _⟩
theorem dig_small : ∀ j ∈ List.range 8, j ≠ 0 → Lib.decDigits (j + 1) = [UInt8.ofNat (49 + j)] := by decide +kernel
set_option maxHeartbeats 4000000 in
theorem heldBehind_any (k : Ky) (h0 : 0 ≤ k.held) (h7 : k.held ≤ 7) (w : World) : Calls Tryd.prog 58 #[kyv k] w fun e w' => e = .returned (.string (bs (heldB k.held))) ∧ Below w.heap.size w w' := by
  obtain ⟨kind, r, n, held⟩ := k
  simp only at h0 h7
  obtain ⟨j, hj, rfl⟩ := held_cases (h := held) h0 h7
  clear h0 h7
  unfold kyv
  simp only
  by_cases hz : j = 0
  · subst hz
    go_enter Tryd.func58, Tryd.ntmps58
    go_wp2_with fail
    go_ret
    exact ⟨rfl, (Below.refl _ _).alloc (Nat.le_refl _) _⟩
  · have kb : Below w.heap.size w (w.alloc (.cells #[.int .i64 kind, .int .i32 r, .int .i64 n, .int .i64 (j : Int)] 23)) := (Below.refl _ _).alloc (Nat.le_refl _) _
    have HI := Tryd.strconv_Itoa_small (j + 1) (by omega) (w.alloc (.cells #[.int .i64 kind, .int .i32 r, .int .i64 n, .int .i64 (j : Int)] 23))
    rw [dig_small j (List.mem_range.2 hj) hz] at HI
    have e : bs (heldB (j : Int)) = ⟨#[59]⟩ ++ bs [UInt8.ofNat (49 + j)] := by
      unfold heldB
      rw [if_neg (by omega), Int.toNat_natCast]
      exact (Txt.bs_append [59] [UInt8.ofNat (49 + j)]).symm
    rw [e]
    clear e
    rw [show (⟨[UInt8.ofNat (49 + j)].toArray⟩ : ByteArray) = bs [UInt8.ofNat (49 + j)] from rfl] at HI
    have hs : (bs [UInt8.ofNat (49 + j)]).size = 1 := by rw [bs_size]; rfl
    have hs2 : ¬ 9223372036854775807 < 1 + (bs [UInt8.ofNat (49 + j)]).size := by omega
    generalize bs [UInt8.ofNat (49 + j)] = t at *
    have hc : ((j + 1 : Nat) : Int) = (j : Int) + 1 := by omega
    rw [hc] at HI
    clear hc
    have hw : wrap64 ((j : Int) + 1) = (j : Int) + 1 := by unfold wrap64; omega
    have hb : ((j : Int) == 0) = false := by rw [beq_eq_false_iff_ne]; omega
    go_enter Tryd.func58, Tryd.ntmps58
    go_wp2_with (go_at_call 25; refine HI.mono ?_; rintro e W1 ⟨rfl, hW⟩; subst hW)
    go_ret
    exact ⟨rfl, kb⟩
set_option maxHeartbeats 4000000 in
theorem writeLetter_6 (r n held : Int) (kp : Bool) (h0 : 0 ≤ held) (h7 : held ≤ 7) (w : World) : Calls Tryd.prog 38 #[kyv ⟨6, r, n, held⟩, .bool kp] w fun e w' => e = .returned (.string (bs (wr ⟨6, r, n, held⟩ kp))) ∧ Below w.heap.size w w' := by
  have kb : Below w.heap.size w (w.alloc (.cells #[.int .i64 6, .int .i32 r, .int .i64 n, .int .i64 held] 23)) := (Below.refl _ _).alloc (Nat.le_refl _) _
  have hen : Utf8.encode (((⟨#[65, 66, 67, 68, 72, 70]⟩ : ByteArray)[0]'(by decide)).toNat : Int) = ⟨#[65]⟩ := by kernel_rfl
  by_cases hz : held = 0
  · subst hz
    clear h0 h7
    unfold kyv
    cases kp
    · have e : bs (wr ⟨6, r, n, 0⟩ false) = ⟨#[27, 91]⟩ ++ ⟨#[65]⟩ := (Txt.bs_append [27, 91] [65]).symm
      rw [e]
      clear e
      go_enter Tryd.func38, Tryd.ntmps38
      go_wp2_with fail
      go_ret
      exact ⟨rfl, kb⟩
    · have e : bs (wr ⟨6, r, n, 0⟩ true) = ⟨#[27, 79]⟩ ++ ⟨#[65]⟩ := (Txt.bs_append [27, 79] [65]).symm
      rw [e]
      clear e
      go_enter Tryd.func38, Tryd.ntmps38
      go_wp2_with fail
      go_ret
      exact ⟨rfl, kb⟩
  · have HH := heldBehind_any ⟨6, r, n, held⟩ h0 h7 (w.alloc (.cells #[.int .i64 6, .int .i32 r, .int .i64 n, .int .i64 held] 23))
    have e : bs (wr ⟨6, r, n, held⟩ kp) = ⟨#[27, 91, 49]⟩ ++ bs (heldB held) ++ ⟨#[65]⟩ := by
      have : wr ⟨6, r, n, held⟩ kp = [27, 91, 49] ++ heldB held ++ [65] := by simp [wr, hz, letB, lettersL]
      rw [this]
      exact ((Txt.bs_append ([27, 91, 49] ++ heldB held) [65]).symm).trans (congrArg (· ++ bs [65]) (Txt.bs_append [27, 91, 49] (heldB held)).symm)
    rw [e]
    clear e
    have hl : (bs (heldB held)).size ≤ 2 := by rw [bs_size]; unfold heldB; split <;> simp
    simp only at HH
    generalize bs (heldB held) = t at *
    have hs1 : ¬ 9223372036854775807 < 3 + t.size := by omega
    have hs2 : ¬ 9223372036854775807 < 3 + t.size + 1 := by omega
    have hb : (held == 0) = false := by rw [beq_eq_false_iff_ne]; exact hz
    have hb2 : (held != 0) = true := by rw [bne_iff_ne]; exact hz
    unfold kyv at HH ⊢
    go_enter Tryd.func38, Tryd.ntmps38
    go_wp2_with (go_at_call 58; refine HH.mono ?_; rintro e W1 ⟨rfl, b1⟩; replace kb := kb.trans (b1.mono kb.size))
    go_ret
    exact ⟨rfl, kb⟩
set_option maxHeartbeats 4000000 in
theorem writeLetter_7 (r n held : Int) (kp : Bool) (h0 : 0 ≤ held) (h7 : held ≤ 7) (w : World) : Calls Tryd.prog 38 #[kyv ⟨7, r, n, held⟩, .bool kp] w fun e w' => e = .returned (.string (bs (wr ⟨7, r, n, held⟩ kp))) ∧ Below w.heap.size w w' := by
  have kb : Below w.heap.size w (w.alloc (.cells #[.int .i64 7, .int .i32 r, .int .i64 n, .int .i64 held] 23)) := (Below.refl _ _).alloc (Nat.le_refl _) _
  have hen : Utf8.encode (((⟨#[65, 66, 67, 68, 72, 70]⟩ : ByteArray)[1]'(by decide)).toNat : Int) = ⟨#[66]⟩ := by kernel_rfl
  by_cases hz : held = 0
  · subst hz
    clear h0 h7
    unfold kyv
    cases kp
    · have e : bs (wr ⟨7, r, n, 0⟩ false) = ⟨#[27, 91]⟩ ++ ⟨#[66]⟩ := (Txt.bs_append [27, 91] [66]).symm
      rw [e]
      clear e
      go_enter Tryd.func38, Tryd.ntmps38
      go_wp2_with fail
      go_ret
      exact ⟨rfl, kb⟩
    · have e : bs (wr ⟨7, r, n, 0⟩ true) = ⟨#[27, 79]⟩ ++ ⟨#[66]⟩ := (Txt.bs_append [27, 79] [66]).symm
      rw [e]
      clear e
      go_enter Tryd.func38, Tryd.ntmps38
      go_wp2_with fail
      go_ret
      exact ⟨rfl, kb⟩
  · have HH := heldBehind_any ⟨7, r, n, held⟩ h0 h7 (w.alloc (.cells #[.int .i64 7, .int .i32 r, .int .i64 n, .int .i64 held] 23))
    have e : bs (wr ⟨7, r, n, held⟩ kp) = ⟨#[27, 91, 49]⟩ ++ bs (heldB held) ++ ⟨#[66]⟩ := by
      have : wr ⟨7, r, n, held⟩ kp = [27, 91, 49] ++ heldB held ++ [66] := by simp [wr, hz, letB, lettersL]
      rw [this]
      exact ((Txt.bs_append ([27, 91, 49] ++ heldB held) [66]).symm).trans (congrArg (· ++ bs [66]) (Txt.bs_append [27, 91, 49] (heldB held)).symm)
    rw [e]
    clear e
    have hl : (bs (heldB held)).size ≤ 2 := by rw [bs_size]; unfold heldB; split <;> simp
    simp only at HH
    generalize bs (heldB held) = t at *
    have hs1 : ¬ 9223372036854775807 < 3 + t.size := by omega
    have hs2 : ¬ 9223372036854775807 < 3 + t.size + 1 := by omega
    have hb : (held == 0) = false := by rw [beq_eq_false_iff_ne]; exact hz
    have hb2 : (held != 0) = true := by rw [bne_iff_ne]; exact hz
    unfold kyv at HH ⊢
    go_enter Tryd.func38, Tryd.ntmps38
    go_wp2_with (go_at_call 58; refine HH.mono ?_; rintro e W1 ⟨rfl, b1⟩; replace kb := kb.trans (b1.mono kb.size))
    go_ret
    exact ⟨rfl, kb⟩
set_option maxHeartbeats 4000000 in
theorem writeLetter_8 (r n held : Int) (kp : Bool) (h0 : 0 ≤ held) (h7 : held ≤ 7) (w : World) : Calls Tryd.prog 38 #[kyv ⟨8, r, n, held⟩, .bool kp] w fun e w' => e = .returned (.string (bs (wr ⟨8, r, n, held⟩ kp))) ∧ Below w.heap.size w w' := by
  have kb : Below w.heap.size w (w.alloc (.cells #[.int .i64 8, .int .i32 r, .int .i64 n, .int .i64 held] 23)) := (Below.refl _ _).alloc (Nat.le_refl _) _
  have hen : Utf8.encode (((⟨#[65, 66, 67, 68, 72, 70]⟩ : ByteArray)[2]'(by decide)).toNat : Int) = ⟨#[67]⟩ := by kernel_rfl
  by_cases hz : held = 0
  · subst hz
    clear h0 h7
    unfold kyv
    cases kp
    · have e : bs (wr ⟨8, r, n, 0⟩ false) = ⟨#[27, 91]⟩ ++ ⟨#[67]⟩ := (Txt.bs_append [27, 91] [67]).symm
      rw [e]
      clear e
      go_enter Tryd.func38, Tryd.ntmps38
      go_wp2_with fail
      go_ret
      exact ⟨rfl, kb⟩
    · have e : bs (wr ⟨8, r, n, 0⟩ true) = ⟨#[27, 79]⟩ ++ ⟨#[67]⟩ := (Txt.bs_append [27, 79] [67]).symm
      rw [e]
      clear e
      go_enter Tryd.func38, Tryd.ntmps38
      go_wp2_with fail
      go_ret
      exact ⟨rfl, kb⟩
  · have HH := heldBehind_any ⟨8, r, n, held⟩ h0 h7 (w.alloc (.cells #[.int .i64 8, .int .i32 r, .int .i64 n, .int .i64 held] 23))
    have e : bs (wr ⟨8, r, n, held⟩ kp) = ⟨#[27, 91, 49]⟩ ++ bs (heldB held) ++ ⟨#[67]⟩ := by
      have : wr ⟨8, r, n, held⟩ kp = [27, 91, 49] ++ heldB held ++ [67] := by simp [wr, hz, letB, lettersL]
      rw [this]
      exact ((Txt.bs_append ([27, 91, 49] ++ heldB held) [67]).symm).trans (congrArg (· ++ bs [67]) (Txt.bs_append [27, 91, 49] (heldB held)).symm)
    rw [e]
    clear e
    have hl : (bs (heldB held)).size ≤ 2 := by rw [bs_size]; unfold heldB; split <;> simp
    simp only at HH
    generalize bs (heldB held) = t at *
    have hs1 : ¬ 9223372036854775807 < 3 + t.size := by omega
    have hs2 : ¬ 9223372036854775807 < 3 + t.size + 1 := by omega
    have hb : (held == 0) = false := by rw [beq_eq_false_iff_ne]; exact hz
    have hb2 : (held != 0) = true := by rw [bne_iff_ne]; exact hz
    unfold kyv at HH ⊢
    go_enter Tryd.func38, Tryd.ntmps38
    go_wp2_with (go_at_call 58; refine HH.mono ?_; rintro e W1 ⟨rfl, b1⟩; replace kb := kb.trans (b1.mono kb.size))
    go_ret
    exact ⟨rfl, kb⟩
set_option maxHeartbeats 4000000 in
theorem writeLetter_9 (r n held : Int) (kp : Bool) (h0 : 0 ≤ held) (h7 : held ≤ 7) (w : World) : Calls Tryd.prog 38 #[kyv ⟨9, r, n, held⟩, .bool kp] w fun e w' => e = .returned (.string (bs (wr ⟨9, r, n, held⟩ kp))) ∧ Below w.heap.size w w' := by
  have kb : Below w.heap.size w (w.alloc (.cells #[.int .i64 9, .int .i32 r, .int .i64 n, .int .i64 held] 23)) := (Below.refl _ _).alloc (Nat.le_refl _) _
  have hen : Utf8.encode (((⟨#[65, 66, 67, 68, 72, 70]⟩ : ByteArray)[3]'(by decide)).toNat : Int) = ⟨#[68]⟩ := by kernel_rfl
  by_cases hz : held = 0
  · subst hz
    clear h0 h7
    unfold kyv
    cases kp
    · have e : bs (wr ⟨9, r, n, 0⟩ false) = ⟨#[27, 91]⟩ ++ ⟨#[68]⟩ := (Txt.bs_append [27, 91] [68]).symm
      rw [e]
      clear e
      go_enter Tryd.func38, Tryd.ntmps38
      go_wp2_with fail
      go_ret
      exact ⟨rfl, kb⟩
    · have e : bs (wr ⟨9, r, n, 0⟩ true) = ⟨#[27, 79]⟩ ++ ⟨#[68]⟩ := (Txt.bs_append [27, 79] [68]).symm
      rw [e]
      clear e
      go_enter Tryd.func38, Tryd.ntmps38
      go_wp2_with fail
      go_ret
      exact ⟨rfl, kb⟩
  · have HH := heldBehind_any ⟨9, r, n, held⟩ h0 h7 (w.alloc (.cells #[.int .i64 9, .int .i32 r, .int .i64 n, .int .i64 held] 23))
    have e : bs (wr ⟨9, r, n, held⟩ kp) = ⟨#[27, 91, 49]⟩ ++ bs (heldB held) ++ ⟨#[68]⟩ := by
      have : wr ⟨9, r, n, held⟩ kp = [27, 91, 49] ++ heldB held ++ [68] := by simp [wr, hz, letB, lettersL]
      rw [this]
      exact ((Txt.bs_append ([27, 91, 49] ++ heldB held) [68]).symm).trans (congrArg (· ++ bs [68]) (Txt.bs_append [27, 91, 49] (heldB held)).symm)
    rw [e]
    clear e
    have hl : (bs (heldB held)).size ≤ 2 := by rw [bs_size]; unfold heldB; split <;> simp
    simp only at HH
    generalize bs (heldB held) = t at *
    have hs1 : ¬ 9223372036854775807 < 3 + t.size := by omega
    have hs2 : ¬ 9223372036854775807 < 3 + t.size + 1 := by omega
    have hb : (held == 0) = false := by rw [beq_eq_false_iff_ne]; exact hz
    have hb2 : (held != 0) = true := by rw [bne_iff_ne]; exact hz
    unfold kyv at HH ⊢
    go_enter Tryd.func38, Tryd.ntmps38
    go_wp2_with (go_at_call 58; refine HH.mono ?_; rintro e W1 ⟨rfl, b1⟩; replace kb := kb.trans (b1.mono kb.size))
    go_ret
    exact ⟨rfl, kb⟩
set_option maxHeartbeats 4000000 in
theorem writeLetter_10 (r n held : Int) (kp : Bool) (h0 : 0 ≤ held) (h7 : held ≤ 7) (w : World) : Calls Tryd.prog 38 #[kyv ⟨10, r, n, held⟩, .bool kp] w fun e w' => e = .returned (.string (bs (wr ⟨10, r, n, held⟩ kp))) ∧ Below w.heap.size w w' := by
  have kb : Below w.heap.size w (w.alloc (.cells #[.int .i64 10, .int .i32 r, .int .i64 n, .int .i64 held] 23)) := (Below.refl _ _).alloc (Nat.le_refl _) _
  have hen : Utf8.encode (((⟨#[65, 66, 67, 68, 72, 70]⟩ : ByteArray)[4]'(by decide)).toNat : Int) = ⟨#[72]⟩ := by kernel_rfl
  by_cases hz : held = 0
  · subst hz
    clear h0 h7
    unfold kyv
    cases kp
    · have e : bs (wr ⟨10, r, n, 0⟩ false) = ⟨#[27, 91]⟩ ++ ⟨#[72]⟩ := (Txt.bs_append [27, 91] [72]).symm
      rw [e]
      clear e
      go_enter Tryd.func38, Tryd.ntmps38
      go_wp2_with fail
      go_ret
      exact ⟨rfl, kb⟩
    · have e : bs (wr ⟨10, r, n, 0⟩ true) = ⟨#[27, 79]⟩ ++ ⟨#[72]⟩ := (Txt.bs_append [27, 79] [72]).symm
      rw [e]
      clear e
      go_enter Tryd.func38, Tryd.ntmps38
      go_wp2_with fail
      go_ret
      exact ⟨rfl, kb⟩
  · have HH := heldBehind_any ⟨10, r, n, held⟩ h0 h7 (w.alloc (.cells #[.int .i64 10, .int .i32 r, .int .i64 n, .int .i64 held] 23))
    have e : bs (wr ⟨10, r, n, held⟩ kp) = ⟨#[27, 91, 49]⟩ ++ bs (heldB held) ++ ⟨#[72]⟩ := by
      have : wr ⟨10, r, n, held⟩ kp = [27, 91, 49] ++ heldB held ++ [72] := by simp [wr, hz, letB, lettersL]
      rw [this]
      exact ((Txt.bs_append ([27, 91, 49] ++ heldB held) [72]).symm).trans (congrArg (· ++ bs [72]) (Txt.bs_append [27, 91, 49] (heldB held)).symm)
    rw [e]
    clear e
    have hl : (bs (heldB held)).size ≤ 2 := by rw [bs_size]; unfold heldB; split <;> simp
    simp only at HH
    generalize bs (heldB held) = t at *
    have hs1 : ¬ 9223372036854775807 < 3 + t.size := by omega
    have hs2 : ¬ 9223372036854775807 < 3 + t.size + 1 := by omega
    have hb : (held == 0) = false := by rw [beq_eq_false_iff_ne]; exact hz
    have hb2 : (held != 0) = true := by rw [bne_iff_ne]; exact hz
    unfold kyv at HH ⊢
    go_enter Tryd.func38, Tryd.ntmps38
    go_wp2_with (go_at_call 58; refine HH.mono ?_; rintro e W1 ⟨rfl, b1⟩; replace kb := kb.trans (b1.mono kb.size))
    go_ret
    exact ⟨rfl, kb⟩
set_option maxHeartbeats 4000000 in
theorem writeLetter_11 (r n held : Int) (kp : Bool) (h0 : 0 ≤ held) (h7 : held ≤ 7) (w : World) : Calls Tryd.prog 38 #[kyv ⟨11, r, n, held⟩, .bool kp] w fun e w' => e = .returned (.string (bs (wr ⟨11, r, n, held⟩ kp))) ∧ Below w.heap.size w w' := by
  have kb : Below w.heap.size w (w.alloc (.cells #[.int .i64 11, .int .i32 r, .int .i64 n, .int .i64 held] 23)) := (Below.refl _ _).alloc (Nat.le_refl _) _
  have hen : Utf8.encode (((⟨#[65, 66, 67, 68, 72, 70]⟩ : ByteArray)[5]'(by decide)).toNat : Int) = ⟨#[70]⟩ := by kernel_rfl
  by_cases hz : held = 0
  · subst hz
    clear h0 h7
    unfold kyv
    cases kp
    · have e : bs (wr ⟨11, r, n, 0⟩ false) = ⟨#[27, 91]⟩ ++ ⟨#[70]⟩ := (Txt.bs_append [27, 91] [70]).symm
      rw [e]
      clear e
      go_enter Tryd.func38, Tryd.ntmps38
      go_wp2_with fail
      go_ret
      exact ⟨rfl, kb⟩
    · have e : bs (wr ⟨11, r, n, 0⟩ true) = ⟨#[27, 79]⟩ ++ ⟨#[70]⟩ := (Txt.bs_append [27, 79] [70]).symm
      rw [e]
      clear e
      go_enter Tryd.func38, Tryd.ntmps38
      go_wp2_with fail
      go_ret
      exact ⟨rfl, kb⟩
  · have HH := heldBehind_any ⟨11, r, n, held⟩ h0 h7 (w.alloc (.cells #[.int .i64 11, .int .i32 r, .int .i64 n, .int .i64 held] 23))
    have e : bs (wr ⟨11, r, n, held⟩ kp) = ⟨#[27, 91, 49]⟩ ++ bs (heldB held) ++ ⟨#[70]⟩ := by
      have : wr ⟨11, r, n, held⟩ kp = [27, 91, 49] ++ heldB held ++ [70] := by simp [wr, hz, letB, lettersL]
      rw [this]
      exact ((Txt.bs_append ([27, 91, 49] ++ heldB held) [70]).symm).trans (congrArg (· ++ bs [70]) (Txt.bs_append [27, 91, 49] (heldB held)).symm)
    rw [e]
    clear e
    have hl : (bs (heldB held)).size ≤ 2 := by rw [bs_size]; unfold heldB; split <;> simp
    simp only at HH
    generalize bs (heldB held) = t at *
    have hs1 : ¬ 9223372036854775807 < 3 + t.size := by omega
    have hs2 : ¬ 9223372036854775807 < 3 + t.size + 1 := by omega
    have hb : (held == 0) = false := by rw [beq_eq_false_iff_ne]; exact hz
    have hb2 : (held != 0) = true := by rw [bne_iff_ne]; exact hz
    unfold kyv at HH ⊢
    go_enter Tryd.func38, Tryd.ntmps38
    go_wp2_with (go_at_call 58; refine HH.mono ?_; rintro e W1 ⟨rfl, b1⟩; replace kb := kb.trans (b1.mono kb.size))
    go_ret
    exact ⟨rfl, kb⟩
end Kys
end Go.Proofs.YtjilgapoioploaaDoor
