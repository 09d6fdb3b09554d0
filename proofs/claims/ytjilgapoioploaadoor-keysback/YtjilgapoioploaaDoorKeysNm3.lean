/- Package keys: Named, of a name. -/
import Derived.Test.YtjilgapoioploaaDoorKeysNm2
namespace Go.Proofs.YtjilgapoioploaaDoor
open Go.ChangeShapes Go.WideShapes Go.ChangeAt Go.RowKit
namespace Kys
open Txt (wd bs dec)
def bS (l : List UInt8) : Nat → List UInt8
  | 0 => l
  | 1 => offC l
  | 2 => offM l
  | _ => offS l
def hS (l : List UInt8) : Nat → Int
  | 0 => 0
  | 1 => has [67, 45] l 4
  | 2 => has [67, 45] l 4 + has [77, 45] (offC l) 2
  | _ => heldS l
theorem S_succ (l : List UInt8) (i : Nat) (b : Int) (p : List UInt8) (hh : i = 0 ∧ b = 4 ∧ p = [67, 45] ∨ i = 1 ∧ b = 2 ∧ p = [77, 45] ∨ i = 2 ∧ b = 1 ∧ p = [83, 45]) : bS l (i + 1) = off p (bS l i) ∧ hS l (i + 1) = hS l i + has p (bS l i) b ∧ (b = 4 ∧ hS l i = 0 ∨ b = 2 ∧ (hS l i = 0 ∨ hS l i = 4) ∨ b = 1 ∧ (hS l i = 0 ∨ hS l i = 4 ∨ hS l i = 2 ∨ hS l i = 6)) := by
  have h1 : has [67, 45] l 4 = 0 ∨ has [67, 45] l 4 = 4 := by unfold has; split <;> simp
  have h2 : has [77, 45] (offC l) 2 = 0 ∨ has [77, 45] (offC l) 2 = 2 := by unfold has; split <;> simp
  rcases hh with ⟨rfl, rfl, rfl⟩ | ⟨rfl, rfl, rfl⟩ | ⟨rfl, rfl, rfl⟩
  · exact ⟨rfl, by simp [hS, bS], .inl ⟨rfl, rfl⟩⟩
  · exact ⟨rfl, rfl, .inr (.inl ⟨rfl, h1⟩)⟩
  · refine ⟨rfl, rfl, .inr (.inr ⟨rfl, ?_⟩)⟩
    have e : hS l 2 = has [67, 45] l 4 + has [77, 45] (offC l) 2 := rfl
    rw [e]
    omega
theorem or_bit (h b : Int) (hh : b = 4 ∧ h = 0 ∨ b = 2 ∧ (h = 0 ∨ h = 4) ∨ b = 1 ∧ (h = 0 ∨ h = 4 ∨ h = 2 ∨ h = 6)) : bits BinOp.or IntKind.i64 h b = h + b := by
  rcases hh with ⟨rfl, rfl⟩ | ⟨rfl, rfl | rfl⟩ | ⟨rfl, rfl | rfl | rfl | rfl⟩ <;> decide +kernel
theorem off_len (p l : List UInt8) : (off p l).length ≤ l.length := by unfold off; split <;> simp
theorem bS_len (l : List UInt8) : ∀ i, (bS l i).length ≤ l.length := by
  have a := off_len [67, 45] l
  have b := off_len [77, 45] (offC l)
  have c := off_len [83, 45] (offM l)
  intro i
  match i with
  | 0 => exact Nat.le_refl _
  | 1 => exact a
  | 2 => exact Nat.le_trans b a
  | k + 3 => exact Nat.le_trans c (Nat.le_trans b a)
set_option maxHeartbeats 4000000 in
set_option maxRecDepth 100000 in
theorem named_good (s : ByteArray) (hs : s.size ≤ 1048576) (hk : chk (cand s.data.toList) = true) (hn : nameL (cand s.data.toList) = s.data.toList) (w : World) (hE : Env w) (hNm : NameTab w) (hH : HoldTab w) : Calls Tryd.prog 17 #[.string s] w fun e w' => e = .returned (.tuple #[kyv (cand s.data.toList), .int .i64 0]) ∧ Below w.heap.size w w' := by
  have kb := kb_z w
  have Z := hz w
  have HEV : Hid (∀ W, Below w.heap.size w W → Env W ∧ NameTab W ∧ HoldTab W) := fun W h => ⟨hE.below h, hNm.below h, hH.below h⟩
  obtain ⟨_, _, tt, fr, h1⟩ := HEV.out _ kb
  have H1 : Hid ((w.alloc (.cells #[.int .i64 0, .int .i32 0, .int .i64 0, .int .i64 0] 23)).heap[0]? = some (.cells holdCells tt fr)) := h1
  clear h1 hE hNm hH
  obtain ⟨W0, hW0⟩ : ∃ W0, w.alloc (.cells #[.int .i64 0, .int .i32 0, .int .i64 0, .int .i64 0] 23) = W0 := ⟨_, rfl⟩
  have HW0 : Hid (w.alloc (.cells #[.int .i64 0, .int .i32 0, .int .i64 0, .int .i64 0] 23) = W0) := hW0
  rw [hW0] at kb Z
  clear hW0
  have HBK := fun W h1 h2 => bareKey_any (bs (offS s.data.toList)) (by rw [bs_sz]; have := bS_len s.data.toList 3; rw [size_l] at this; exact Nat.le_trans this hs) W h1 h2
  rw [bs_list] at HBK
  have HNM := fun W h1 h2 h3 => name_any (cand s.data.toList) hk W h1 h2 h3
  rw [hn] at HNM
  have hbb : bs s.data.toList = s := rfl
  rw [hbb] at HNM
  have heq : (s.toList == s.toList) = true := by simp
  have heq2 : (s.toList != s.toList) = false := by simp
  obtain ⟨kd, hkd⟩ : ∃ k0, bareK (offS s.data.toList) = k0 := ⟨_, rfl⟩
  have hcd : cand s.data.toList = ⟨kd.kind, kd.r, kd.n, heldS s.data.toList⟩ := by unfold cand; rw [hkd]
  rw [hkd] at HBK
  rw [hcd] at HNM ⊢
  clear hkd hcd hn hk hbb
  obtain ⟨kk, rr, nn, hh⟩ := kd
  have HST : Hid (∀ i b p, (i = 0 ∧ b = 4 ∧ p = [67, 45] ∨ i = 1 ∧ b = 2 ∧ p = [77, 45] ∨ i = 2 ∧ b = 1 ∧ p = [83, 45]) → bS s.data.toList (i + 1) = off p (bS s.data.toList i) ∧ hS s.data.toList (i + 1) = hS s.data.toList i + has p (bS s.data.toList i) b ∧ (b = 4 ∧ hS s.data.toList i = 0 ∨ b = 2 ∧ (hS s.data.toList i = 0 ∨ hS s.data.toList i = 4) ∨ b = 1 ∧ (hS s.data.toList i = 0 ∨ hS s.data.toList i = 4 ∨ hS s.data.toList i = 2 ∨ hS s.data.toList i = 6))) := fun i b p h => S_succ _ i b p h
  unfold kyv at HBK HNM ⊢
  simp only at HBK HNM ⊢
  have HF : Hid (bS s.data.toList 3 = offS s.data.toList ∧ hS s.data.toList 3 = heldS s.data.toList) := ⟨rfl, rfl⟩
  have HZ : Hid (s = bs (bS s.data.toList 0) ∧ (0 : Int) = hS s.data.toList 0) := ⟨rfl, rfl⟩
  generalize offS s.data.toList = oS at *
  generalize heldS s.data.toList = eS at *
  generalize bS s.data.toList = fb at *
  generalize hS s.data.toList = fh at *
  go_enter Tryd.func17, Tryd.ntmps17
  go_wp2_with (refine wpList_load_row rfl 58 (.global 0) rfl 0 rfl _ holdCells _ _ H1.out Tryd.underlying58 rfl (by kernel_rfl) ?_)
  rw [HW0.out]
  clear H1 HW0
  go_loopg [4, 5, 15] 3 (fun g v4 v5 v15 wr => ∃ i : Nat, i ≤ 3 ∧ 3 - i ≤ g ∧ v15 = .int .i64 (i : Int) ∧ v4 = .int .i64 (fh i) ∧ v5 = .string (bs (fb i)) ∧ Below W0.heap.size W0 wr)
  case atStart => exact ⟨0, by omega, by omega, rfl, by rw [← HZ.out.2], by rw [← HZ.out.1], Below.refl _ _⟩
  case round =>
    obtain ⟨i, hi, hg, rfl, rfl, rfl, hb⟩ := hrel
    have hsz2 := hb.size
    by_cases h3 : i < 3
    · have i3 : (i : Int) < 3 := by omega
      obtain ⟨b, p, hbl, hix⟩ := hold_idx i h3
      have hix := hix wr
      obtain ⟨s1, s2, s3⟩ := HST.out i b p hbl
      have hor := or_bit (fh i) b s3
      have hw : wrap64 ((i : Int) + 1) = (i : Int) + 1 := by unfold wrap64; omega
      have HC := Tryd.strings_CutPrefix (bs (fb i)) (bs p) (wr.alloc (.cells #[.int .i64 b, .string (bs p)] 57))
      rw [bs_list, bs_list] at HC
      rw [show (⟨(Lib.trimPrefix (fb i) p).toArray⟩ : ByteArray) = bs (off p (fb i)) from rfl] at HC
      cases hq : Lib.hasPrefix (fb i) p with
      | true =>
        rw [hq] at HC
        have e1 : bs (off p (fb i)) = bs (fb (i + 1)) := by rw [s1]
        have e2 : fh i + b = fh (i + 1) := by rw [s2]; unfold has; rw [hq]; rfl
        have HE : Hid (bs (off p (fb i)) = bs (fb (i + 1)) ∧ fh i + b = fh (i + 1)) := ⟨e1, e2⟩
        clear e1 e2 s1 s2 s3 hq hbl HBK HNM HF
        generalize bs (off p (fb i)) = tq at *
        generalize bs (fb i) = ta at *
        generalize fh i = hi' at *
        generalize bs p = tl at *
        go_wp2_with (go_at_call 30; refine HC.mono ?_; rintro e W1 ⟨rfl, hW1⟩; subst hW1)
        go_roundg (3 - (i + 1))
        case measure => omega
        case rel => exact ⟨i + 1, by omega, by omega, by go_num, by rw [← HE.out.2], by rw [← HE.out.1], hb.alloc hsz2 _⟩
      | false =>
        rw [hq] at HC
        have e1 : bs (fb i) = bs (fb (i + 1)) := by rw [s1]; unfold off; rw [hq]; rfl
        have e2 : fh i = fh (i + 1) := by rw [s2]; unfold has; rw [hq]; simp
        have HE : Hid (bs (fb i) = bs (fb (i + 1)) ∧ fh i = fh (i + 1)) := ⟨e1, e2⟩
        clear e1 e2 s1 s2 s3 hq hbl HBK HNM HF
        generalize bs (off p (fb i)) = tq at *
        generalize bs (fb i) = ta at *
        generalize fh i = hi' at *
        generalize bs p = tl at *
        go_wp2_with (go_at_call 30; refine HC.mono ?_; rintro e W1 ⟨rfl, hW1⟩; subst hW1)
        go_roundg (3 - (i + 1))
        case measure => omega
        case rel => exact ⟨i + 1, by omega, by omega, by go_num, by rw [← HE.out.2], by rw [← HE.out.1], hb.alloc hsz2 _⟩
    · have e3 : i = 3 := by omega
      subst e3
      have k0 := kb.trans (hb.mono kb.size)
      have zr := by_block Z hb
      obtain ⟨f1, f2⟩ := HF.out
      rw [f1, f2]
      have HB := HBK wr (HEV.out wr k0).1 (HEV.out wr k0).2.1
      clear HBK f1 f2 HF HST
      generalize bs oS = tq at *
      go_wp2_with (first | (go_at_call 31; refine HB.mono ?_; rintro e W2 ⟨rfl, b2⟩; have z2 := by_block zr b2; have k2 := k0.trans (b2.mono k0.size); have k3 := k2.alloc k2.size (.cells #[.int .i64 kk, .int .i32 rr, .int .i64 nn, .int .i64 eS] 23); have z3 := by_block z2 ((Below.refl _ _).alloc (Nat.le_refl _) (.cells #[.int .i64 kk, .int .i32 rr, .int .i64 nn, .int .i64 eS] 23)); have y3 := heap_alloc_new W2 (.cells #[.int .i64 kk, .int .i32 rr, .int .i64 nn, .int .i64 eS] 23); have HN := HNM _ (HEV.out _ k3).1.tab (HEV.out _ k3).2.1 (HEV.out _ k3).2.2) | (go_at_call 16; refine HN.mono ?_; rintro e W4 ⟨rfl, b4⟩; have z4 := by_block z3 b4; have y4 := by_block y3 b4; have k4 := k3.trans (b4.mono k3.size)) | (refine wpList_load_row rfl 23 (.tmp 10) rfl W2.heap.size rfl _ _ _ _ y4 Tryd.underlying23 rfl (by kernel_rfl) ?_) | (refine wpList_store_row rfl 23 (.tmp 2) (.tmp 49) rfl (w.heap.size) #[.int .i64 kk, .int .i32 rr, .int .i64 nn, .int .i64 eS] rfl rfl _ _ z4 (by kernel_rfl) rfl (one4 _ _ _ _) ?_))
      (try simp only [Exit.inBlock, Exit.then])
      refine bodyPost_ret (v := .tuple #[.agg #[.int .i64 kk, .int .i32 rr, .int .i64 nn, .int .i64 eS], .int .i64 0]) ?_ rfl ⟨rfl, below_setRow k4 (Nat.le_refl _) _⟩
      exact results_key_tmp rfl _ _ w.heap.size _ _ _ _ rfl (setRow_heap _ _ _ _ _ _ z4) Tryd.underlying23 rfl (by kernel_rfl) _ rfl
end Kys
end Go.Proofs.YtjilgapoioploaaDoor
