/- The reference's firstKey, ahead of ESC. (Written by gen_keysreff.py.) -/
import Derived.Test.YtplceodnllcimaaDoorPartI
import Derived.Test.YtplceodnllcimaaDoorPartG
import Derived.Laws.AppendOwn
import Derived.Laws.OwnMore
import Derived.Maps.AppendAt
import Derived.Deep.LoopGhost
import Derived.BigQuiet
namespace Go.Proofs.YtplceodnllcimaaDoor
open Go.ChangeShapes Go.WideShapes Go.ChangeAt Go.RowKit Go.Maps
namespace Kys
open Txt (wd bs dec)
set_option maxHeartbeats 8000000 in
set_option maxRecDepth 100000 in
theorem firstR_plain (s : ByteArray) (last : Bool) (h0l : 0 < s.size) (h27 : s[0]'h0l ≠ 27) (w : World) (hE : Env w) : Calls Tryd.prog 11 #[.string s, .bool last] w fun e w' => e = .returned (.tuple #[kyv (plainL s.data.toList last).1, .int .i64 ((plainL s.data.toList last).2 : Nat)]) ∧ Below w.heap.size w w' := by
  have hz0 : (0 : Int) < (s.size : Int) := by omega
  have hs : s.size ≠ 0 := by omega
  obtain ⟨x, hx⟩ : ∃ x, s[0]'h0l = x := ⟨_, rfl⟩
  have hg : s.data.toList.getD 0 0 = x := by rw [get_zero s 0 h0l]; exact hx
  rw [hx] at h27
  have hxl := x.toNat_lt
  have kb := kb_z w
  have Z := hz w
  have HE : Hid (plainL s.data.toList last = if x.toNat < 32 ∨ x.toNat = 127 then (ctl x, 1) else if last = false ∧ Prs.full s = false then (zk, 0) else (⟨1, if wd ((Lib.decodeGo s).1 : Int) = 0 then 63 else ((Lib.decodeGo s).1 : Int), 0, 0⟩, (Lib.decodeGo s).2)) := by
    unfold Hid plainL shown
    rw [hg, full_fl, go_dec s hs]
  generalize plainL s.data.toList last = res at HE ⊢
  have hq : ∀ j : UInt8, x = j ↔ x.toNat = j.toNat := fun j => ⟨fun h => by rw [h], fun h => UInt8.toNat_inj.1 h⟩
  have HC : Hid (ctl x = if x.toNat = 9 then ⟨3, 0, 0, 0⟩ else if x.toNat = 13 then ⟨2, 0, 0, 0⟩ else if x.toNat = 8 ∨ x.toNat = 127 then ⟨4, 0, 0, 0⟩ else if x.toNat = 0 then ⟨1, 32, 0, 0⟩ else if x.toNat ≤ 26 then ⟨1, 96 + (x.toNat : Int), 0, 4⟩ else ⟨1, 63, 0, 0⟩) := by
    unfold Hid ctl
    simp only [hq]
    rfl
  have hn27 : x.toNat ≠ 27 := fun h => h27 ((hq 27).2 h)
  have j27 : ((x.toNat : Int) != 27) = true := by rw [bne_iff_ne]; omega
  clear hq hg h27 hs
  have HXL : Hid (x.toNat < 256) := hxl
  clear hxl
  by_cases h9 : x.toNat = 9
  · have e : res = (⟨3, 0, 0, 0⟩, 1) := by
      rw [HE.out, if_pos (by omega), HC.out]
      rw [if_pos (by omega)]
    subst e
    have j9 : ((x.toNat : Int) == 9) = true := by rw [beq_iff_eq]; omega
    clear HE HC hn27 h9
    go_enter Tryd.func11, Tryd.ntmps11
    go_wp2_with (refine wpList_store_row rfl 31 (.tmp 4) (.tmp 22) rfl w.heap.size #[.int .i64 3, .int .i32 0, .int .i64 0, .int .i64 0] rfl rfl _ _ Z (by kernel_rfl) rfl (one4 _ _ _ _) ?_)
    (try simp only [Exit.inBlock, Exit.then])
    refine bodyPost_ret (v := .tuple #[.agg #[.int .i64 3, .int .i32 0, .int .i64 0, .int .i64 0], .int .i64 1]) ?_ rfl ⟨rfl, below_setRow kb (Nat.le_refl _) _⟩
    exact results_key_tmp rfl _ _ w.heap.size _ _ _ _ rfl (setRow_heap _ _ _ _ _ _ Z) Tryd.underlying31 rfl (by kernel_rfl) _ rfl
  by_cases h13 : x.toNat = 13
  · have e : res = (⟨2, 0, 0, 0⟩, 1) := by
      rw [HE.out, if_pos (by omega), HC.out]
      rw [if_neg (by omega), if_pos (by omega)]
    subst e
    have j9 : ((x.toNat : Int) == 9) = false := by rw [beq_eq_false_iff_ne]; omega
    have j13 : ((x.toNat : Int) == 13) = true := by rw [beq_iff_eq]; omega
    clear HE HC hn27 h9 h13
    go_enter Tryd.func11, Tryd.ntmps11
    go_wp2_with (refine wpList_store_row rfl 31 (.tmp 4) (.tmp 26) rfl w.heap.size #[.int .i64 2, .int .i32 0, .int .i64 0, .int .i64 0] rfl rfl _ _ Z (by kernel_rfl) rfl (one4 _ _ _ _) ?_)
    (try simp only [Exit.inBlock, Exit.then])
    refine bodyPost_ret (v := .tuple #[.agg #[.int .i64 2, .int .i32 0, .int .i64 0, .int .i64 0], .int .i64 1]) ?_ rfl ⟨rfl, below_setRow kb (Nat.le_refl _) _⟩
    exact results_key_tmp rfl _ _ w.heap.size _ _ _ _ rfl (setRow_heap _ _ _ _ _ _ Z) Tryd.underlying31 rfl (by kernel_rfl) _ rfl
  by_cases h8 : x.toNat = 8
  · have e : res = (⟨4, 0, 0, 0⟩, 1) := by
      rw [HE.out, if_pos (by omega), HC.out]
      rw [if_neg (by omega), if_neg (by omega), if_pos (by omega)]
    subst e
    have j9 : ((x.toNat : Int) == 9) = false := by rw [beq_eq_false_iff_ne]; omega
    have j13 : ((x.toNat : Int) == 13) = false := by rw [beq_eq_false_iff_ne]; omega
    have j8 : ((x.toNat : Int) == 8) = true := by rw [beq_iff_eq]; omega
    clear HE HC hn27 h9 h13 h8
    go_enter Tryd.func11, Tryd.ntmps11
    go_wp2_with (refine wpList_store_row rfl 31 (.tmp 4) (.tmp 34) rfl w.heap.size #[.int .i64 4, .int .i32 0, .int .i64 0, .int .i64 0] rfl rfl _ _ Z (by kernel_rfl) rfl (one4 _ _ _ _) ?_)
    (try simp only [Exit.inBlock, Exit.then])
    refine bodyPost_ret (v := .tuple #[.agg #[.int .i64 4, .int .i32 0, .int .i64 0, .int .i64 0], .int .i64 1]) ?_ rfl ⟨rfl, below_setRow kb (Nat.le_refl _) _⟩
    exact results_key_tmp rfl _ _ w.heap.size _ _ _ _ rfl (setRow_heap _ _ _ _ _ _ Z) Tryd.underlying31 rfl (by kernel_rfl) _ rfl
  by_cases h127 : x.toNat = 127
  · have e : res = (⟨4, 0, 0, 0⟩, 1) := by
      rw [HE.out, if_pos (by omega), HC.out]
      rw [if_neg (by omega), if_neg (by omega), if_pos (by omega)]
    subst e
    have j9 : ((x.toNat : Int) == 9) = false := by rw [beq_eq_false_iff_ne]; omega
    have j13 : ((x.toNat : Int) == 13) = false := by rw [beq_eq_false_iff_ne]; omega
    have j8 : ((x.toNat : Int) == 8) = false := by rw [beq_eq_false_iff_ne]; omega
    have j127 : ((x.toNat : Int) == 127) = true := by rw [beq_iff_eq]; omega
    clear HE HC hn27 h9 h13 h8 h127
    go_enter Tryd.func11, Tryd.ntmps11
    go_wp2_with (refine wpList_store_row rfl 31 (.tmp 4) (.tmp 34) rfl w.heap.size #[.int .i64 4, .int .i32 0, .int .i64 0, .int .i64 0] rfl rfl _ _ Z (by kernel_rfl) rfl (one4 _ _ _ _) ?_)
    (try simp only [Exit.inBlock, Exit.then])
    refine bodyPost_ret (v := .tuple #[.agg #[.int .i64 4, .int .i32 0, .int .i64 0, .int .i64 0], .int .i64 1]) ?_ rfl ⟨rfl, below_setRow kb (Nat.le_refl _) _⟩
    exact results_key_tmp rfl _ _ w.heap.size _ _ _ _ rfl (setRow_heap _ _ _ _ _ _ Z) Tryd.underlying31 rfl (by kernel_rfl) _ rfl
  by_cases h0 : x.toNat = 0
  · have e : res = (⟨1, 32, 0, 0⟩, 1) := by
      rw [HE.out, if_pos (by omega), HC.out]
      rw [if_neg (by omega), if_neg (by omega), if_neg (by omega), if_pos (by omega)]
    subst e
    have j9 : ((x.toNat : Int) == 9) = false := by rw [beq_eq_false_iff_ne]; omega
    have j13 : ((x.toNat : Int) == 13) = false := by rw [beq_eq_false_iff_ne]; omega
    have j8 : ((x.toNat : Int) == 8) = false := by rw [beq_eq_false_iff_ne]; omega
    have j127 : ((x.toNat : Int) == 127) = false := by rw [beq_eq_false_iff_ne]; omega
    have j0 : ((x.toNat : Int) == 0) = true := by rw [beq_iff_eq]; omega
    clear HE HC hn27 h9 h13 h8 h127 h0
    go_enter Tryd.func11, Tryd.ntmps11
    go_wp2_with fail
    refine (rune1_any 32 _).mono ?_
    rintro e W1 ⟨rfl, b1⟩
    have hW := held_block b1
    replace kb := kb.trans (b1.mono kb.size)
    go_wp2_with (refine wpList_store_row rfl 31 (.tmp 4) (.tmp 39) rfl w.heap.size #[.int .i64 1, .int .i32 32, .int .i64 0, .int .i64 0] rfl rfl _ _ hW (by kernel_rfl) rfl (one4 _ _ _ _) ?_)
    (try simp only [Exit.inBlock, Exit.then])
    refine bodyPost_ret (v := .tuple #[.agg #[.int .i64 1, .int .i32 32, .int .i64 0, .int .i64 0], .int .i64 1]) ?_ rfl ⟨rfl, below_setRow kb (Nat.le_refl _) _⟩
    exact results_key_tmp rfl _ _ w.heap.size _ _ _ _ rfl (setRow_heap _ _ _ _ _ _ hW) Tryd.underlying31 rfl (by kernel_rfl) _ rfl
  by_cases hlt : x.toNat < 27
  · have e : res = (⟨1, (x.toNat : Int) + 96, 0, 4⟩, 1) := by
      rw [HE.out, if_pos (by omega), HC.out]
      rw [if_neg h9, if_neg h13, if_neg (by omega), if_neg h0, if_pos (by omega), Int.add_comm]
    subst e
    have j9 : ((x.toNat : Int) == 9) = false := by rw [beq_eq_false_iff_ne]; omega
    have j13 : ((x.toNat : Int) == 13) = false := by rw [beq_eq_false_iff_ne]; omega
    have j8 : ((x.toNat : Int) == 8) = false := by rw [beq_eq_false_iff_ne]; omega
    have j127 : ((x.toNat : Int) == 127) = false := by rw [beq_eq_false_iff_ne]; omega
    have j0 : ((x.toNat : Int) == 0) = false := by rw [beq_eq_false_iff_ne]; omega
    have ilt : (x.toNat : Int) < 27 := by omega
    have hw1 : wrap32 ((x.toNat : Int) + 96) = (x.toNat : Int) + 96 := by unfold wrap32; omega
    clear HE HC hn27 h9 h13 h8 h127 h0 hlt
    go_enter Tryd.func11, Tryd.ntmps11
    go_wp2_with (refine wpList_store_row rfl 31 (.tmp 4) (.tmp 46) rfl w.heap.size #[.int .i64 1, .int .i32 ((x.toNat : Int) + 96), .int .i64 0, .int .i64 4] rfl rfl _ _ Z (by kernel_rfl) rfl (one4 _ _ _ _) ?_)
    (try simp only [Exit.inBlock, Exit.then])
    refine bodyPost_ret (v := .tuple #[.agg #[.int .i64 1, .int .i32 ((x.toNat : Int) + 96), .int .i64 0, .int .i64 4], .int .i64 1]) ?_ rfl ⟨rfl, below_setRow kb (Nat.le_refl _) _⟩
    exact results_key_tmp rfl _ _ w.heap.size _ _ _ _ rfl (setRow_heap _ _ _ _ _ _ Z) Tryd.underlying31 rfl (by kernel_rfl) _ rfl
  by_cases hlt2 : x.toNat < 32
  · have e : res = (⟨1, 63, 0, 0⟩, 1) := by
      rw [HE.out, if_pos (by omega), HC.out]
      rw [if_neg h9, if_neg h13, if_neg (by omega), if_neg h0, if_neg (by omega)]
    subst e
    have j9 : ((x.toNat : Int) == 9) = false := by rw [beq_eq_false_iff_ne]; omega
    have j13 : ((x.toNat : Int) == 13) = false := by rw [beq_eq_false_iff_ne]; omega
    have j8 : ((x.toNat : Int) == 8) = false := by rw [beq_eq_false_iff_ne]; omega
    have j127 : ((x.toNat : Int) == 127) = false := by rw [beq_eq_false_iff_ne]; omega
    have j0 : ((x.toNat : Int) == 0) = false := by rw [beq_eq_false_iff_ne]; omega
    have ilt : ¬ (x.toNat : Int) < 27 := by omega
    have ilt2 : (x.toNat : Int) < 32 := by omega
    clear HE HC hn27 h9 h13 h8 h127 h0 hlt hlt2
    go_enter Tryd.func11, Tryd.ntmps11
    go_wp2_with fail
    refine (rune1_any 63 _).mono ?_
    rintro e W1 ⟨rfl, b1⟩
    have hW := held_block b1
    replace kb := kb.trans (b1.mono kb.size)
    go_wp2_with (refine wpList_store_row rfl 31 (.tmp 4) (.tmp 51) rfl w.heap.size #[.int .i64 1, .int .i32 63, .int .i64 0, .int .i64 0] rfl rfl _ _ hW (by kernel_rfl) rfl (one4 _ _ _ _) ?_)
    (try simp only [Exit.inBlock, Exit.then])
    refine bodyPost_ret (v := .tuple #[.agg #[.int .i64 1, .int .i32 63, .int .i64 0, .int .i64 0], .int .i64 1]) ?_ rfl ⟨rfl, below_setRow kb (Nat.le_refl _) _⟩
    exact results_key_tmp rfl _ _ w.heap.size _ _ _ _ rfl (setRow_heap _ _ _ _ _ _ hW) Tryd.underlying31 rfl (by kernel_rfl) _ rfl
  have E1 := HE.out
  rw [if_neg (by omega)] at E1
  clear HE HC
  have HE : Hid (res = if last = false ∧ Prs.full s = false then (zk, 0) else (⟨1, if wd ((Lib.decodeGo s).1 : Int) = 0 then 63 else ((Lib.decodeGo s).1 : Int), 0, 0⟩, (Lib.decodeGo s).2)) := E1
  clear E1
  have j9 : ((x.toNat : Int) == 9) = false := by rw [beq_eq_false_iff_ne]; omega
  have j13 : ((x.toNat : Int) == 13) = false := by rw [beq_eq_false_iff_ne]; omega
  have j8 : ((x.toNat : Int) == 8) = false := by rw [beq_eq_false_iff_ne]; omega
  have j127 : ((x.toNat : Int) == 127) = false := by rw [beq_eq_false_iff_ne]; omega
  have j0 : ((x.toNat : Int) == 0) = false := by rw [beq_eq_false_iff_ne]; omega
  have ilt : ¬ (x.toNat : Int) < 27 := by omega
  have ilt2 : ¬ (x.toNat : Int) < 32 := by omega
  clear hn27 h9 h13 h8 h127 h0 hlt hlt2
  have HF : ∀ W, Env W → Calls Tryd.prog 19 #[.string s] W fun e w' => e = .returned (.bool (Prs.full s)) ∧ Below W.heap.size W w' := fun W h => Prs.fullRune_any s W h.u8
  have HN : ∀ W, Env W → Calls Tryd.prog 20 #[.string s] W fun e w' => e = .returned (.tuple #[.int .i32 (Lib.decodeGo s).1, .int .i64 (Lib.decodeGo s).2]) ∧ Below W.heap.size W w' := fun W h => Tryd.utf8_DecodeRuneInString s W h.u8
  have HW : ∀ W, Calls Tryd.prog 21 #[.int .i32 ((Lib.decodeGo s).1 : Int)] W fun e w' => e = .returned (.int .i64 (wd ((Lib.decodeGo s).1 : Int))) ∧ Below W.heap.size W w' := fun W => Txt.widthOf_any _ W
  have HEN : Hid (∀ W, Below w.heap.size w W → Env W) := fun W h => hE.below h
  clear hE
  generalize Prs.full s = ff at *
  generalize (Lib.decodeGo s).1 = r at *
  generalize (Lib.decodeGo s).2 = z at *
  generalize wd (r : Int) = d at *
  by_cases c2 : last = false ∧ ff = false
  · obtain ⟨rfl, rfl⟩ := c2
    rw [HE.out, if_pos ⟨rfl, rfl⟩]
    clear HE
    go_enter Tryd.func11, Tryd.ntmps11
    go_wp2_with fail
    refine (HF _ (HEN.out _ kb)).mono ?_
    rintro e W1 ⟨rfl, b1⟩
    have hW := held_block b1
    replace kb := kb.trans (b1.mono kb.size)
    go_wp2_with (refine wpList_store_row rfl 31 (.tmp 4) (.tmp 59) rfl w.heap.size #[.int .i64 0, .int .i32 0, .int .i64 0, .int .i64 0] rfl rfl _ _ hW (by kernel_rfl) rfl (one4 _ _ _ _) ?_)
    (try simp only [Exit.inBlock, Exit.then])
    refine bodyPost_ret (v := .tuple #[.agg #[.int .i64 0, .int .i32 0, .int .i64 0, .int .i64 0], .int .i64 0]) ?_ rfl ⟨rfl, below_setRow kb (Nat.le_refl _) _⟩
    exact results_key_tmp rfl _ _ w.heap.size _ _ _ _ rfl (setRow_heap _ _ _ _ _ _ hW) Tryd.underlying31 rfl (by kernel_rfl) _ rfl
  · rw [HE.out, if_neg c2]
    clear HE
    by_cases c3 : d = 0
    · rw [if_pos c3]
      subst c3
      cases last
      · have hff : ff = true := by simpa using c2
        subst hff
        go_enter Tryd.func11, Tryd.ntmps11
        go_wp2_with fail
        refine (HF _ (HEN.out _ kb)).mono ?_
        rintro e W1 ⟨rfl, b1⟩
        have hW := held_block b1
        replace kb := kb.trans (b1.mono kb.size)
        go_wp2_with fail
        refine (HN _ (HEN.out _ kb)).mono ?_
        rintro e W2 ⟨rfl, b2⟩
        have hW2 := by_block hW b2
        replace kb := kb.trans (b2.mono kb.size)
        go_wp2_with fail
        refine (HW _).mono ?_
        rintro e W3 ⟨rfl, b3⟩
        have hW3 := by_block hW2 b3
        replace kb := kb.trans (b3.mono kb.size)
        go_wp2_with fail
        refine (rune1_any 63 _).mono ?_
        rintro e W4 ⟨rfl, b4⟩
        have hW4 := by_block hW3 b4
        replace kb := kb.trans (b4.mono kb.size)
        go_wp2_with (refine wpList_store_row rfl 31 (.tmp 4) (.tmp 70) rfl w.heap.size #[.int .i64 1, .int .i32 63, .int .i64 0, .int .i64 0] rfl rfl _ _ hW4 (by kernel_rfl) rfl (one4 _ _ _ _) ?_)
        (try simp only [Exit.inBlock, Exit.then])
        refine bodyPost_ret (v := .tuple #[.agg #[.int .i64 1, .int .i32 63, .int .i64 0, .int .i64 0], .int .i64 z]) ?_ rfl ⟨rfl, below_setRow kb (Nat.le_refl _) _⟩
        exact results_key_tmp rfl _ _ w.heap.size _ _ _ _ rfl (setRow_heap _ _ _ _ _ _ hW4) Tryd.underlying31 rfl (by kernel_rfl) _ rfl
      · clear HF c2
        go_enter Tryd.func11, Tryd.ntmps11
        go_wp2_with fail
        refine (HN _ (HEN.out _ kb)).mono ?_
        rintro e W2 ⟨rfl, b2⟩
        have hW2 := held_block b2
        replace kb := kb.trans (b2.mono kb.size)
        go_wp2_with fail
        refine (HW _).mono ?_
        rintro e W3 ⟨rfl, b3⟩
        have hW3 := by_block hW2 b3
        replace kb := kb.trans (b3.mono kb.size)
        go_wp2_with fail
        refine (rune1_any 63 _).mono ?_
        rintro e W4 ⟨rfl, b4⟩
        have hW4 := by_block hW3 b4
        replace kb := kb.trans (b4.mono kb.size)
        go_wp2_with (refine wpList_store_row rfl 31 (.tmp 4) (.tmp 70) rfl w.heap.size #[.int .i64 1, .int .i32 63, .int .i64 0, .int .i64 0] rfl rfl _ _ hW4 (by kernel_rfl) rfl (one4 _ _ _ _) ?_)
        (try simp only [Exit.inBlock, Exit.then])
        refine bodyPost_ret (v := .tuple #[.agg #[.int .i64 1, .int .i32 63, .int .i64 0, .int .i64 0], .int .i64 z]) ?_ rfl ⟨rfl, below_setRow kb (Nat.le_refl _) _⟩
        exact results_key_tmp rfl _ _ w.heap.size _ _ _ _ rfl (setRow_heap _ _ _ _ _ _ hW4) Tryd.underlying31 rfl (by kernel_rfl) _ rfl
    · rw [if_neg c3]
      have q3 : (d == 0) = false := by rw [beq_eq_false_iff_ne]; exact c3
      cases last
      · have hff : ff = true := by simpa using c2
        subst hff
        go_enter Tryd.func11, Tryd.ntmps11
        go_wp2_with fail
        refine (HF _ (HEN.out _ kb)).mono ?_
        rintro e W1 ⟨rfl, b1⟩
        have hW := held_block b1
        replace kb := kb.trans (b1.mono kb.size)
        go_wp2_with fail
        refine (HN _ (HEN.out _ kb)).mono ?_
        rintro e W2 ⟨rfl, b2⟩
        have hW2 := by_block hW b2
        replace kb := kb.trans (b2.mono kb.size)
        go_wp2_with fail
        refine (HW _).mono ?_
        rintro e W3 ⟨rfl, b3⟩
        have hW3 := by_block hW2 b3
        replace kb := kb.trans (b3.mono kb.size)
        go_wp2_with fail
        refine (rune1_any (r : Int) _).mono ?_
        rintro e W4 ⟨rfl, b4⟩
        have hW4 := by_block hW3 b4
        replace kb := kb.trans (b4.mono kb.size)
        go_wp2_with (refine wpList_store_row rfl 31 (.tmp 4) (.tmp 70) rfl w.heap.size #[.int .i64 1, .int .i32 (r : Int), .int .i64 0, .int .i64 0] rfl rfl _ _ hW4 (by kernel_rfl) rfl (one4 _ _ _ _) ?_)
        (try simp only [Exit.inBlock, Exit.then])
        refine bodyPost_ret (v := .tuple #[.agg #[.int .i64 1, .int .i32 (r : Int), .int .i64 0, .int .i64 0], .int .i64 z]) ?_ rfl ⟨rfl, below_setRow kb (Nat.le_refl _) _⟩
        exact results_key_tmp rfl _ _ w.heap.size _ _ _ _ rfl (setRow_heap _ _ _ _ _ _ hW4) Tryd.underlying31 rfl (by kernel_rfl) _ rfl
      · clear HF c2
        go_enter Tryd.func11, Tryd.ntmps11
        go_wp2_with fail
        refine (HN _ (HEN.out _ kb)).mono ?_
        rintro e W2 ⟨rfl, b2⟩
        have hW2 := held_block b2
        replace kb := kb.trans (b2.mono kb.size)
        go_wp2_with fail
        refine (HW _).mono ?_
        rintro e W3 ⟨rfl, b3⟩
        have hW3 := by_block hW2 b3
        replace kb := kb.trans (b3.mono kb.size)
        go_wp2_with fail
        refine (rune1_any (r : Int) _).mono ?_
        rintro e W4 ⟨rfl, b4⟩
        have hW4 := by_block hW3 b4
        replace kb := kb.trans (b4.mono kb.size)
        go_wp2_with (refine wpList_store_row rfl 31 (.tmp 4) (.tmp 70) rfl w.heap.size #[.int .i64 1, .int .i32 (r : Int), .int .i64 0, .int .i64 0] rfl rfl _ _ hW4 (by kernel_rfl) rfl (one4 _ _ _ _) ?_)
        (try simp only [Exit.inBlock, Exit.then])
        refine bodyPost_ret (v := .tuple #[.agg #[.int .i64 1, .int .i32 (r : Int), .int .i64 0, .int .i64 0], .int .i64 z]) ?_ rfl ⟨rfl, below_setRow kb (Nat.le_refl _) _⟩
        exact results_key_tmp rfl _ _ w.heap.size _ _ _ _ rfl (setRow_heap _ _ _ _ _ _ hW4) Tryd.underlying31 rfl (by kernel_rfl) _ rfl
end Kys
end Go.Proofs.YtplceodnllcimaaDoor

/- The reference's firstKey, behind ESC. (Written by gen_keysreff.py.) -/
namespace Go.Proofs.YtplceodnllcimaaDoor
open Go.ChangeShapes Go.WideShapes Go.ChangeAt Go.RowKit Go.Maps
namespace Kys
open Txt (wd bs dec)
theorem ext_first (s : ByteArray) (h : 1 < s.size) : s[1]'h = (s.extract 1 s.size)[0]'(by rw [ByteArray.size_extract]; omega) := by
  have h1 := get_zero s 1 h
  have h2 := get_zero (s.extract 1 s.size) 0 (by rw [ByteArray.size_extract]; omega)
  rw [← h1, ← h2, ext_one]
  simp [List.getD_eq_getElem?_getD]
def numsB : List UInt8 := [48, 49, 50, 51, 52, 53, 54, 55, 56, 57, 59]
theorem idx_num (x : UInt8) : isNum x = decide (0 ≤ Lib.indexByte (⟨#[48, 49, 50, 51, 52, 53, 54, 55, 56, 57, 59]⟩ : ByteArray).data.toList (((x.toNat : Nat) : Int)).toNat.toUInt8) := by
  have h : ∀ i ∈ List.range 256, isNum (UInt8.ofNat i) = decide (0 ≤ Lib.indexByte numsB (UInt8.ofNat i)) := by decide +kernel
  have := h x.toNat (List.mem_range.2 x.toNat_lt)
  rw [UInt8.ofNat_toNat] at this
  rw [this, Int.toNat_natCast]
  unfold Nat.toUInt8
  rw [UInt8.ofNat_toNat]
  rfl
theorem ahead_nums : ∀ (f : Nat) (l : List UInt8), ∀ c ∈ l.take (aheadF f l), isNum c = true
  | 0, l, c, hc => by simp [aheadF] at hc
  | f + 1, [], c, hc => by simp at hc
  | f + 1, x :: r, c, hc => by
    unfold aheadF at hc
    split at hc
    · rename_i hx
      rw [List.take_succ_cons] at hc
      rcases List.mem_cons.1 hc with rfl | hc
      · exact hx
      · exact ahead_nums f r c hc
    · simp at hc
theorem firstL_27 (l : List UInt8) (last : Bool) (h : l.getD 0 0 = 27) : firstL l last = if l.length = 1 then unendedL last
  else if l.getD 1 0 = 91 ∨ l.getD 1 0 = 79 then seqL l last
  else if l.getD 1 0 = 27 ∨ l.getD 1 0 = 9 then (kEsc, 1)
  else if (plainL (l.drop 1) last).2 = 0 then (zk, 0)
  else ({ (plainL (l.drop 1) last).1 with held := alt (plainL (l.drop 1) last).1.held }, 1 + (plainL (l.drop 1) last).2) := by
  unfold firstL
  rw [if_neg (fun hn => hn h)]
set_option linter.unusedVariables false in
set_option maxHeartbeats 8000000 in
set_option maxRecDepth 100000 in
theorem firstR_one (s : ByteArray) (last : Bool) (hs : s.size ≤ 1048576) (h0l : 0 < s.size) (h27 : s[0]'h0l = 27) (h1 : s.size = 1) (w : World) (hE : EnvR w) : Calls Tryd.prog 11 #[.string s, .bool last] w fun e w' => e = .returned (.tuple #[kyv (firstL s.data.toList last).1, .int .i64 ((firstL s.data.toList last).2 : Nat)]) ∧ Below w.heap.size w w' := by
  have kb := kb_z w
  have Z := hz w
  have hsz : s.data.toList.length = s.size := Array.length_toList
  have hg0 : s.data.toList.getD 0 0 = 27 := by rw [get_zero s 0 h0l]; exact h27
  have HR := firstL_27 s.data.toList last hg0
  rw [hsz] at HR
  rw [HR]
  clear HR hg0
  have i0 : (0 : Int) < (s.size : Int) := by omega
  rw [if_pos h1]
  have i1 : ((s.size : Int) == 1) = true := by rw [beq_iff_eq]; omega
  clear h1 hE hsz hs
  cases last
  · go_enter Tryd.func11, Tryd.ntmps11
    go_wp2_with (refine wpList_store_row rfl 31 (.tmp 4) (.tmp 77) rfl w.heap.size #[.int .i64 0, .int .i32 0, .int .i64 0, .int .i64 0] rfl rfl _ _ Z (by kernel_rfl) rfl (one4 _ _ _ _) ?_)
    (try simp only [Exit.inBlock, Exit.then])
    refine bodyPost_ret (v := .tuple #[.agg #[.int .i64 0, .int .i32 0, .int .i64 0, .int .i64 0], .int .i64 0]) ?_ rfl ⟨rfl, below_setRow kb (Nat.le_refl _) _⟩
    exact results_key_tmp rfl _ _ w.heap.size _ _ _ _ rfl (setRow_heap _ _ _ _ _ _ Z) Tryd.underlying31 rfl (by kernel_rfl) _ rfl
  · go_enter Tryd.func11, Tryd.ntmps11
    go_wp2_with (refine wpList_store_row rfl 31 (.tmp 4) (.tmp 76) rfl w.heap.size #[.int .i64 5, .int .i32 0, .int .i64 0, .int .i64 0] rfl rfl _ _ Z (by kernel_rfl) rfl (one4 _ _ _ _) ?_)
    (try simp only [Exit.inBlock, Exit.then])
    refine bodyPost_ret (v := .tuple #[.agg #[.int .i64 5, .int .i32 0, .int .i64 0, .int .i64 0], .int .i64 1]) ?_ rfl ⟨rfl, below_setRow kb (Nat.le_refl _) _⟩
    exact results_key_tmp rfl _ _ w.heap.size _ _ _ _ rfl (setRow_heap _ _ _ _ _ _ Z) Tryd.underlying31 rfl (by kernel_rfl) _ rfl
set_option linter.unusedVariables false in
set_option maxHeartbeats 8000000 in
set_option maxRecDepth 100000 in
theorem firstR_two (s : ByteArray) (last : Bool) (hs : s.size ≤ 1048576) (h0l : 0 < s.size) (h27 : s[0]'h0l = 27) (h1l : 1 < s.size) (hy : s[1]'h1l = 27 ∨ s[1]'h1l = 9) (w : World) (hE : EnvR w) : Calls Tryd.prog 11 #[.string s, .bool last] w fun e w' => e = .returned (.tuple #[kyv (firstL s.data.toList last).1, .int .i64 ((firstL s.data.toList last).2 : Nat)]) ∧ Below w.heap.size w w' := by
  have kb := kb_z w
  have Z := hz w
  have hsz : s.data.toList.length = s.size := Array.length_toList
  have hg0 : s.data.toList.getD 0 0 = 27 := by rw [get_zero s 0 h0l]; exact h27
  have HR := firstL_27 s.data.toList last hg0
  rw [hsz] at HR
  rw [HR]
  clear HR hg0
  have i0 : (0 : Int) < (s.size : Int) := by omega
  have hg1 : s.data.toList.getD 1 0 = s[1]'h1l := get_zero s 1 h1l
  rw [if_neg (by omega), hg1, if_neg (by rintro (h | h) <;> rcases hy with e | e <;> rw [e] at h <;> cases h), if_pos hy]
  have i1 : ((s.size : Int) == 1) = false := by rw [beq_eq_false_iff_ne]; omega
  have i2 : (1 : Int) < (s.size : Int) := by omega
  have i3 : (1 : Int) ≤ (s.size : Int) := by omega
  clear hg1 hE hsz hs
  rcases hy with hy | hy
  · go_enter Tryd.func11, Tryd.ntmps11
    go_wp2_with (refine wpList_store_row rfl 31 (.tmp 4) (.tmp 83) rfl w.heap.size #[.int .i64 5, .int .i32 0, .int .i64 0, .int .i64 0] rfl rfl _ _ Z (by kernel_rfl) rfl (one4 _ _ _ _) ?_)
    (try simp only [Exit.inBlock, Exit.then])
    refine bodyPost_ret (v := .tuple #[.agg #[.int .i64 5, .int .i32 0, .int .i64 0, .int .i64 0], .int .i64 1]) ?_ rfl ⟨rfl, below_setRow kb (Nat.le_refl _) _⟩
    exact results_key_tmp rfl _ _ w.heap.size _ _ _ _ rfl (setRow_heap _ _ _ _ _ _ Z) Tryd.underlying31 rfl (by kernel_rfl) _ rfl
  · go_enter Tryd.func11, Tryd.ntmps11
    go_wp2_with (refine wpList_store_row rfl 31 (.tmp 4) (.tmp 83) rfl w.heap.size #[.int .i64 5, .int .i32 0, .int .i64 0, .int .i64 0] rfl rfl _ _ Z (by kernel_rfl) rfl (one4 _ _ _ _) ?_)
    (try simp only [Exit.inBlock, Exit.then])
    refine bodyPost_ret (v := .tuple #[.agg #[.int .i64 5, .int .i32 0, .int .i64 0, .int .i64 0], .int .i64 1]) ?_ rfl ⟨rfl, below_setRow kb (Nat.le_refl _) _⟩
    exact results_key_tmp rfl _ _ w.heap.size _ _ _ _ rfl (setRow_heap _ _ _ _ _ _ Z) Tryd.underlying31 rfl (by kernel_rfl) _ rfl
set_option linter.unusedVariables false in
set_option maxHeartbeats 8000000 in
set_option maxRecDepth 100000 in
theorem firstR_other (s : ByteArray) (last : Bool) (hs : s.size ≤ 1048576) (h0l : 0 < s.size) (h27 : s[0]'h0l = 27) (h1l : 1 < s.size) (h27y : s[1]'h1l ≠ 27) (h9 : s[1]'h1l ≠ 9) (h91 : s[1]'h1l ≠ 91) (h79 : s[1]'h1l ≠ 79) (w : World) (hE : EnvR w) : Calls Tryd.prog 11 #[.string s, .bool last] w fun e w' => e = .returned (.tuple #[kyv (firstL s.data.toList last).1, .int .i64 ((firstL s.data.toList last).2 : Nat)]) ∧ Below w.heap.size w w' := by
  have kb := kb_z w
  have Z := hz w
  have hsz : s.data.toList.length = s.size := Array.length_toList
  have hg0 : s.data.toList.getD 0 0 = 27 := by rw [get_zero s 0 h0l]; exact h27
  have HR := firstL_27 s.data.toList last hg0
  rw [hsz] at HR
  rw [HR]
  clear HR hg0
  have i0 : (0 : Int) < (s.size : Int) := by omega
  have hg1 : s.data.toList.getD 1 0 = s[1]'h1l := get_zero s 1 h1l
  rw [if_neg (by omega), hg1, if_neg (fun h => h.elim h91 h79), if_neg (fun h => h.elim h27y h9)]
  have i1 : ((s.size : Int) == 1) = false := by rw [beq_eq_false_iff_ne]; omega
  have i2 : (1 : Int) < (s.size : Int) := by omega
  have i3 : (1 : Int) ≤ (s.size : Int) := by omega
  have hx1 : (s.extract 1 s.size)[0]'(by rw [ByteArray.size_extract]; omega) ≠ 27 := by
    intro h
    apply h27y
    rw [← h]
    exact ext_first s h1l
  have HP := firstR_plain (s.extract 1 s.size) last (by rw [ByteArray.size_extract]; omega) hx1 _ (hE.env.below kb)
  rw [ext_one] at HP
  have hho := plain_held (s.data.toList.drop 1) last
  have hpl := plain_le (s.data.toList.drop 1) last (by intro h; have := congrArg List.length h; rw [List.length_drop, hsz] at this; simp at this; omega)
  rw [List.length_drop, hsz] at hpl
  obtain ⟨pp, hpp⟩ : ∃ pp, plainL (s.data.toList.drop 1) last = pp := ⟨_, rfl⟩
  rw [hpp] at HP hho hpl ⊢
  clear hpp hx1 hg1 hE hsz
  have j27 : (((s[1]'h1l).toNat : Int) == 27) = false := by rw [show (27 : Int) = ((27 : UInt8).toNat : Int) from rfl, u8_is, decide_eq_false h27y]
  have j9 : (((s[1]'h1l).toNat : Int) == 9) = false := by rw [show (9 : Int) = ((9 : UInt8).toNat : Int) from rfl, u8_is, decide_eq_false h9]
  have j91 : (((s[1]'h1l).toNat : Int) == 91) = false := by rw [show (91 : Int) = ((91 : UInt8).toNat : Int) from rfl, u8_is, decide_eq_false h91]
  have j79 : (((s[1]'h1l).toNat : Int) == 79) = false := by rw [show (79 : Int) = ((79 : UInt8).toNat : Int) from rfl, u8_is, decide_eq_false h79]
  clear h27y h9 h91 h79
  obtain ⟨⟨kd, rr, nn, hh⟩, z⟩ := pp
  simp only at hho hpl ⊢
  unfold kyv at HP
  simp only at HP
  by_cases c5 : z = 0
  · rw [if_pos c5]
    subst c5
    clear hho hpl
    go_enter Tryd.func11, Tryd.ntmps11
    go_wp2_with fail
    refine HP.mono ?_
    rintro e W2 ⟨rfl, b2⟩
    have z2 := held_block b2
    replace kb := kb.trans (b2.mono kb.size)
    have z3 := by_block z2 ((Below.refl _ _).alloc (Nat.le_refl _) (.cells #[.int .i64 kd, .int .i32 rr, .int .i64 nn, .int .i64 hh] 31))
    have k3 := kb.alloc kb.size (.cells #[.int .i64 kd, .int .i32 rr, .int .i64 nn, .int .i64 hh] 31)
    go_wp2_with (refine wpList_store_row rfl 31 (.tmp 4) (.tmp 152) rfl w.heap.size #[.int .i64 0, .int .i32 0, .int .i64 0, .int .i64 0] rfl rfl _ _ z3 (by kernel_rfl) rfl (one4 _ _ _ _) ?_)
    (try simp only [Exit.inBlock, Exit.then])
    refine bodyPost_ret (v := .tuple #[.agg #[.int .i64 0, .int .i32 0, .int .i64 0, .int .i64 0], .int .i64 0]) ?_ rfl ⟨rfl, below_setRow k3 (Nat.le_refl _) _⟩
    exact results_key_tmp rfl _ _ w.heap.size _ _ _ _ rfl (setRow_heap _ _ _ _ _ _ z3) Tryd.underlying31 rfl (by kernel_rfl) _ rfl
  · rw [if_neg c5]
    have ho := or_two hh hho
    have iz : ((z : Int) == 0) = false := by rw [beq_eq_false_iff_ne]; omega
    have hw : wrap64 ((z : Int) + 1) = (z : Int) + 1 := by unfold wrap64; omega
    have hc : ((1 + z : Nat) : Int) = (z : Int) + 1 := by omega
    have HHO : Hid (hh = 0 ∨ hh = 4) := hho
    clear hho
    unfold kyv
    simp only
    rw [hc]
    clear hc
    go_enter Tryd.func11, Tryd.ntmps11
    go_wp2_with fail
    refine HP.mono ?_
    rintro e W2 ⟨rfl, b2⟩
    have z2 := held_block b2
    replace kb := kb.trans (b2.mono kb.size)
    have z3 := by_block z2 ((Below.refl _ _).alloc (Nat.le_refl _) (.cells #[.int .i64 kd, .int .i32 rr, .int .i64 nn, .int .i64 (alt hh)] 31))
    have k3 := kb.alloc kb.size (.cells #[.int .i64 kd, .int .i32 rr, .int .i64 nn, .int .i64 (alt hh)] 31)
    go_wp2_with (refine wpList_store_row rfl 31 (.tmp 4) (.tmp 157) rfl w.heap.size #[.int .i64 kd, .int .i32 rr, .int .i64 nn, .int .i64 (alt hh)] rfl rfl _ _ z3 (by kernel_rfl) rfl (one4 _ _ _ _) ?_)
    (try simp only [Exit.inBlock, Exit.then])
    refine bodyPost_ret (v := .tuple #[.agg #[.int .i64 kd, .int .i32 rr, .int .i64 nn, .int .i64 (alt hh)], .int .i64 ((z : Int) + 1)]) ?_ rfl ⟨rfl, below_setRow k3 (Nat.le_refl _) _⟩
    exact results_key_tmp rfl _ _ w.heap.size _ _ _ _ rfl (setRow_heap _ _ _ _ _ _ z3) Tryd.underlying31 rfl (by kernel_rfl) _ rfl
set_option linter.unusedVariables false in
set_option maxHeartbeats 8000000 in
set_option maxRecDepth 100000 in
theorem firstR_br (s : ByteArray) (last : Bool) (hs : s.size ≤ 1048576) (h0l : 0 < s.size) (h27 : s[0]'h0l = 27) (h1l : 1 < s.size) (h91 : s[1]'h1l = 91) (w : World) (hE : EnvR w) : Calls Tryd.prog 11 #[.string s, .bool last] w fun e w' => e = .returned (.tuple #[kyv (firstL s.data.toList last).1, .int .i64 ((firstL s.data.toList last).2 : Nat)]) ∧ Below w.heap.size w w' := by
  have kb := kb_z w
  have Z := hz w
  have hsz : s.data.toList.length = s.size := Array.length_toList
  have hg0 : s.data.toList.getD 0 0 = 27 := by rw [get_zero s 0 h0l]; exact h27
  have HR := firstL_27 s.data.toList last hg0
  rw [hsz] at HR
  rw [HR]
  clear HR hg0
  have i0 : (0 : Int) < (s.size : Int) := by omega
  have hg1 : s.data.toList.getD 1 0 = 91 := by rw [get_zero s 1 h1l]; exact h91
  rw [if_neg (by omega), if_pos (.inl hg1)]
  have i1 : ((s.size : Int) == 1) = false := by rw [beq_eq_false_iff_ne]; omega
  have i2 : (1 : Int) < (s.size : Int) := by omega
  have i3 : (1 : Int) ≤ (s.size : Int) := by omega
  have HEN : Hid (2 + aheadF 10 (s.data.toList.drop 2) = endL s.data.toList) := by unfold Hid endL; rw [if_pos hg1]
  have hres : seqL s.data.toList last = if endL s.data.toList = s.size then unendedL last else match toldL 91 ((s.data.toList.drop 2).take (endL s.data.toList - 2)) (s.data.toList.getD (endL s.data.toList) 0) with
    | none => (kEsc, 1)
    | some k => (k, endL s.data.toList + 1) := by unfold seqL; rw [hg1, hsz] <;> rfl
  rw [hres]
  clear hres hg1
  have hnum : ∀ c ∈ (s.data.toList.drop 2).take (endL s.data.toList - 2), isNum c = true := by
    rw [← HEN.out, Nat.add_sub_cancel_left]
    exact ahead_nums 10 _
  generalize endL s.data.toList = EN at *
  have HEE : Hid (∀ W, Below w.heap.size w W → EnvR W) := fun W h => hE.below h
  have HI := fun (x : UInt8) W => Tryd.strings_IndexByte ⟨#[48, 49, 50, 51, 52, 53, 54, 55, 56, 57, 59]⟩ (x.toNat : Int) W
  have HNUM : Hid (∀ c ∈ (s.data.toList.drop 2).take (EN - 2), isNum c = true) := hnum
  obtain ⟨res, hres⟩ : ∃ res, (if EN = s.size then unendedL last else match toldL 91 ((s.data.toList.drop 2).take (EN - 2)) (s.data.toList.getD EN 0) with
    | none => (kEsc, 1)
    | some k => (k, EN + 1)) = res := ⟨_, rfl⟩
  have HRES : Hid ((if EN = s.size then unendedL last else match toldL 91 ((s.data.toList.drop 2).take (EN - 2)) (s.data.toList.getD EN 0) with
    | none => (kEsc, 1)
    | some k => (k, EN + 1)) = res) := hres
  rw [hres]
  have HSZ : Hid (s.size ≤ 1048576) := hs
  clear hE hnum hres hsz
  go_enter Tryd.func11, Tryd.ntmps11
  go_wp2_with fail
  go_loopg [10] 10 (fun g v wr => ∃ en : Nat, 2 ≤ en ∧ en ≤ 12 ∧ en ≤ s.size ∧ 12 - en ≤ g ∧ v = .int .i64 (en : Int) ∧ Below w.heap.size w wr ∧ wr.heap[w.heap.size]? = some (.cells #[.int .i64 0, .int .i32 0, .int .i64 0, .int .i64 0] 31 (0, 0)) ∧ aheadF (12 - en) (s.data.toList.drop en) + en = EN)
  case atStart => exact ⟨2, Nat.le_refl _, by omega, by omega, Nat.le_refl _, rfl, kb, Z, by rw [← HEN.out, Nat.add_comm]⟩
  case round =>
    obtain ⟨en, hn2, hn12, hns, hgg, rfl, k1, z1, hl⟩ := hrel
    have HL : Hid (aheadF (12 - en) (s.data.toList.drop en) + en = EN) := hl
    clear hl kb Z HEN
    by_cases e1 : en < s.size
    · have e1i : (en : Int) < (s.size : Int) := by omega
      obtain ⟨x, hx⟩ : ∃ x, s[en]'e1 = x := ⟨_, rfl⟩
      have HD : Hid (s.data.toList.drop en = x :: s.data.toList.drop (en + 1)) := by
        unfold Hid
        rw [drop_cons s en e1, hx]
      have hgx : s.data.toList.getD en 0 = x := by rw [get_zero s en e1]; exact hx
      have HGX : Hid (s.data.toList.getD en 0 = x) := hgx
      clear hgx
      have HX := idx_num x
      have HI := HI x
      generalize Lib.indexByte (⟨#[48, 49, 50, 51, 52, 53, 54, 55, 56, 57, 59]⟩ : ByteArray).data.toList (((x.toNat : Nat) : Int)).toNat.toUInt8 = v at *
      have hw : wrap64 ((en : Int) + 1) = (en : Int) + 1 := by unfold wrap64; omega
      have stop : Hid (EN = en → ((res = (kEsc, 1) ∧ keyOfL (s.extract 2 en).data.toList x = none) ∨ ∃ k, keyOfL (s.extract 2 en).data.toList x = some k ∧ res = (k, en + 1)) ∧ ∀ c ∈ (s.extract 2 en).data.toList, isNum c = true) := by
        intro h
        have hn := HNUM.out
        have hr := HRES.out
        rw [h] at hn hr
        rw [if_neg (by omega), HGX.out, ← ext_mid] at hr
        rw [← ext_mid] at hn
        refine ⟨?_, hn⟩
        rw [keyOf_told _ x hn]
        cases ht : toldL 91 (s.extract 2 en).data.toList x with
        | none => rw [ht] at hr; exact .inl ⟨hr.symm, rfl⟩
        | some k => rw [ht] at hr; exact .inr ⟨k, rfl, hr.symm⟩
      by_cases e2 : en < 12
      · have e2i : (en : Int) < 12 := by omega
        obtain ⟨q, hq⟩ : ∃ q, 12 - en = q + 1 := ⟨12 - en - 1, by omega⟩
        cases hn : isNum x with
        | true =>
          rw [hn] at HX
          have hv : 0 ≤ v := by simpa using HX.symm
          have HN : Hid (isNum x = true) := hn
          clear HX hn
          go_wp2_with fail
          refine (HI _).mono ?_
          rintro e W2 ⟨rfl, hW2⟩
          subst hW2
          go_wp2_with fail
          go_roundg (12 - (en + 1))
          case measure => omega
          case rel => exact ⟨en + 1, by omega, by omega, by omega, by omega, by go_num, k1, z1, by rw [← HL.out, HD.out, hq]; simp only [aheadF]; rw [if_pos HN.out, show 12 - (en + 1) = q by omega]; omega⟩
        | false =>
          rw [hn] at HX
          have hv : ¬ 0 ≤ v := by simpa using HX.symm
          have he : EN = en := by
            rw [← HL.out, HD.out, hq]
            simp only [aheadF]
            rw [if_neg (by rw [hn]; simp)]
            omega
          obtain ⟨hst, hnn⟩ := stop.out he
          have HT0 := fun W (h : Below wr.heap.size wr W) => keyOf_any (s.extract 2 en) x (by rw [ByteArray.size_extract]; omega) hnn W (HEE.out W (k1.trans (h.mono k1.size)))
          clear HX hn HL HD stop HNUM HRES HGX hnn HEE HSZ he
          go_wp2_with fail
          refine (HI _).mono ?_
          rintro e Wq ⟨rfl, hW2⟩
          subst hW2
          have heq : ((en : Int) == (s.size : Int)) = false := by rw [beq_eq_false_iff_ne]; omega
          have hlo : (2 : Int) ≤ (en : Int) := by omega
          have hle : (en : Int) ≤ (s.size : Int) := by omega
          rcases hst with ⟨e, hko⟩ | ⟨⟨kd, rr, nn, hh⟩, hko, e⟩
          · subst e
            have HT : ∀ W, Below Wq.heap.size Wq W → Calls Tryd.prog 23 #[.string (s.extract 2 en), .int .u8 x.toNat] W fun e w' => ∃ a b c d : Int, e = .returned (.tuple #[.agg #[.int .i64 a, .int .i32 b, .int .i64 c, .int .i64 d], .bool false]) ∧ Below W.heap.size W w' := fun W h => (HT0 W h).mono fun e w' ⟨k', he, _, hb'⟩ => ⟨k'.kind, k'.r, k'.n, k'.held, by rw [he, hko]; rfl, hb'⟩
            clear HT0 hko
            go_wp2_with fail
            generalize hgW : Wq = W1 at *
            have b1 : True := trivial
            go_region_with (first | (go_at_call 23; refine (HT _ (by exact ((Below.refl _ _).alloc (Nat.le_refl _) (.cells #[.int .i64 0, .int .i32 0, .int .i64 0, .int .i64 0] 31)).drew)).mono ?_; rintro e W2 ⟨ka, kb, kc, kd, rfl, b2⟩; have zz := held_drew b2; obtain ⟨⟨y0, y1, y2, y3⟩, f0, f1, f2, f3⟩ := four_of zz) | (go_at_call 23; refine (HT _ (by exact (Below.refl _ _).drew)).mono ?_; rintro e W2 ⟨ka, kb, kc, kd, rfl, b2⟩))
            all_goals first
              | (have zz' := zz; clear zz y0 y1 y2 y3 f0 f1 f2 f3 zz'; obtain ⟨v7, vz, kV, hne⟩ := seq_ii (p := .int .i64 ka) (q := .int .i32 kb) (r := .int .i64 kc) (z := .int .i64 kd) k1 z1 b2; generalize (((W2.setCell ⟨W1.heap.size, 0, none⟩ (.int .i64 ka)).setCell ⟨W1.heap.size, 1, none⟩ (.int .i32 kb)).setCell ⟨W1.heap.size, 2, none⟩ (.int .i64 kc)).setCell ⟨W1.heap.size, 3, none⟩ (.int .i64 kd) = V at *; generalize W1.heap.size = B7 at *)
              | (obtain ⟨v7, vz, kV, hne⟩ := seq_i (A := #[.int .i64 ka, .int .i32 kb, .int .i64 kc, .int .i64 kd]) k1 z1 b2; generalize W2.alloc (.cells #[.int .i64 ka, .int .i32 kb, .int .i64 kc, .int .i64 kd] 31) = V at *; generalize W2.heap.size = B7 at *)
            all_goals clear b1 b2
            all_goals obtain ⟨⟨d0, d1, d2, d3⟩, _⟩ := four_cells1 v7
            all_goals go_wp2_with (refine wpList_store_row rfl 31 (.tmp 4) (.tmp 142) rfl w.heap.size #[.int .i64 5, .int .i32 0, .int .i64 0, .int .i64 0] rfl rfl _ _ vz (by kernel_rfl) rfl (one4 _ _ _ _) ?_)
            all_goals (try simp only [Exit.inBlock, Exit.then])
            all_goals refine bodyPost_ret (v := .tuple #[.agg #[.int .i64 5, .int .i32 0, .int .i64 0, .int .i64 0], .int .i64 1]) ?_ rfl ⟨rfl, below_setRow kV (Nat.le_refl _) _⟩
            all_goals exact results_key_tmp rfl _ _ w.heap.size _ _ _ _ rfl (setRow_heap _ _ _ _ _ _ vz) Tryd.underlying31 rfl (by kernel_rfl) _ rfl
          · subst e
            have HT : ∀ W, Below Wq.heap.size Wq W → Calls Tryd.prog 23 #[.string (s.extract 2 en), .int .u8 x.toNat] W fun e w' => e = .returned (.tuple #[.agg #[.int .i64 kd, .int .i32 rr, .int .i64 nn, .int .i64 hh], .bool true]) ∧ Below W.heap.size W w' := fun W h => (HT0 W h).mono fun e w' ⟨k', he, hk, hb'⟩ => ⟨by rw [he, hk _ hko, hko]; rfl, hb'⟩
            clear HT0 hko
            go_wp2_with fail
            generalize hgW : Wq = W1 at *
            have b1 : True := trivial
            go_region_with (first | (go_at_call 23; refine (HT _ (by exact ((Below.refl _ _).alloc (Nat.le_refl _) (.cells #[.int .i64 0, .int .i32 0, .int .i64 0, .int .i64 0] 31)).drew)).mono ?_; rintro e W2 ⟨rfl, b2⟩; have zz := held_drew b2; obtain ⟨⟨y0, y1, y2, y3⟩, f0, f1, f2, f3⟩ := four_of zz) | (go_at_call 23; refine (HT _ (by exact (Below.refl _ _).drew)).mono ?_; rintro e W2 ⟨rfl, b2⟩))
            all_goals first
              | (have zz' := zz; clear zz y0 y1 y2 y3 f0 f1 f2 f3 zz'; obtain ⟨v7, vz, kV, hne⟩ := seq_ii (p := .int .i64 kd) (q := .int .i32 rr) (r := .int .i64 nn) (z := .int .i64 hh) k1 z1 b2; generalize (((W2.setCell ⟨W1.heap.size, 0, none⟩ (.int .i64 kd)).setCell ⟨W1.heap.size, 1, none⟩ (.int .i32 rr)).setCell ⟨W1.heap.size, 2, none⟩ (.int .i64 nn)).setCell ⟨W1.heap.size, 3, none⟩ (.int .i64 hh) = V at *; generalize W1.heap.size = B7 at *)
              | (obtain ⟨v7, vz, kV, hne⟩ := seq_i (A := #[.int .i64 kd, .int .i32 rr, .int .i64 nn, .int .i64 hh]) k1 z1 b2; generalize W2.alloc (.cells #[.int .i64 kd, .int .i32 rr, .int .i64 nn, .int .i64 hh] 31) = V at *; generalize W2.heap.size = B7 at *)
            all_goals clear b1 b2
            all_goals obtain ⟨⟨d0, d1, d2, d3⟩, _⟩ := four_cells1 v7
            all_goals go_wp2_with (refine wpList_store_row rfl 31 (.tmp 4) (.tmp 139) rfl w.heap.size #[.int .i64 kd, .int .i32 rr, .int .i64 nn, .int .i64 hh] rfl rfl _ _ vz (by kernel_rfl) rfl (one4 _ _ _ _) ?_)
            all_goals (try simp only [Exit.inBlock, Exit.then])
            all_goals refine bodyPost_ret (v := .tuple #[.agg #[.int .i64 kd, .int .i32 rr, .int .i64 nn, .int .i64 hh], .int .i64 ((en : Int) + 1)]) ?_ rfl ⟨rfl, below_setRow kV (Nat.le_refl _) _⟩
            all_goals exact results_key_tmp rfl _ _ w.heap.size _ _ _ _ rfl (setRow_heap _ _ _ _ _ _ vz) Tryd.underlying31 rfl (by kernel_rfl) _ rfl
      · have e2i : ¬ (en : Int) < 12 := by omega
        have he : EN = en := by
          rw [← HL.out, show 12 - en = 0 by omega]
          simp [aheadF]
        obtain ⟨hst, hnn⟩ := stop.out he
        have HT0 := fun W (h : Below wr.heap.size wr W) => keyOf_any (s.extract 2 en) x (by rw [ByteArray.size_extract]; omega) hnn W (HEE.out W (k1.trans (h.mono k1.size)))
        clear HX HI HL HD stop HNUM HRES HGX hnn HEE HSZ he
        have heq : ((en : Int) == (s.size : Int)) = false := by rw [beq_eq_false_iff_ne]; omega
        have hlo : (2 : Int) ≤ (en : Int) := by omega
        have hle : (en : Int) ≤ (s.size : Int) := by omega
        rcases hst with ⟨e, hko⟩ | ⟨⟨kd, rr, nn, hh⟩, hko, e⟩
        · subst e
          have HT : ∀ W, Below wr.heap.size wr W → Calls Tryd.prog 23 #[.string (s.extract 2 en), .int .u8 x.toNat] W fun e w' => ∃ a b c d : Int, e = .returned (.tuple #[.agg #[.int .i64 a, .int .i32 b, .int .i64 c, .int .i64 d], .bool false]) ∧ Below W.heap.size W w' := fun W h => (HT0 W h).mono fun e w' ⟨k', he, _, hb'⟩ => ⟨k'.kind, k'.r, k'.n, k'.held, by rw [he, hko]; rfl, hb'⟩
          clear HT0 hko
          go_wp2_with fail
          generalize hgW : wr = W1 at *
          have b1 : True := trivial
          go_region_with (first | (go_at_call 23; refine (HT _ (by exact ((Below.refl _ _).alloc (Nat.le_refl _) (.cells #[.int .i64 0, .int .i32 0, .int .i64 0, .int .i64 0] 31)).drew)).mono ?_; rintro e W2 ⟨ka, kb, kc, kd, rfl, b2⟩; have zz := held_drew b2; obtain ⟨⟨y0, y1, y2, y3⟩, f0, f1, f2, f3⟩ := four_of zz) | (go_at_call 23; refine (HT _ (by exact (Below.refl _ _).drew)).mono ?_; rintro e W2 ⟨ka, kb, kc, kd, rfl, b2⟩))
          all_goals first
            | (have zz' := zz; clear zz y0 y1 y2 y3 f0 f1 f2 f3 zz'; obtain ⟨v7, vz, kV, hne⟩ := seq_ii (p := .int .i64 ka) (q := .int .i32 kb) (r := .int .i64 kc) (z := .int .i64 kd) k1 z1 b2; generalize (((W2.setCell ⟨W1.heap.size, 0, none⟩ (.int .i64 ka)).setCell ⟨W1.heap.size, 1, none⟩ (.int .i32 kb)).setCell ⟨W1.heap.size, 2, none⟩ (.int .i64 kc)).setCell ⟨W1.heap.size, 3, none⟩ (.int .i64 kd) = V at *; generalize W1.heap.size = B7 at *)
            | (obtain ⟨v7, vz, kV, hne⟩ := seq_i (A := #[.int .i64 ka, .int .i32 kb, .int .i64 kc, .int .i64 kd]) k1 z1 b2; generalize W2.alloc (.cells #[.int .i64 ka, .int .i32 kb, .int .i64 kc, .int .i64 kd] 31) = V at *; generalize W2.heap.size = B7 at *)
          all_goals clear b1 b2
          all_goals obtain ⟨⟨d0, d1, d2, d3⟩, _⟩ := four_cells1 v7
          all_goals go_wp2_with (refine wpList_store_row rfl 31 (.tmp 4) (.tmp 142) rfl w.heap.size #[.int .i64 5, .int .i32 0, .int .i64 0, .int .i64 0] rfl rfl _ _ vz (by kernel_rfl) rfl (one4 _ _ _ _) ?_)
          all_goals (try simp only [Exit.inBlock, Exit.then])
          all_goals refine bodyPost_ret (v := .tuple #[.agg #[.int .i64 5, .int .i32 0, .int .i64 0, .int .i64 0], .int .i64 1]) ?_ rfl ⟨rfl, below_setRow kV (Nat.le_refl _) _⟩
          all_goals exact results_key_tmp rfl _ _ w.heap.size _ _ _ _ rfl (setRow_heap _ _ _ _ _ _ vz) Tryd.underlying31 rfl (by kernel_rfl) _ rfl
        · subst e
          have HT : ∀ W, Below wr.heap.size wr W → Calls Tryd.prog 23 #[.string (s.extract 2 en), .int .u8 x.toNat] W fun e w' => e = .returned (.tuple #[.agg #[.int .i64 kd, .int .i32 rr, .int .i64 nn, .int .i64 hh], .bool true]) ∧ Below W.heap.size W w' := fun W h => (HT0 W h).mono fun e w' ⟨k', he, hk, hb'⟩ => ⟨by rw [he, hk _ hko, hko]; rfl, hb'⟩
          clear HT0 hko
          go_wp2_with fail
          generalize hgW : wr = W1 at *
          have b1 : True := trivial
          go_region_with (first | (go_at_call 23; refine (HT _ (by exact ((Below.refl _ _).alloc (Nat.le_refl _) (.cells #[.int .i64 0, .int .i32 0, .int .i64 0, .int .i64 0] 31)).drew)).mono ?_; rintro e W2 ⟨rfl, b2⟩; have zz := held_drew b2; obtain ⟨⟨y0, y1, y2, y3⟩, f0, f1, f2, f3⟩ := four_of zz) | (go_at_call 23; refine (HT _ (by exact (Below.refl _ _).drew)).mono ?_; rintro e W2 ⟨rfl, b2⟩))
          all_goals first
            | (have zz' := zz; clear zz y0 y1 y2 y3 f0 f1 f2 f3 zz'; obtain ⟨v7, vz, kV, hne⟩ := seq_ii (p := .int .i64 kd) (q := .int .i32 rr) (r := .int .i64 nn) (z := .int .i64 hh) k1 z1 b2; generalize (((W2.setCell ⟨W1.heap.size, 0, none⟩ (.int .i64 kd)).setCell ⟨W1.heap.size, 1, none⟩ (.int .i32 rr)).setCell ⟨W1.heap.size, 2, none⟩ (.int .i64 nn)).setCell ⟨W1.heap.size, 3, none⟩ (.int .i64 hh) = V at *; generalize W1.heap.size = B7 at *)
            | (obtain ⟨v7, vz, kV, hne⟩ := seq_i (A := #[.int .i64 kd, .int .i32 rr, .int .i64 nn, .int .i64 hh]) k1 z1 b2; generalize W2.alloc (.cells #[.int .i64 kd, .int .i32 rr, .int .i64 nn, .int .i64 hh] 31) = V at *; generalize W2.heap.size = B7 at *)
          all_goals clear b1 b2
          all_goals obtain ⟨⟨d0, d1, d2, d3⟩, _⟩ := four_cells1 v7
          all_goals go_wp2_with (refine wpList_store_row rfl 31 (.tmp 4) (.tmp 139) rfl w.heap.size #[.int .i64 kd, .int .i32 rr, .int .i64 nn, .int .i64 hh] rfl rfl _ _ vz (by kernel_rfl) rfl (one4 _ _ _ _) ?_)
          all_goals (try simp only [Exit.inBlock, Exit.then])
          all_goals refine bodyPost_ret (v := .tuple #[.agg #[.int .i64 kd, .int .i32 rr, .int .i64 nn, .int .i64 hh], .int .i64 ((en : Int) + 1)]) ?_ rfl ⟨rfl, below_setRow kV (Nat.le_refl _) _⟩
          all_goals exact results_key_tmp rfl _ _ w.heap.size _ _ _ _ rfl (setRow_heap _ _ _ _ _ _ vz) Tryd.underlying31 rfl (by kernel_rfl) _ rfl
    · have e1i : ¬ (en : Int) < (s.size : Int) := by omega
      have he : EN = s.size := by
        rw [← HL.out, List.drop_eq_nil_of_le (by rw [Array.length_toList]; exact Nat.not_lt.1 e1)]
        cases 12 - en <;> simp [aheadF] <;> omega
      have e : res = unendedL last := by rw [← HRES.out, if_pos he]
      have heq : ((en : Int) == (s.size : Int)) = true := by rw [beq_iff_eq]; omega
      subst e
      clear he HL HNUM HRES HEE HSZ HI
      cases last
      · go_wp2_with (refine wpList_store_row rfl 31 (.tmp 4) (.tmp 113) rfl w.heap.size #[.int .i64 0, .int .i32 0, .int .i64 0, .int .i64 0] rfl rfl _ _ z1 (by kernel_rfl) rfl (one4 _ _ _ _) ?_)
        (try simp only [Exit.inBlock, Exit.then])
        refine bodyPost_ret (v := .tuple #[.agg #[.int .i64 0, .int .i32 0, .int .i64 0, .int .i64 0], .int .i64 0]) ?_ rfl ⟨rfl, below_setRow k1 (Nat.le_refl _) _⟩
        exact results_key_tmp rfl _ _ w.heap.size _ _ _ _ rfl (setRow_heap _ _ _ _ _ _ z1) Tryd.underlying31 rfl (by kernel_rfl) _ rfl
      · go_wp2_with (refine wpList_store_row rfl 31 (.tmp 4) (.tmp 112) rfl w.heap.size #[.int .i64 5, .int .i32 0, .int .i64 0, .int .i64 0] rfl rfl _ _ z1 (by kernel_rfl) rfl (one4 _ _ _ _) ?_)
        (try simp only [Exit.inBlock, Exit.then])
        refine bodyPost_ret (v := .tuple #[.agg #[.int .i64 5, .int .i32 0, .int .i64 0, .int .i64 0], .int .i64 1]) ?_ rfl ⟨rfl, below_setRow k1 (Nat.le_refl _) _⟩
        exact results_key_tmp rfl _ _ w.heap.size _ _ _ _ rfl (setRow_heap _ _ _ _ _ _ z1) Tryd.underlying31 rfl (by kernel_rfl) _ rfl
end Kys
end Go.Proofs.YtplceodnllcimaaDoor

/- Package keys: Read. -/
namespace Go.Proofs.YtplceodnllcimaaDoor
open Go.ChangeShapes Go.WideShapes Go.ChangeAt Go.RowKit
namespace Kys
open Txt (wd bs dec)
def kc (k : Ky) : List Value := [.int .i64 k.kind, .int .i32 k.r, .int .i64 k.n, .int .i64 k.held]
def flatK (ks : List Ky) : List Value := ks.flatMap kc
/-- A row of keys in a block of its own. -/
def OwnK (w : World) (base : Nat) (v : Value) (ks : List Ky) : Prop := w.ownsRow base 31 4 v ks.length (flatK ks)
theorem ownsRow_below {w w' : World} {base : Nat} {e : TypeId} {size : Nat} {v : Value} {n : Nat} {xs : List Value} (h : w.ownsRow base e size v n xs) (hb : Below w.heap.size w w') : w'.ownsRow base e size v n xs := by
  refine ⟨h.1, ?_⟩
  rcases h.2 with h2 | ⟨g, cap, cur, hv, hg, hh, r⟩
  · exact .inl h2
  · exact .inr ⟨g, cap, cur, hv, hg, by rw [hb.block g (Array.getElem?_eq_some_iff.1 hh).1]; exact hh, r⟩
theorem own_from {w : World} {base : Nat} {e : TypeId} {size : Nat} {v : Value} {n : Nat} {xs : List Value} (h : w.ownsRow base e size v n xs) : ∀ k, v.ownBlock = some k → base ≤ k := by
  intro k hk
  obtain ⟨_, h | ⟨q, cap, cur, rfl, hq, _⟩⟩ := h
  · rw [h.1] at hk; simp [Value.ownBlock] at hk
  · simp only [Value.ownBlock, Option.some.injEq] at hk; omega
theorem info_key : (Tryd.prog.info? 31).map (fun i => (i.zero, i.size, i.bytes)) = some (some (.agg #[.int .i64 0, .int .i32 0, .int .i64 0, .int .i64 0]), 4, 32) := by kernel_rfl
theorem und_keys : Tryd.prog.underlying 22 = some (.slice 31) := by kernel_rfl
theorem news_key (W : World) (a b c d : Value) : ∀ j u, [a, b, c, d][j]? = some u → (W.alloc (.cells #[a, b, c, d] 31)).cell? ((⟨W.heap.size, 0, none⟩ : Addr).add j) = some u := by
  intro j u hu
  have hc : ∀ i, (W.alloc (.cells #[a, b, c, d] 31)).cell? ⟨W.heap.size, i, none⟩ = #[a, b, c, d][i]? := fun i => by
    unfold World.cell?
    rw [heap_alloc_new]
    rfl
  rw [Addr.add_mid, hc]
  simpa using hu
theorem news_two (W : World) (o : Obj) (a b c d : Value) : ∀ j u, [a, b, c, d][j]? = some u → ((W.alloc o).alloc (.cells #[a, b, c, d] 31)).cell? ((⟨W.heap.size + 1, 0, none⟩ : Addr).add j) = some u := by
  have h := news_key (W.alloc o) a b c d
  rw [show (W.alloc o).heap.size = W.heap.size + 1 by simp] at h
  exact h
theorem flatK_snoc (ks : List Ky) (k : Ky) : flatK (ks ++ [k]) = flatK ks ++ kc k := by simp [flatK]
theorem ext_drop (t : ByteArray) (z : Nat) : (t.extract z t.size).data.toList = t.data.toList.drop z := by
  rw [toL_extract, List.take_of_length_le (by rw [Array.length_toList]; exact Nat.le_refl _)]
theorem size_l (t : ByteArray) : t.data.toList.length = t.size := Array.length_toList
set_option maxHeartbeats 8000000 in
set_option maxRecDepth 100000 in
theorem read_any (s : ByteArray) (last : Bool) (hs : s.size ≤ 4000) (w : World) (hE : Env w) : Calls Tryd.prog 4 #[.string s, .bool last] w fun e w' => ∃ v, e = .returned (.tuple #[v, .string (bs (rd s.data.toList last).2), .int .i64 0]) ∧ OwnK w' w.heap.size v (rd s.data.toList last).1 ∧ Below w.heap.size w w' := by
  obtain ⟨i0, hi, hzz⟩ := Option.map_eq_some_iff.1 info_key
  simp only [Prod.mk.injEq] at hzz
  obtain ⟨hz0, hz1, hz2⟩ := hzz
  have i4 : ¬ (4000 : Int) < (s.size : Int) := by omega
  have HEV : Hid (∀ W, Below w.heap.size w W → Env W) := fun W h => hE.below h
  obtain ⟨res, hres⟩ : ∃ res, rd s.data.toList last = res := ⟨_, rfl⟩
  rw [hres]
  have HR : Hid (rd s.data.toList last = res) := hres
  clear hres hE
  go_enter Tryd.func4, Tryd.ntmps4
  go_wp2_with fail
  go_loopg [0, 7] s.size (fun g v0 v7 wr => ∃ (t : ByteArray) (ks : List Ky), v0 = .string t ∧ t.size ≤ g ∧ t.size + ks.length ≤ s.size ∧ OwnK wr w.heap.size v7 ks ∧ Below w.heap.size w wr ∧ res = (ks ++ (rd t.data.toList last).1, (rd t.data.toList last).2))
  case atStart => exact ⟨s, [], rfl, Nat.le_refl _, by simp, World.ownsRow_nil _ _ _ _, Below.refl _ _, by rw [← HR.out]; rfl⟩
  case round =>
    obtain ⟨t, ks, rfl, hg, hlen, hown, hb, hq⟩ := hrel
    have HO : Hid (OwnK wr w.heap.size _ ks) := hown
    have HQ : Hid (res = (ks ++ (rd t.data.toList last).1, (rd t.data.toList last).2)) := hq
    clear hown hq
    have HCL := fun W => Txt.clone_any t W (by omega)
    by_cases ht : t.size = 0
    · have hl : t.data.toList = [] := List.length_eq_zero_iff.1 (by rw [size_l]; exact ht)
      have he : (t.toList == []) = true := by rw [beq_iff_eq, Lib.toList_data]; exact hl
      have e : res = (ks, []) := by rw [HQ.out, hl, rd_nil]; simp
      have HEM : Hid (t = bs []) := by unfold Hid; rw [← hl]; rfl
      subst e
      clear HQ hl ht
      go_wp2_with (go_at_call 9; refine (HCL _).mono ?_; rintro e W1 ⟨rfl, b1⟩)
      go_ret3
      refine ⟨_, ?_, ownsRow_below HO.out b1, hb.trans (b1.mono hb.size)⟩
      simp only
      rw [← HEM.out]
      rfl
    · have hne : t.data.toList ≠ [] := by intro h; have := congrArg List.length h; rw [size_l] at this; exact ht this
      have he : (t.toList == []) = false := by rw [beq_eq_false_iff_ne, Lib.toList_data]; exact hne
      have HF := first_any t last (by omega) ht wr (HEV.out wr hb)
      have hfl := first_le t.data.toList last hne
      rw [size_l] at hfl
      obtain ⟨ff, hff⟩ : ∃ ff, firstL t.data.toList last = ff := ⟨_, rfl⟩
      have HFF : Hid (firstL t.data.toList last = ff) := hff
      rw [hff] at HF hfl
      clear hff
      obtain ⟨⟨kd, rr, nn, hh⟩, z⟩ := ff
      unfold kyv at HF
      simp only at HF hfl
      have hfrom := own_from HO.out
      by_cases hz : z = 0
      · subst hz
        have e : res = (ks, t.data.toList) := by rw [HQ.out, rd_stop _ last hne (by rw [HFF.out])]; simp
        subst e
        clear HQ HFF
        go_wp2_with (first | (go_at_call 8; refine HF.mono ?_; rintro e W2 ⟨rfl, b2⟩) | (go_at_call 9; refine (HCL _).mono ?_; rintro e W1 ⟨rfl, b1⟩))
        go_ret3
        have k2 := hb.trans (b2.mono hb.size)
        have k3 := k2.alloc k2.size (.cells #[.int .i64 kd, .int .i32 rr, .int .i64 nn, .int .i64 hh] 31)
        exact ⟨_, rfl, ownsRow_below ((ownsRow_below HO.out b2).alloc _) b1, k3.trans (b1.mono k3.size)⟩
      · have iz : ((z : Int) == 0) = false := by rw [beq_eq_false_iff_ne]; omega
        have iz2 : (z : Int) ≤ (t.size : Int) := by omega
        have iz3 : (0 : Int) ≤ (z : Int) := by omega
        have e : res = (ks ++ [⟨kd, rr, nn, hh⟩] ++ (rd (t.data.toList.drop z) last).1, (rd (t.data.toList.drop z) last).2) := by
          rw [HQ.out, rd_go _ last hne (by rw [HFF.out]; exact hz), HFF.out]
          simp
        have HQ2 : Hid (res = (ks ++ [⟨kd, rr, nn, hh⟩] ++ (rd (t.data.toList.drop z) last).1, (rd (t.data.toList.drop z) last).2)) := e
        clear HQ HFF e HCL
        go_wp2_with (first | (go_at_call 8; refine HF.mono ?_; rintro e W2 ⟨rfl, b2⟩) | (at_builtin; refine wpList_append_own _ rfl _ _ 22 rfl w.heap.size 31 i0 (.agg #[.int .i64 0, .int .i32 0, .int .i64 0, .int .i64 0]) 4 32 und_keys hi hz0 hz1 hz2 rfl (by decide) _ _ _ rfl (((ownsRow_below HO.out b2).alloc _).alloc _) ⟨W2.heap.size + 1, 0, none⟩ 1 1 [.int .i64 kd, .int .i32 rr, .int .i64 nn, .int .i64 hh] rfl rfl (news_two _ _ _ _ _ _) (by intro u hu; simp at hu; rcases hu with rfl | rfl | rfl | rfl <;> rfl) (by unfold maxLen; omega) (by omega) (by simp; have := b2.size; have := hb.size; omega) ?_; intro v3 W3 hown3 hgrow hnil))
        have k2 := hb.trans (b2.mono hb.size)
        have k3 := k2.alloc k2.size (.cells #[.int .i64 kd, .int .i32 rr, .int .i64 nn, .int .i64 hh] 31)
        have k4 := k3.alloc k3.size (.cells #[.int .i64 kd, .int .i32 rr, .int .i64 nn, .int .i64 hh] 31)
        go_roundg (t.size - z)
        case measure => omega
        case rel =>
          refine ⟨t.extract z t.size, ks ++ [⟨kd, rr, nn, hh⟩], rfl, ?_, ?_, ?_, k4.grown hgrow k4.size (fun q hq => hfrom q hq), ?_⟩
          · rw [ByteArray.size_extract]; omega
          · rw [ByteArray.size_extract, List.length_append, List.length_singleton]; omega
          · unfold OwnK
            rw [List.length_append, List.length_singleton, flatK_snoc]
            exact hown3
          · rw [HQ2.out, ext_drop]
end Kys
end Go.Proofs.YtplceodnllcimaaDoor

/- The reference's firstKey, behind ESC O; ReadKeys. (Written by gen_keysreff.py.) -/
namespace Go.Proofs.YtplceodnllcimaaDoor
open Go.ChangeShapes Go.WideShapes Go.ChangeAt Go.RowKit Go.Maps
namespace Kys
open Txt (wd bs dec)
set_option maxHeartbeats 8000000 in
set_option maxRecDepth 100000 in
theorem firstR_O (s : ByteArray) (last : Bool) (h0l : 0 < s.size) (h27 : s[0]'h0l = 27) (h1l : 1 < s.size) (h79 : s[1]'h1l = 79) (w : World) (hE : EnvR w) : Calls Tryd.prog 11 #[.string s, .bool last] w fun e w' => e = .returned (.tuple #[kyv (firstL s.data.toList last).1, .int .i64 ((firstL s.data.toList last).2 : Nat)]) ∧ Below w.heap.size w w' := by
  have kb := kb_z w
  have Z := hz w
  have hsz : s.data.toList.length = s.size := Array.length_toList
  have hg0 : s.data.toList.getD 0 0 = 27 := by rw [get_zero s 0 h0l]; exact h27
  have HR := firstL_27 s.data.toList last hg0
  rw [hsz] at HR
  rw [HR]
  clear HR hg0
  have i0 : (0 : Int) < (s.size : Int) := by omega
  have hg1 : s.data.toList.getD 1 0 = 79 := by rw [get_zero s 1 h1l]; exact h79
  rw [if_neg (by omega), if_pos (.inr hg1)]
  have i1 : ((s.size : Int) == 1) = false := by rw [beq_eq_false_iff_ne]; omega
  have i2 : (1 : Int) < (s.size : Int) := by omega
  have i3 : (1 : Int) ≤ (s.size : Int) := by omega
  have hen : endL s.data.toList = 2 := by unfold endL; rw [hg1]; rfl
  have hres : seqL s.data.toList last = if 2 = s.size then unendedL last else match toldL 79 [] (s.data.toList.getD 2 0) with
    | none => (kEsc, 1)
    | some k => (k, 2 + 1) := by unfold seqL; rw [hg1, hsz, hen] <;> rfl
  rw [hres]
  clear hres hg1 hen
  have HEE : Hid (∀ W, Below w.heap.size w W → EnvR W) := fun W h => hE.below h
  clear hE hsz
  by_cases h2 : 2 = s.size
  · rw [if_pos h2]
    have heq : ((2 : Int) == (s.size : Int)) = true := by rw [beq_iff_eq]; omega
    have H2 : Hid (2 = s.size) := h2
    clear h2
    cases last
    · go_enter Tryd.func11, Tryd.ntmps11
      go_wp2_with (refine wpList_store_row rfl 31 (.tmp 4) (.tmp 113) rfl w.heap.size #[.int .i64 0, .int .i32 0, .int .i64 0, .int .i64 0] rfl rfl _ _ Z (by kernel_rfl) rfl (one4 _ _ _ _) ?_)
      (try simp only [Exit.inBlock, Exit.then])
      refine bodyPost_ret (v := .tuple #[.agg #[.int .i64 0, .int .i32 0, .int .i64 0, .int .i64 0], .int .i64 0]) ?_ rfl ⟨rfl, below_setRow kb (Nat.le_refl _) _⟩
      exact results_key_tmp rfl _ _ w.heap.size _ _ _ _ rfl (setRow_heap _ _ _ _ _ _ Z) Tryd.underlying31 rfl (by kernel_rfl) _ rfl
    · go_enter Tryd.func11, Tryd.ntmps11
      go_wp2_with (refine wpList_store_row rfl 31 (.tmp 4) (.tmp 112) rfl w.heap.size #[.int .i64 5, .int .i32 0, .int .i64 0, .int .i64 0] rfl rfl _ _ Z (by kernel_rfl) rfl (one4 _ _ _ _) ?_)
      (try simp only [Exit.inBlock, Exit.then])
      refine bodyPost_ret (v := .tuple #[.agg #[.int .i64 5, .int .i32 0, .int .i64 0, .int .i64 0], .int .i64 1]) ?_ rfl ⟨rfl, below_setRow kb (Nat.le_refl _) _⟩
      exact results_key_tmp rfl _ _ w.heap.size _ _ _ _ rfl (setRow_heap _ _ _ _ _ _ Z) Tryd.underlying31 rfl (by kernel_rfl) _ rfl
  · rw [if_neg h2]
    have e1 : 2 < s.size := by omega
    have heq : ((2 : Int) == (s.size : Int)) = false := by rw [beq_eq_false_iff_ne]; omega
    have hle : (2 : Int) ≤ (s.size : Int) := by omega
    have e1i : (2 : Int) < (s.size : Int) := by omega
    obtain ⟨x, hx⟩ : ∃ x, s[2]'e1 = x := ⟨_, rfl⟩
    rw [get_zero s 2 e1, hx, ← keyOf_O x]
    have HT0 := fun W (h : Below w.heap.size w W) => keyOf_any ByteArray.empty x (by show 0 ≤ 1000; omega) (by intro c hc; cases hc) W (HEE.out W h)
    rw [show ByteArray.empty.data.toList = [] from rfl] at HT0
    clear h2 HEE
    obtain ⟨W1, hW1⟩ : ∃ W1, w.alloc (.cells #[.int .i64 0, .int .i32 0, .int .i64 0, .int .i64 0] 31) = W1 := ⟨_, rfl⟩
    have HW1 : Hid (w.alloc (.cells #[.int .i64 0, .int .i32 0, .int .i64 0, .int .i64 0] 31) = W1) := hW1
    rw [hW1] at kb Z
    have k1 := kb
    have z1 := Z
    have b1 : True := trivial
    clear hW1 kb Z
    cases hko : keyOfL [] x with
    | none =>
      have HT : ∀ W, Below W1.heap.size W1 W → Calls Tryd.prog 23 #[.string ByteArray.empty, .int .u8 x.toNat] W fun e w' => ∃ a b c d : Int, e = .returned (.tuple #[.agg #[.int .i64 a, .int .i32 b, .int .i64 c, .int .i64 d], .bool false]) ∧ Below W.heap.size W w' := fun W h => (HT0 W (k1.trans (h.mono k1.size))).mono fun e w' ⟨k', he, _, hb'⟩ => ⟨k'.kind, k'.r, k'.n, k'.held, by rw [he, hko]; rfl, hb'⟩
      simp only
      clear HT0 hko
      go_enter Tryd.func11, Tryd.ntmps11
      go_wp2_with fail
      rw [HW1.out]
      go_region_with (first | (go_at_call 23; refine (HT _ (by exact ((Below.refl _ _).alloc (Nat.le_refl _) (.cells #[.int .i64 0, .int .i32 0, .int .i64 0, .int .i64 0] 31)).drew)).mono ?_; rintro e W2 ⟨ka, kb, kc, kd, rfl, b2⟩; have zz := held_drew b2; obtain ⟨⟨y0, y1, y2, y3⟩, f0, f1, f2, f3⟩ := four_of zz) | (go_at_call 23; refine (HT _ (by exact (Below.refl _ _).drew)).mono ?_; rintro e W2 ⟨ka, kb, kc, kd, rfl, b2⟩))
      all_goals first
        | (have zz' := zz; clear zz y0 y1 y2 y3 f0 f1 f2 f3 zz'; obtain ⟨v7, vz, kV, hne⟩ := seq_ii (p := .int .i64 ka) (q := .int .i32 kb) (r := .int .i64 kc) (z := .int .i64 kd) k1 z1 b2; generalize (((W2.setCell ⟨W1.heap.size, 0, none⟩ (.int .i64 ka)).setCell ⟨W1.heap.size, 1, none⟩ (.int .i32 kb)).setCell ⟨W1.heap.size, 2, none⟩ (.int .i64 kc)).setCell ⟨W1.heap.size, 3, none⟩ (.int .i64 kd) = V at *; generalize W1.heap.size = B7 at *)
        | (obtain ⟨v7, vz, kV, hne⟩ := seq_i (A := #[.int .i64 ka, .int .i32 kb, .int .i64 kc, .int .i64 kd]) k1 z1 b2; generalize W2.alloc (.cells #[.int .i64 ka, .int .i32 kb, .int .i64 kc, .int .i64 kd] 31) = V at *; generalize W2.heap.size = B7 at *)
      all_goals clear b1 b2
      all_goals obtain ⟨⟨d0, d1, d2, d3⟩, _⟩ := four_cells1 v7
      all_goals go_wp2_with (refine wpList_store_row rfl 31 (.tmp 4) (.tmp 142) rfl w.heap.size #[.int .i64 5, .int .i32 0, .int .i64 0, .int .i64 0] rfl rfl _ _ vz (by kernel_rfl) rfl (one4 _ _ _ _) ?_)
      all_goals (try simp only [Exit.inBlock, Exit.then])
      all_goals refine bodyPost_ret (v := .tuple #[.agg #[.int .i64 5, .int .i32 0, .int .i64 0, .int .i64 0], .int .i64 1]) ?_ rfl ⟨rfl, below_setRow kV (Nat.le_refl _) _⟩
      all_goals exact results_key_tmp rfl _ _ w.heap.size _ _ _ _ rfl (setRow_heap _ _ _ _ _ _ vz) Tryd.underlying31 rfl (by kernel_rfl) _ rfl
    | some k =>
      obtain ⟨kd, rr, nn, hh⟩ := k
      have HT : ∀ W, Below W1.heap.size W1 W → Calls Tryd.prog 23 #[.string ByteArray.empty, .int .u8 x.toNat] W fun e w' => e = .returned (.tuple #[.agg #[.int .i64 kd, .int .i32 rr, .int .i64 nn, .int .i64 hh], .bool true]) ∧ Below W.heap.size W w' := fun W h => (HT0 W (k1.trans (h.mono k1.size))).mono fun e w' ⟨k', he, hk, hb'⟩ => ⟨by rw [he, hk _ hko, hko]; rfl, hb'⟩
      simp only
      clear HT0 hko
      by_cases h6 : 6 ≤ kd
      · by_cases h11 : kd ≤ 11
        · rw [if_pos ⟨h6, h11⟩]
          go_enter Tryd.func11, Tryd.ntmps11
          go_wp2_with fail
          rw [HW1.out]
          go_region_with (first | (go_at_call 23; refine (HT _ (by exact ((Below.refl _ _).alloc (Nat.le_refl _) (.cells #[.int .i64 0, .int .i32 0, .int .i64 0, .int .i64 0] 31)).drew)).mono ?_; rintro e W2 ⟨rfl, b2⟩; have zz := held_drew b2; obtain ⟨⟨y0, y1, y2, y3⟩, f0, f1, f2, f3⟩ := four_of zz) | (go_at_call 23; refine (HT _ (by exact (Below.refl _ _).drew)).mono ?_; rintro e W2 ⟨rfl, b2⟩))
          all_goals first
            | (have zz' := zz; clear zz y0 y1 y2 y3 f0 f1 f2 f3 zz'; obtain ⟨v7, vz, kV, hne⟩ := seq_ii (p := .int .i64 kd) (q := .int .i32 rr) (r := .int .i64 nn) (z := .int .i64 hh) k1 z1 b2; generalize (((W2.setCell ⟨W1.heap.size, 0, none⟩ (.int .i64 kd)).setCell ⟨W1.heap.size, 1, none⟩ (.int .i32 rr)).setCell ⟨W1.heap.size, 2, none⟩ (.int .i64 nn)).setCell ⟨W1.heap.size, 3, none⟩ (.int .i64 hh) = V at *; generalize W1.heap.size = B7 at *)
            | (obtain ⟨v7, vz, kV, hne⟩ := seq_i (A := #[.int .i64 kd, .int .i32 rr, .int .i64 nn, .int .i64 hh]) k1 z1 b2; generalize W2.alloc (.cells #[.int .i64 kd, .int .i32 rr, .int .i64 nn, .int .i64 hh] 31) = V at *; generalize W2.heap.size = B7 at *)
          all_goals clear b1 b2
          all_goals obtain ⟨⟨d0, d1, d2, d3⟩, _⟩ := four_cells1 v7
          all_goals go_wp2_with (refine wpList_store_row rfl 31 (.tmp 4) (.tmp 139) rfl w.heap.size #[.int .i64 kd, .int .i32 rr, .int .i64 nn, .int .i64 hh] rfl rfl _ _ vz (by kernel_rfl) rfl (one4 _ _ _ _) ?_)
          all_goals (try simp only [Exit.inBlock, Exit.then])
          all_goals refine bodyPost_ret (v := .tuple #[.agg #[.int .i64 kd, .int .i32 rr, .int .i64 nn, .int .i64 hh], .int .i64 3]) ?_ rfl ⟨rfl, below_setRow kV (Nat.le_refl _) _⟩
          all_goals exact results_key_tmp rfl _ _ w.heap.size _ _ _ _ rfl (setRow_heap _ _ _ _ _ _ vz) Tryd.underlying31 rfl (by kernel_rfl) _ rfl
        · rw [if_neg (fun h => h11 h.2)]
          go_enter Tryd.func11, Tryd.ntmps11
          go_wp2_with fail
          rw [HW1.out]
          go_region_with (first | (go_at_call 23; refine (HT _ (by exact ((Below.refl _ _).alloc (Nat.le_refl _) (.cells #[.int .i64 0, .int .i32 0, .int .i64 0, .int .i64 0] 31)).drew)).mono ?_; rintro e W2 ⟨rfl, b2⟩; have zz := held_drew b2; obtain ⟨⟨y0, y1, y2, y3⟩, f0, f1, f2, f3⟩ := four_of zz) | (go_at_call 23; refine (HT _ (by exact (Below.refl _ _).drew)).mono ?_; rintro e W2 ⟨rfl, b2⟩))
          all_goals first
            | (have zz' := zz; clear zz y0 y1 y2 y3 f0 f1 f2 f3 zz'; obtain ⟨v7, vz, kV, hne⟩ := seq_ii (p := .int .i64 kd) (q := .int .i32 rr) (r := .int .i64 nn) (z := .int .i64 hh) k1 z1 b2; generalize (((W2.setCell ⟨W1.heap.size, 0, none⟩ (.int .i64 kd)).setCell ⟨W1.heap.size, 1, none⟩ (.int .i32 rr)).setCell ⟨W1.heap.size, 2, none⟩ (.int .i64 nn)).setCell ⟨W1.heap.size, 3, none⟩ (.int .i64 hh) = V at *; generalize W1.heap.size = B7 at *)
            | (obtain ⟨v7, vz, kV, hne⟩ := seq_i (A := #[.int .i64 kd, .int .i32 rr, .int .i64 nn, .int .i64 hh]) k1 z1 b2; generalize W2.alloc (.cells #[.int .i64 kd, .int .i32 rr, .int .i64 nn, .int .i64 hh] 31) = V at *; generalize W2.heap.size = B7 at *)
          all_goals clear b1 b2
          all_goals obtain ⟨⟨d0, d1, d2, d3⟩, _⟩ := four_cells1 v7
          all_goals go_wp2_with (refine wpList_store_row rfl 31 (.tmp 4) (.tmp 142) rfl w.heap.size #[.int .i64 5, .int .i32 0, .int .i64 0, .int .i64 0] rfl rfl _ _ vz (by kernel_rfl) rfl (one4 _ _ _ _) ?_)
          all_goals (try simp only [Exit.inBlock, Exit.then])
          all_goals refine bodyPost_ret (v := .tuple #[.agg #[.int .i64 5, .int .i32 0, .int .i64 0, .int .i64 0], .int .i64 1]) ?_ rfl ⟨rfl, below_setRow kV (Nat.le_refl _) _⟩
          all_goals exact results_key_tmp rfl _ _ w.heap.size _ _ _ _ rfl (setRow_heap _ _ _ _ _ _ vz) Tryd.underlying31 rfl (by kernel_rfl) _ rfl
      · rw [if_neg (fun h => h6 h.1)]
        go_enter Tryd.func11, Tryd.ntmps11
        go_wp2_with fail
        rw [HW1.out]
        go_region_with (first | (go_at_call 23; refine (HT _ (by exact ((Below.refl _ _).alloc (Nat.le_refl _) (.cells #[.int .i64 0, .int .i32 0, .int .i64 0, .int .i64 0] 31)).drew)).mono ?_; rintro e W2 ⟨rfl, b2⟩; have zz := held_drew b2; obtain ⟨⟨y0, y1, y2, y3⟩, f0, f1, f2, f3⟩ := four_of zz) | (go_at_call 23; refine (HT _ (by exact (Below.refl _ _).drew)).mono ?_; rintro e W2 ⟨rfl, b2⟩))
        all_goals first
          | (have zz' := zz; clear zz y0 y1 y2 y3 f0 f1 f2 f3 zz'; obtain ⟨v7, vz, kV, hne⟩ := seq_ii (p := .int .i64 kd) (q := .int .i32 rr) (r := .int .i64 nn) (z := .int .i64 hh) k1 z1 b2; generalize (((W2.setCell ⟨W1.heap.size, 0, none⟩ (.int .i64 kd)).setCell ⟨W1.heap.size, 1, none⟩ (.int .i32 rr)).setCell ⟨W1.heap.size, 2, none⟩ (.int .i64 nn)).setCell ⟨W1.heap.size, 3, none⟩ (.int .i64 hh) = V at *; generalize W1.heap.size = B7 at *)
          | (obtain ⟨v7, vz, kV, hne⟩ := seq_i (A := #[.int .i64 kd, .int .i32 rr, .int .i64 nn, .int .i64 hh]) k1 z1 b2; generalize W2.alloc (.cells #[.int .i64 kd, .int .i32 rr, .int .i64 nn, .int .i64 hh] 31) = V at *; generalize W2.heap.size = B7 at *)
        all_goals clear b1 b2
        all_goals obtain ⟨⟨d0, d1, d2, d3⟩, _⟩ := four_cells1 v7
        all_goals go_wp2_with (refine wpList_store_row rfl 31 (.tmp 4) (.tmp 142) rfl w.heap.size #[.int .i64 5, .int .i32 0, .int .i64 0, .int .i64 0] rfl rfl _ _ vz (by kernel_rfl) rfl (one4 _ _ _ _) ?_)
        all_goals (try simp only [Exit.inBlock, Exit.then])
        all_goals refine bodyPost_ret (v := .tuple #[.agg #[.int .i64 5, .int .i32 0, .int .i64 0, .int .i64 0], .int .i64 1]) ?_ rfl ⟨rfl, below_setRow kV (Nat.le_refl _) _⟩
        all_goals exact results_key_tmp rfl _ _ w.heap.size _ _ _ _ rfl (setRow_heap _ _ _ _ _ _ vz) Tryd.underlying31 rfl (by kernel_rfl) _ rfl
theorem firstR_any (s : ByteArray) (last : Bool) (hs : s.size ≤ 1048576) (h0 : s.size ≠ 0) (w : World) (hE : EnvR w) : Calls Tryd.prog 11 #[.string s, .bool last] w fun e w' => e = .returned (.tuple #[kyv (firstL s.data.toList last).1, .int .i64 ((firstL s.data.toList last).2 : Nat)]) ∧ Below w.heap.size w w' := by
  have h0l : 0 < s.size := by omega
  by_cases h27 : s[0]'h0l = 27
  · by_cases h1 : s.size = 1
    · exact firstR_one s last hs h0l h27 h1 w hE
    · have h1l : 1 < s.size := by omega
      by_cases h91 : s[1]'h1l = 91
      · exact firstR_br s last hs h0l h27 h1l h91 w hE
      · by_cases h79 : s[1]'h1l = 79
        · exact firstR_O s last h0l h27 h1l h79 w hE
        · by_cases hy : s[1]'h1l = 27 ∨ s[1]'h1l = 9
          · exact firstR_two s last hs h0l h27 h1l hy w hE
          · exact firstR_other s last hs h0l h27 h1l (fun h => hy (.inl h)) (fun h => hy (.inr h)) h91 h79 w hE
  · have hg0 : s.data.toList.getD 0 0 ≠ 27 := by rw [get_zero s 0 h0l]; exact h27
    have e : firstL s.data.toList last = plainL s.data.toList last := by unfold firstL; rw [if_pos hg0]
    rw [e]
    exact firstR_plain s last h0l h27 w hE.env

end Kys
end Go.Proofs.YtplceodnllcimaaDoor

/- slices.Equal of keys that read alike; Read of too many bytes. -/
namespace Go.Proofs.YtplceodnllcimaaDoor
open Go.ChangeShapes Go.WideShapes Go.ChangeAt Go.RowKit
namespace Kys
open Txt (wd bs dec)
def KAt (w : World) (b o : Nat) (ks : List Ky) : Prop := ∀ j, j < ks.length →
  w.cell? ⟨b, o + j * 4, none⟩ = some (.int .i64 (ks.getD j zk).kind) ∧ w.cell? ⟨b, o + j * 4 + 1, none⟩ = some (.int .i32 (ks.getD j zk).r) ∧
  w.cell? ⟨b, o + j * 4 + 2, none⟩ = some (.int .i64 (ks.getD j zk).n) ∧ w.cell? ⟨b, o + j * 4 + 3, none⟩ = some (.int .i64 (ks.getD j zk).held)
theorem KAt.below {w w' : World} {b o : Nat} {ks : List Ky} (h : KAt w b o ks) (hb : Below w.heap.size w w') : KAt w' b o ks := fun j hj => by
  obtain ⟨a, b1, c, d⟩ := h j hj
  have hl := Txt.lt_of_cell a
  exact ⟨by rw [hb.cell hl]; exact a, by rw [hb.cell hl]; exact b1, by rw [hb.cell hl]; exact c, by rw [hb.cell hl]; exact d⟩
def KSl (w : World) (v : Value) (ks : List Ky) : Prop := (ks = [] ∧ ∃ a c, v = .slice a 0 c) ∨ (ks ≠ [] ∧ ∃ b o c, v = .slice (some ⟨b, o, none⟩) ks.length c ∧ KAt w b o ks)
theorem KSl.below {w w' : World} {v : Value} {ks : List Ky} (h : KSl w v ks) (hb : Below w.heap.size w w') : KSl w' v ks := by
  rcases h with h | ⟨h0, b, o, c, hv, hC⟩
  · exact .inl h
  · exact .inr ⟨h0, b, o, c, hv, hC.below hb⟩
theorem flatK_get : ∀ (ks : List Ky) (j : Nat), j < ks.length → (flatK ks)[j * 4]? = some (.int .i64 (ks.getD j zk).kind) ∧ (flatK ks)[j * 4 + 1]? = some (.int .i32 (ks.getD j zk).r) ∧ (flatK ks)[j * 4 + 2]? = some (.int .i64 (ks.getD j zk).n) ∧ (flatK ks)[j * 4 + 3]? = some (.int .i64 (ks.getD j zk).held)
  | [], j, h => absurd h (Nat.not_lt_zero _)
  | k :: ks, 0, _ => ⟨rfl, rfl, rfl, rfl⟩
  | k :: ks, j + 1, h => by
    have ih := flatK_get ks j (by simpa using h)
    rw [show (j + 1) * 4 = j * 4 + 4 by omega]
    exact ih
theorem OwnK.sl {w : World} {base : Nat} {v : Value} {ks : List Ky} (h : OwnK w base v ks) : KSl w v ks := by
  obtain ⟨hl, h1 | ⟨g, cap, cur, hv, hg, hh, hn, hc, hs, ht⟩⟩ := h
  · exact .inl ⟨List.length_eq_zero_iff.1 h1.2, none, 0, h1.1⟩
  · by_cases h0 : ks = []
    · subst h0
      exact .inl ⟨rfl, _, _, hv⟩
    · refine .inr ⟨h0, g, 0, cap, hv, fun j hj => ?_⟩
      have key : ∀ i u, i < ks.length * 4 → (flatK ks)[i]? = some u → w.cell? ⟨g, i, none⟩ = some u := fun i u hi hu => by
        have : cur[i]? = some u := by
          rw [← ht, List.getElem?_take_of_lt hi] at hu
          simpa using hu
        unfold World.cell?
        rw [hh]
        exact this
      obtain ⟨a, b, c, d⟩ := flatK_get ks j hj
      simp only [Nat.zero_add]
      exact ⟨key _ _ (by omega) a, key _ _ (by omega) b, key _ _ (by omega) c, key _ _ (by omega) d⟩
theorem neq_key (r f b x : Int) (w : World) : (binOp .neq 31 (.agg #[.int .i64 r, .int .i32 f, .int .i64 b, .int .i64 x]) (.agg #[.int .i64 r, .int .i32 f, .int .i64 b, .int .i64 x])).run Tryd.prog w = .ok (.bool false) w := by
  go_simp
set_option maxHeartbeats 1000000 in
theorem equal_keys (b1 o1 c1 b2 o2 c2 : Nat) (ks : List Ky) (w : World) (h1 : KAt w b1 o1 ks) (h2 : KAt w b2 o2 ks) (hn : ks.length ≤ 1000000) :
    Calls Tryd.prog 7 #[.slice (some ⟨b1, o1, none⟩) ks.length c1, .slice (some ⟨b2, o2, none⟩) ks.length c2] w fun e w' => e = .returned (.bool true) ∧ Below w.heap.size w w' := by
  have H1 : Hid (KAt w b1 o1 ks) := h1
  have H2 : Hid (KAt w b2 o2 ks) := h2
  clear h1 h2
  generalize hl : ks.length = L at *
  have HL : Hid (ks.length = L) := hl
  clear hl
  have ne : ((L : Int) != (L : Int)) = false := by simp
  go_enter Tryd.func7, Tryd.ntmps7
  go_wp2_with fail
  go_loopg [13] L (fun g i wr => ∃ k : Nat, i = .int .i64 (k : Int) ∧ k ≤ L ∧ L - k ≤ g ∧ Below w.heap.size w wr)
  case atStart => exact ⟨0, rfl, by omega, by omega, Below.refl _ _⟩
  case round =>
    obtain ⟨k, rfl, hk, hg, hb⟩ := hrel
    by_cases hlt : k < L
    · have lt1 : ((k : Int) < (L : Int)) := by omega
      obtain ⟨p0, p1, p2, p3⟩ := H1.out.below hb k (by rw [HL.out]; exact hlt)
      obtain ⟨q0, q1, q2, q3⟩ := H2.out.below hb k (by rw [HL.out]; exact hlt)
      rcases hc : ks.getD k zk with ⟨r, f, bk, x⟩
      rw [hc] at p0 p1 p2 p3 q0 q1 q2 q3
      dsimp only at p0 p1 p2 p3 q0 q1 q2 q3
      clear hc
      have nq := neq_key r f bk x
      go_wp2_with fail
      go_region
      go_wp2_with fail
      go_roundg (L - (k + 1))
      case measure => omega
      case rel => exact ⟨k + 1, rfl, by omega, by omega, hb.drew⟩
    · have lt1 : ¬ ((k : Int) < (L : Int)) := by omega
      go_wp2_with fail
      go_ret
      exact ⟨rfl, hb⟩
set_option maxHeartbeats 1000000 in
theorem equal_empty (a1 a2 : Option Addr) (c1 c2 : Nat) (w : World) :
    Calls Tryd.prog 7 #[.slice a1 0 c1, .slice a2 0 c2] w fun e w' => e = .returned (.bool true) ∧ Below w.heap.size w w' := by
  go_enter Tryd.func7, Tryd.ntmps7
  go_wp2_with fail
  go_loopg [13] 1 (fun g i wr => i = .int .i64 0 ∧ wr = w)
  case atStart => exact ⟨rfl, rfl⟩
  case round =>
    obtain ⟨rfl, rfl⟩ := hrel
    go_wp2_with fail
    go_ret
    exact ⟨rfl, Below.refl _ _⟩
theorem equal_any (v1 v2 : Value) (ks : List Ky) (w : World) (h1 : KSl w v1 ks) (h2 : KSl w v2 ks) (hn : ks.length ≤ 1000000) :
    Calls Tryd.prog 7 #[v1, v2] w fun e w' => e = .returned (.bool true) ∧ Below w.heap.size w w' := by
  rcases h1 with ⟨rfl, a1, c1, rfl⟩ | ⟨h0, b1, o1, c1, rfl, hC1⟩
  · rcases h2 with ⟨_, a2, c2, rfl⟩ | ⟨h0, _⟩
    · exact equal_empty a1 a2 c1 c2 w
    · exact absurd rfl h0
  · rcases h2 with ⟨rfl, _⟩ | ⟨_, b2, o2, c2, rfl, hC2⟩
    · exact absurd rfl h0
    · exact equal_keys b1 o1 c1 b2 o2 c2 ks w hC1 hC2 hn
set_option maxHeartbeats 1000000 in
theorem read_many (s : ByteArray) (last : Bool) (hs : 4000 < s.size) (w : World) : Calls Tryd.prog 4 #[.string s, .bool last] w fun e w' => e = .returned (.tuple #[.slice none 0 0, .string ⟨#[]⟩, .int .i64 2]) ∧ Below w.heap.size w w' := by
  have i4 : (4000 : Int) < (s.size : Int) := by omega
  go_enter Tryd.func4, Tryd.ntmps4
  go_wp2_with fail
  go_ret3
  exact ⟨rfl, Below.refl _ _⟩
end Kys
end Go.Proofs.YtplceodnllcimaaDoor
