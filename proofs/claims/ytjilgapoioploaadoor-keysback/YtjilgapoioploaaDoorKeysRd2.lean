/- Package keys: plain: the first key of bytes that don't begin with ESC. -/
import Derived.Test.YtjilgapoioploaaDoorKeysRd1
namespace Go.Proofs.YtjilgapoioploaaDoor
open Go.ChangeShapes Go.WideShapes Go.ChangeAt Go.RowKit
namespace Kys
open Txt (wd bs dec)
theorem get_zero (s : ByteArray) (i : Nat) (h : i < s.size) : s.data.toList.getD i 0 = s[i] := by
  have := Utf8W.get!_of_lt s i h
  rw [← this]
  have g := Txt.get_drop s 0 i
  simpa using g.symm
theorem full_fl (s : ByteArray) : Prs.full s = fl s.data.toList := by
  unfold Prs.full fl
  have e : ∀ k, s.get! k = s.data.toList.getD k 0 := fun k => by
    have := Txt.get_drop s 0 k
    simpa using this
  rw [e, e, e]
  rfl
theorem go_dec (s : ByteArray) (h : s.size ≠ 0) : Lib.decodeGo s = dec s.data.toList := by
  unfold Lib.decodeGo
  rw [if_neg h, Txt.decode_dec]
  simp
theorem held_block {w W : World} {o : Obj} (h : Below (w.alloc o).heap.size (w.alloc o) W) : W.heap[w.heap.size]? = some o := by
  rw [h.block _ (by rw [show (w.alloc o).heap.size = w.heap.size + 1 by simp]; omega)]
  exact heap_alloc_new _ _
theorem by_block {W W' : World} {b : Nat} {o : Obj} (h : W.heap[b]? = some o) (hb : Below W.heap.size W W') : W'.heap[b]? = some o := by
  have : b < W.heap.size := (Array.getElem?_eq_some_iff.1 h).1
  rw [hb.block _ this]
  exact h
set_option maxHeartbeats 4000000 in
theorem plain_any (s : ByteArray) (last : Bool) (w : World) (hT : Txt.Tab w) (hU : Txt.U8 w) (hs : s.size ≠ 0) :
    Calls Tryd.prog 43 #[.string s, .bool last] w fun e w' => e = .returned (.tuple #[kyv (plainL s.data.toList last).1, .int .i64 ((plainL s.data.toList last).2 : Nat)]) ∧ Below w.heap.size w w' := by
  have hz0 : (0 : Int) < (s.size : Int) := by omega
  have hlt : 0 < s.size := by omega
  obtain ⟨x, hx⟩ : ∃ x, s[0]'hlt = x := ⟨_, rfl⟩
  have hg : s.data.toList.getD 0 0 = x := by rw [get_zero s 0 hlt]; exact hx
  have hxl := x.toNat_lt
  have kb := kb_z w
  have HCT := control_any x
  have Z := hz w
  have hT1 : Txt.Tab (w.alloc (.cells #[.int .i64 0, .int .i32 0, .int .i64 0, .int .i64 0] 23)) := Tab.alloc hT _
  have hU1 : Txt.U8 (w.alloc (.cells #[.int .i64 0, .int .i32 0, .int .i64 0, .int .i64 0] 23)) := hU.below kb
  have HE : Hid (plainL s.data.toList last = if x.toNat < 32 ∨ x.toNat = 127 then (ctl x, 1) else if last = false ∧ Prs.full s = false then (zk, 0) else (⟨1, if wd ((Lib.decodeGo s).1 : Int) = 0 then 63 else ((Lib.decodeGo s).1 : Int), 0, 0⟩, (Lib.decodeGo s).2)) := by
    unfold Hid plainL shown
    rw [hg, full_fl, go_dec s hs]
  generalize plainL s.data.toList last = res at HE ⊢
  have HS : Hid (s.size ≠ 0) := hs
  have hse : (s.toList == []) = false := by
    rw [beq_eq_false_iff_ne]
    intro h
    rw [Lib.toList_data] at h
    have := congrArg List.length h
    rw [Array.length_toList] at this
    exact hs this
  by_cases c1 : x.toNat < 32 ∨ x.toNat = 127
  · rw [HE.out, if_pos c1]
    clear HE hT1 hU1 hT hU
    obtain ⟨cv, hcv⟩ : ∃ cv, ctl x = cv := ⟨_, rfl⟩
    rw [hcv] at HCT ⊢
    obtain ⟨kd, rr, nn, hh⟩ := cv
    clear hcv
    unfold kyv at HCT ⊢
    by_cases c2 : x.toNat < 32
    · have q1 : (x.toNat : Int) < 32 := by omega
      go_enter Tryd.func43, Tryd.ntmps43
      go_wp2_with (first | (go_at_call 63; refine (HCT _).mono ?_; rintro e W1 ⟨rfl, b1⟩; have hW := held_block b1; replace kb := kb.trans (b1.mono kb.size)) | (refine wpList_store_row rfl 23 (.tmp 4) (.tmp 18) rfl w.heap.size #[.int .i64 kd, .int .i32 rr, .int .i64 nn, .int .i64 hh] rfl rfl _ _ hW (by kernel_rfl) rfl (one4 _ _ _ _) ?_))
      (try simp only [Exit.inBlock, Exit.then])
      refine bodyPost_ret (v := .tuple #[.agg #[.int .i64 kd, .int .i32 rr, .int .i64 nn, .int .i64 hh], .int .i64 1]) ?_ rfl ⟨rfl, below_setRow kb (Nat.le_refl _) _⟩
      exact results_key_tmp rfl _ _ w.heap.size _ _ _ _ rfl (setRow_heap _ _ _ _ _ _ hW) Tryd.underlying23 rfl (by kernel_rfl) _ rfl
    · have q1 : ¬ (x.toNat : Int) < 32 := by omega
      have q2 : ((x.toNat : Int) == 127) = true := by rw [beq_iff_eq]; omega
      go_enter Tryd.func43, Tryd.ntmps43
      go_wp2_with (first | (go_at_call 63; refine (HCT _).mono ?_; rintro e W1 ⟨rfl, b1⟩; have hW := held_block b1; replace kb := kb.trans (b1.mono kb.size)) | (refine wpList_store_row rfl 23 (.tmp 4) (.tmp 18) rfl w.heap.size #[.int .i64 kd, .int .i32 rr, .int .i64 nn, .int .i64 hh] rfl rfl _ _ hW (by kernel_rfl) rfl (one4 _ _ _ _) ?_))
      (try simp only [Exit.inBlock, Exit.then])
      refine bodyPost_ret (v := .tuple #[.agg #[.int .i64 kd, .int .i32 rr, .int .i64 nn, .int .i64 hh], .int .i64 1]) ?_ rfl ⟨rfl, below_setRow kb (Nat.le_refl _) _⟩
      exact results_key_tmp rfl _ _ w.heap.size _ _ _ _ rfl (setRow_heap _ _ _ _ _ _ hW) Tryd.underlying23 rfl (by kernel_rfl) _ rfl
  · have q1 : ¬ (x.toNat : Int) < 32 := by omega
    have q2 : ((x.toNat : Int) == 127) = false := by rw [beq_eq_false_iff_ne]; omega
    have E1 := HE.out
    rw [if_neg c1] at E1
    clear HE HCT
    have HE : Hid (res = if last = false ∧ Prs.full s = false then (zk, 0) else (⟨1, if wd ((Lib.decodeGo s).1 : Int) = 0 then 63 else ((Lib.decodeGo s).1 : Int), 0, 0⟩, (Lib.decodeGo s).2)) := E1
    clear E1
    have HF : ∀ W, Txt.U8 W → Calls Tryd.prog 48 #[.string s] W fun e w' => e = .returned (.bool (Prs.full s)) ∧ Below W.heap.size W w' := fun W h => Prs.fullRune_any s W h
    have HN : ∀ W, Txt.U8 W → Calls Tryd.prog 54 #[.string s] W fun e w' => e = .returned (.tuple #[.int .i32 (Lib.decodeGo s).1, .int .i64 (Lib.decodeGo s).2]) ∧ Below W.heap.size W w' := fun W h => Txt.next_any s W h hse
    have HW : ∀ W, Txt.Tab W → Calls Tryd.prog 41 #[.int .i32 ((Lib.decodeGo s).1 : Int)] W fun e w' => e = .returned (.int .i64 (wd ((Lib.decodeGo s).1 : Int))) ∧ Below W.heap.size W w' := fun W h => Txt.width_any _ W h
    have tabB : ∀ {A B : World}, Txt.Tab A → Below A.heap.size A B → Txt.Tab B := fun h b => h.below b h.pos
    generalize Prs.full s = ff at *
    generalize (Lib.decodeGo s).1 = r at *
    generalize (Lib.decodeGo s).2 = z at *
    generalize wd (r : Int) = d at *
    have Q1 : Hid (Txt.Tab (w.alloc (.cells #[.int .i64 0, .int .i32 0, .int .i64 0, .int .i64 0] 23))) := hT1
    have Q2 : Hid (Txt.U8 (w.alloc (.cells #[.int .i64 0, .int .i32 0, .int .i64 0, .int .i64 0] 23))) := hU1
    clear hT hU hT1 hU1 hse
    by_cases c2 : last = false ∧ ff = false
    · obtain ⟨rfl, rfl⟩ := c2
      rw [HE.out, if_pos ⟨rfl, rfl⟩]
      clear HE
      go_enter Tryd.func43, Tryd.ntmps43
      go_wp2_with (first | (go_at_call 48; refine (HF _ Q2.out).mono ?_; rintro e W1 ⟨rfl, b1⟩; have hW := held_block b1; replace kb := kb.trans (b1.mono kb.size)) | (refine wpList_store_row rfl 23 (.tmp 4) (.tmp 26) rfl w.heap.size #[.int .i64 0, .int .i32 0, .int .i64 0, .int .i64 0] rfl rfl _ _ hW (by kernel_rfl) rfl (one4 _ _ _ _) ?_))
      (try simp only [Exit.inBlock, Exit.then])
      refine bodyPost_ret (v := .tuple #[.agg #[.int .i64 0, .int .i32 0, .int .i64 0, .int .i64 0], .int .i64 0]) ?_ rfl ⟨rfl, below_setRow kb (Nat.le_refl _) _⟩
      exact results_key_tmp rfl _ _ w.heap.size _ _ _ _ rfl (setRow_heap _ _ _ _ _ _ hW) Tryd.underlying23 rfl (by kernel_rfl) _ rfl
    · rw [HE.out, if_neg c2]
      clear HE
      by_cases c3 : d = 0
      · rw [if_pos c3]
        subst c3
        cases last
        · have hff : ff = true := by simpa using c2
          subst hff
          go_enter Tryd.func43, Tryd.ntmps43
          go_wp2_with (first | (go_at_call 48; refine (HF _ Q2.out).mono ?_; rintro e W1 ⟨rfl, b1⟩; have hW := held_block b1; have Q1 := tabB Q1.out b1; have Q2 := Txt.U8.below Q2.out b1; replace kb := kb.trans (b1.mono kb.size)) | (go_at_call 54; refine (HN _ Q2).mono ?_; rintro e W2 ⟨rfl, b2⟩; have hW2 := by_block hW b2; have Q3 := tabB Q1 b2; replace kb := kb.trans (b2.mono kb.size)) | (go_at_call 41; refine (HW _ Q3).mono ?_; rintro e W3 ⟨rfl, b3⟩; have hW3 := by_block hW2 b3; replace kb := kb.trans (b3.mono kb.size)) | (refine wpList_store_row rfl 23 (.tmp 4) (.tmp 36) rfl w.heap.size #[.int .i64 1, .int .i32 63, .int .i64 0, .int .i64 0] rfl rfl _ _ hW3 (by kernel_rfl) rfl (one4 _ _ _ _) ?_))
          (try simp only [Exit.inBlock, Exit.then])
          refine bodyPost_ret (v := .tuple #[.agg #[.int .i64 1, .int .i32 63, .int .i64 0, .int .i64 0], .int .i64 z]) ?_ rfl ⟨rfl, below_setRow kb (Nat.le_refl _) _⟩
          exact results_key_tmp rfl _ _ w.heap.size _ _ _ _ rfl (setRow_heap _ _ _ _ _ _ hW3) Tryd.underlying23 rfl (by kernel_rfl) _ rfl
        · clear HF c2
          go_enter Tryd.func43, Tryd.ntmps43
          go_wp2_with (first | (go_at_call 54; refine (HN _ Q2.out).mono ?_; rintro e W2 ⟨rfl, b2⟩; have hW2 := held_block b2; have Q3 := tabB Q1.out b2; replace kb := kb.trans (b2.mono kb.size)) | (go_at_call 41; refine (HW _ Q3).mono ?_; rintro e W3 ⟨rfl, b3⟩; have hW3 := by_block hW2 b3; replace kb := kb.trans (b3.mono kb.size)) | (refine wpList_store_row rfl 23 (.tmp 4) (.tmp 36) rfl w.heap.size #[.int .i64 1, .int .i32 63, .int .i64 0, .int .i64 0] rfl rfl _ _ hW3 (by kernel_rfl) rfl (one4 _ _ _ _) ?_))
          (try simp only [Exit.inBlock, Exit.then])
          refine bodyPost_ret (v := .tuple #[.agg #[.int .i64 1, .int .i32 63, .int .i64 0, .int .i64 0], .int .i64 z]) ?_ rfl ⟨rfl, below_setRow kb (Nat.le_refl _) _⟩
          exact results_key_tmp rfl _ _ w.heap.size _ _ _ _ rfl (setRow_heap _ _ _ _ _ _ hW3) Tryd.underlying23 rfl (by kernel_rfl) _ rfl
      · rw [if_neg c3]
        have q3 : (d == 0) = false := by rw [beq_eq_false_iff_ne]; exact c3
        cases last
        · have hff : ff = true := by simpa using c2
          subst hff
          go_enter Tryd.func43, Tryd.ntmps43
          go_wp2_with (first | (go_at_call 48; refine (HF _ Q2.out).mono ?_; rintro e W1 ⟨rfl, b1⟩; have hW := held_block b1; have Q1 := tabB Q1.out b1; have Q2 := Txt.U8.below Q2.out b1; replace kb := kb.trans (b1.mono kb.size)) | (go_at_call 54; refine (HN _ Q2).mono ?_; rintro e W2 ⟨rfl, b2⟩; have hW2 := by_block hW b2; have Q3 := tabB Q1 b2; replace kb := kb.trans (b2.mono kb.size)) | (go_at_call 41; refine (HW _ Q3).mono ?_; rintro e W3 ⟨rfl, b3⟩; have hW3 := by_block hW2 b3; replace kb := kb.trans (b3.mono kb.size)) | (refine wpList_store_row rfl 23 (.tmp 4) (.tmp 36) rfl w.heap.size #[.int .i64 1, .int .i32 (r : Int), .int .i64 0, .int .i64 0] rfl rfl _ _ hW3 (by kernel_rfl) rfl (one4 _ _ _ _) ?_))
          (try simp only [Exit.inBlock, Exit.then])
          refine bodyPost_ret (v := .tuple #[.agg #[.int .i64 1, .int .i32 (r : Int), .int .i64 0, .int .i64 0], .int .i64 z]) ?_ rfl ⟨rfl, below_setRow kb (Nat.le_refl _) _⟩
          exact results_key_tmp rfl _ _ w.heap.size _ _ _ _ rfl (setRow_heap _ _ _ _ _ _ hW3) Tryd.underlying23 rfl (by kernel_rfl) _ rfl
        · clear HF c2
          go_enter Tryd.func43, Tryd.ntmps43
          go_wp2_with (first | (go_at_call 54; refine (HN _ Q2.out).mono ?_; rintro e W2 ⟨rfl, b2⟩; have hW2 := held_block b2; have Q3 := tabB Q1.out b2; replace kb := kb.trans (b2.mono kb.size)) | (go_at_call 41; refine (HW _ Q3).mono ?_; rintro e W3 ⟨rfl, b3⟩; have hW3 := by_block hW2 b3; replace kb := kb.trans (b3.mono kb.size)) | (refine wpList_store_row rfl 23 (.tmp 4) (.tmp 36) rfl w.heap.size #[.int .i64 1, .int .i32 (r : Int), .int .i64 0, .int .i64 0] rfl rfl _ _ hW3 (by kernel_rfl) rfl (one4 _ _ _ _) ?_))
          (try simp only [Exit.inBlock, Exit.then])
          refine bodyPost_ret (v := .tuple #[.agg #[.int .i64 1, .int .i32 (r : Int), .int .i64 0, .int .i64 0], .int .i64 z]) ?_ rfl ⟨rfl, below_setRow kb (Nat.le_refl _) _⟩
          exact results_key_tmp rfl _ _ w.heap.size _ _ _ _ rfl (setRow_heap _ _ _ _ _ _ hW3) Tryd.underlying23 rfl (by kernel_rfl) _ rfl
end Kys
end Go.Proofs.YtjilgapoioploaaDoor
