/- Package keys: the first key of bytes. -/
import Derived.Test.YtjilgapoioploaaDoorKeysRd8
namespace Go.Proofs.YtjilgapoioploaaDoor
open Go.ChangeShapes Go.WideShapes Go.ChangeAt Go.RowKit
namespace Kys
open Txt (wd bs dec)
/-- What the readers need of a world. -/
structure Env (w : World) : Prop where
  tab : Txt.Tab w
  u8 : Txt.U8 w
  errs : Errs w
  num : NumTab w
theorem Env.below {w w' : World} (h : Env w) (hb : Below w.heap.size w w') : Env w' := ⟨h.tab.below hb h.tab.pos, h.u8.below hb, h.errs.below hb, h.num.below hb⟩
theorem plain_held (l : List UInt8) (last : Bool) : (plainL l last).1.held = 0 ∨ (plainL l last).1.held = 4 := by
  unfold plainL ctl zk
  repeat' split
  all_goals simp
theorem or_two (h : Int) (hh : h = 0 ∨ h = 4) : bits BinOp.or IntKind.i64 h 2 = alt h := by
  rcases hh with rfl | rfl <;> decide +kernel
theorem ext_one (s : ByteArray) : (s.extract 1 s.size).data.toList = s.data.toList.drop 1 := by
  rw [toL_extract, List.take_of_length_le (by rw [Array.length_toList]; exact Nat.le_refl _)]
theorem u8_beq (x c : UInt8) : (((x.toNat : Int) == (c.toNat : Int)) = decide (x = c)) := by
  by_cases h : x = c
  · subst h; simp
  · rw [decide_eq_false h, beq_eq_false_iff_ne]
    intro h'
    exact h (UInt8.toNat_inj.1 (by omega))
set_option maxHeartbeats 4000000 in
theorem first_any (s : ByteArray) (last : Bool) (hs : s.size ≤ 1048576) (h1 : s.size ≠ 0) (w : World) (hE : Env w) : Calls Tryd.prog 26 #[.string s, .bool last] w fun e w' => e = .returned (.tuple #[kyv (firstL s.data.toList last).1, .int .i64 ((firstL s.data.toList last).2 : Nat)]) ∧ Below w.heap.size w w' := by
  have kb := kb_z w
  have Z := hz w
  have E1 := hE.below kb
  have hsz : s.data.toList.length = s.size := Array.length_toList
  have h0l : 0 < s.size := by omega
  obtain ⟨x, hx⟩ : ∃ x, s[0]'h0l = x := ⟨_, rfl⟩
  have hg0 : s.data.toList.getD 0 0 = x := by rw [get_zero s 0 h0l]; exact hx
  have i0 : (0 : Int) < (s.size : Int) := by omega
  obtain ⟨res, hres⟩ : ∃ res, firstL s.data.toList last = res := ⟨_, rfl⟩
  have HR : Hid (firstL s.data.toList last = res) := hres
  unfold firstL at HR
  rw [hg0, hsz] at HR
  rw [hres]
  clear hres hg0 hE
  have jx := u8_beq x 27
  rw [show (((27 : UInt8).toNat : Nat) : Int) = 27 from rfl] at jx
  by_cases c0 : x = 27
  · have e0 := HR.out
    rw [if_neg (by simp [c0])] at e0
    rw [decide_eq_true c0] at jx
    have jn : ((x.toNat : Int) != 27) = false := by rw [bne, jx]; rfl
    clear HR c0
    by_cases c1 : s.size = 1
    · rw [if_pos c1] at e0
      have HU := fun W => unended_any last W
      rw [e0] at HU
      obtain ⟨⟨kd, rr, nn, hh⟩, zz⟩ := res
      unfold kyv at HU ⊢
      simp only at HU ⊢
      have i1 : ((s.size : Int) == 1) = true := by rw [beq_iff_eq]; omega
      clear e0 hsz c1 E1
      go_enter Tryd.func26, Tryd.ntmps26
      go_wp2_with (first | (go_at_call 44; refine (HU _).mono ?_; rintro e W2 ⟨rfl, b2⟩; have z2 := held_block b2; replace kb := kb.trans (b2.mono kb.size)) | (refine wpList_store_row rfl 23 (.tmp 4) (.tmp 23) rfl (w.heap.size) #[.int .i64 kd, .int .i32 rr, .int .i64 nn, .int .i64 hh] rfl rfl _ _ z2 (by kernel_rfl) rfl (one4 _ _ _ _) ?_))
      (try simp only [Exit.inBlock, Exit.then])
      refine bodyPost_ret (v := .tuple #[.agg #[.int .i64 kd, .int .i32 rr, .int .i64 nn, .int .i64 hh], .int .i64 zz]) ?_ rfl ⟨rfl, below_setRow kb (Nat.le_refl _) _⟩
      exact results_key_tmp rfl _ _ w.heap.size _ _ _ _ rfl (setRow_heap _ _ _ _ _ _ z2) Tryd.underlying23 rfl (by kernel_rfl) _ rfl
    · rw [if_neg c1] at e0
      have i1 : ((s.size : Int) == 1) = false := by rw [beq_eq_false_iff_ne]; omega
      have h1l : 1 < s.size := by omega
      have i2 : (1 : Int) < (s.size : Int) := by omega
      have i3 : (1 : Int) ≤ (s.size : Int) := by omega
      obtain ⟨y, hy⟩ : ∃ y, s[1]'h1l = y := ⟨_, rfl⟩
      have hg1 : s.data.toList.getD 1 0 = y := by rw [get_zero s 1 h1l]; exact hy
      rw [hg1] at e0
      clear hg1
      have j91 := u8_beq y 91
      have j79 := u8_beq y 79
      have j27 := u8_beq y 27
      have j9 := u8_beq y 9
      rw [show (((91 : UInt8).toNat : Nat) : Int) = 91 from rfl] at j91
      rw [show (((79 : UInt8).toNat : Nat) : Int) = 79 from rfl] at j79
      rw [show (((27 : UInt8).toNat : Nat) : Int) = 27 from rfl] at j27
      rw [show (((9 : UInt8).toNat : Nat) : Int) = 9 from rfl] at j9
      by_cases c2 : y = 91 ∨ y = 79
      · rw [if_pos c2] at e0
        have HU := sequence_any s last hs (by omega) _ E1.errs E1.num
        rw [e0] at HU
        obtain ⟨⟨kd, rr, nn, hh⟩, zz⟩ := res
        unfold kyv at HU ⊢
        simp only at HU ⊢
        clear e0 hsz c1 E1 j27 j9
        by_cases c3 : y = 91
        · rw [decide_eq_true c3] at j91
          clear c2 c3 j79
          go_enter Tryd.func26, Tryd.ntmps26
          go_wp2_with (first | (go_at_call 45; refine HU.mono ?_; rintro e W2 ⟨rfl, b2⟩; have z2 := held_block b2; replace kb := kb.trans (b2.mono kb.size)) | (refine wpList_store_row rfl 23 (.tmp 4) (.tmp 37) rfl (w.heap.size) #[.int .i64 kd, .int .i32 rr, .int .i64 nn, .int .i64 hh] rfl rfl _ _ z2 (by kernel_rfl) rfl (one4 _ _ _ _) ?_))
          (try simp only [Exit.inBlock, Exit.then])
          refine bodyPost_ret (v := .tuple #[.agg #[.int .i64 kd, .int .i32 rr, .int .i64 nn, .int .i64 hh], .int .i64 zz]) ?_ rfl ⟨rfl, below_setRow kb (Nat.le_refl _) _⟩
          exact results_key_tmp rfl _ _ w.heap.size _ _ _ _ rfl (setRow_heap _ _ _ _ _ _ z2) Tryd.underlying23 rfl (by kernel_rfl) _ rfl
        · rw [decide_eq_false c3] at j91
          rw [decide_eq_true (c2.resolve_left c3)] at j79
          clear c2 c3
          go_enter Tryd.func26, Tryd.ntmps26
          go_wp2_with (first | (go_at_call 45; refine HU.mono ?_; rintro e W2 ⟨rfl, b2⟩; have z2 := held_block b2; replace kb := kb.trans (b2.mono kb.size)) | (refine wpList_store_row rfl 23 (.tmp 4) (.tmp 37) rfl (w.heap.size) #[.int .i64 kd, .int .i32 rr, .int .i64 nn, .int .i64 hh] rfl rfl _ _ z2 (by kernel_rfl) rfl (one4 _ _ _ _) ?_))
          (try simp only [Exit.inBlock, Exit.then])
          refine bodyPost_ret (v := .tuple #[.agg #[.int .i64 kd, .int .i32 rr, .int .i64 nn, .int .i64 hh], .int .i64 zz]) ?_ rfl ⟨rfl, below_setRow kb (Nat.le_refl _) _⟩
          exact results_key_tmp rfl _ _ w.heap.size _ _ _ _ rfl (setRow_heap _ _ _ _ _ _ z2) Tryd.underlying23 rfl (by kernel_rfl) _ rfl
      · rw [if_neg c2] at e0
        rw [decide_eq_false (fun h => c2 (Or.inl h))] at j91
        rw [decide_eq_false (fun h => c2 (Or.inr h))] at j79
        clear c2
        by_cases c4 : y = 27 ∨ y = 9
        · rw [if_pos c4] at e0
          subst e0
          clear hsz c1 E1
          by_cases c5 : y = 27
          · rw [decide_eq_true c5] at j27
            clear c4 c5 j9
            go_enter Tryd.func26, Tryd.ntmps26
            go_wp2_with (refine wpList_store_row rfl 23 (.tmp 4) (.tmp 48) rfl (w.heap.size) #[.int .i64 5, .int .i32 0, .int .i64 0, .int .i64 0] rfl rfl _ _ Z (by kernel_rfl) rfl (one4 _ _ _ _) ?_)
            (try simp only [Exit.inBlock, Exit.then])
            refine bodyPost_ret (v := .tuple #[.agg #[.int .i64 5, .int .i32 0, .int .i64 0, .int .i64 0], .int .i64 1]) ?_ rfl ⟨rfl, below_setRow kb (Nat.le_refl _) _⟩
            exact results_key_tmp rfl _ _ w.heap.size _ _ _ _ rfl (setRow_heap _ _ _ _ _ _ Z) Tryd.underlying23 rfl (by kernel_rfl) _ rfl
          · rw [decide_eq_false c5] at j27
            rw [decide_eq_true (c4.resolve_left c5)] at j9
            clear c4 c5
            go_enter Tryd.func26, Tryd.ntmps26
            go_wp2_with (refine wpList_store_row rfl 23 (.tmp 4) (.tmp 48) rfl (w.heap.size) #[.int .i64 5, .int .i32 0, .int .i64 0, .int .i64 0] rfl rfl _ _ Z (by kernel_rfl) rfl (one4 _ _ _ _) ?_)
            (try simp only [Exit.inBlock, Exit.then])
            refine bodyPost_ret (v := .tuple #[.agg #[.int .i64 5, .int .i32 0, .int .i64 0, .int .i64 0], .int .i64 1]) ?_ rfl ⟨rfl, below_setRow kb (Nat.le_refl _) _⟩
            exact results_key_tmp rfl _ _ w.heap.size _ _ _ _ rfl (setRow_heap _ _ _ _ _ _ Z) Tryd.underlying23 rfl (by kernel_rfl) _ rfl
        · rw [if_neg c4] at e0
          rw [decide_eq_false (fun h => c4 (Or.inl h))] at j27
          rw [decide_eq_false (fun h => c4 (Or.inr h))] at j9
          clear c4
          have HP := plain_any (s.extract 1 s.size) last _ E1.tab E1.u8 (by rw [ByteArray.size_extract]; omega)
          rw [ext_one] at HP
          have hho := plain_held (s.data.toList.drop 1) last
          have hpl := plain_le (s.data.toList.drop 1) last (by intro h; have := congrArg List.length h; rw [List.length_drop, hsz] at this; simp at this; omega)
          rw [List.length_drop, hsz] at hpl
          obtain ⟨pp, hpp⟩ : ∃ pp, plainL (s.data.toList.drop 1) last = pp := ⟨_, rfl⟩
          rw [hpp] at HP e0 hho hpl
          clear hpp E1
          obtain ⟨⟨kd, rr, nn, hh⟩, z⟩ := pp
          simp only at e0 hho hpl
          unfold kyv at HP
          simp only at HP
          by_cases c5 : z = 0
          · rw [if_pos c5] at e0
            subst e0
            subst c5
            clear hho hpl hsz c1
            go_enter Tryd.func26, Tryd.ntmps26
            go_wp2_with (first | (go_at_call 43; refine HP.mono ?_; rintro e W2 ⟨rfl, b2⟩; have z2 := held_block b2; replace kb := kb.trans (b2.mono kb.size); have z3 := by_block z2 ((Below.refl _ _).alloc (Nat.le_refl _) (.cells #[.int .i64 kd, .int .i32 rr, .int .i64 nn, .int .i64 hh] 23)); have k3 := kb.alloc kb.size (.cells #[.int .i64 kd, .int .i32 rr, .int .i64 nn, .int .i64 hh] 23)) | (refine wpList_store_row rfl 23 (.tmp 4) (.tmp 58) rfl (w.heap.size) #[.int .i64 0, .int .i32 0, .int .i64 0, .int .i64 0] rfl rfl _ _ z3 (by kernel_rfl) rfl (one4 _ _ _ _) ?_))
            (try simp only [Exit.inBlock, Exit.then])
            refine bodyPost_ret (v := .tuple #[.agg #[.int .i64 0, .int .i32 0, .int .i64 0, .int .i64 0], .int .i64 0]) ?_ rfl ⟨rfl, below_setRow k3 (Nat.le_refl _) _⟩
            exact results_key_tmp rfl _ _ w.heap.size _ _ _ _ rfl (setRow_heap _ _ _ _ _ _ z3) Tryd.underlying23 rfl (by kernel_rfl) _ rfl
          · rw [if_neg c5] at e0
            subst e0
            have ho := or_two hh hho
            have iz : ((z : Int) == 0) = false := by rw [beq_eq_false_iff_ne]; omega
            have hw : wrap64 (1 + (z : Int)) = 1 + (z : Int) := by unfold wrap64; omega
            have hc : ((1 + z : Nat) : Int) = 1 + (z : Int) := by omega
            have HHO : Hid (hh = 0 ∨ hh = 4) := hho
            clear hho hsz c1
            unfold kyv
            simp only
            rw [hc]
            clear hc
            go_enter Tryd.func26, Tryd.ntmps26
            go_wp2_with (first | (go_at_call 43; refine HP.mono ?_; rintro e W2 ⟨rfl, b2⟩; have z2 := held_block b2; replace kb := kb.trans (b2.mono kb.size); have z3 := by_block z2 ((Below.refl _ _).alloc (Nat.le_refl _) (.cells #[.int .i64 kd, .int .i32 rr, .int .i64 nn, .int .i64 (alt hh)] 23)); have k3 := kb.alloc kb.size (.cells #[.int .i64 kd, .int .i32 rr, .int .i64 nn, .int .i64 (alt hh)] 23)) | (refine wpList_store_row rfl 23 (.tmp 4) (.tmp 63) rfl (w.heap.size) #[.int .i64 kd, .int .i32 rr, .int .i64 nn, .int .i64 (alt hh)] rfl rfl _ _ z3 (by kernel_rfl) rfl (one4 _ _ _ _) ?_))
            (try simp only [Exit.inBlock, Exit.then])
            refine bodyPost_ret (v := .tuple #[.agg #[.int .i64 kd, .int .i32 rr, .int .i64 nn, .int .i64 (alt hh)], .int .i64 (1 + (z : Int))]) ?_ rfl ⟨rfl, below_setRow k3 (Nat.le_refl _) _⟩
            exact results_key_tmp rfl _ _ w.heap.size _ _ _ _ rfl (setRow_heap _ _ _ _ _ _ z3) Tryd.underlying23 rfl (by kernel_rfl) _ rfl
  · have e0 := HR.out
    rw [if_pos c0] at e0
    rw [decide_eq_false c0] at jx
    have jn : ((x.toNat : Int) != 27) = true := by rw [bne, jx]; rfl
    have HU := plain_any s last _ E1.tab E1.u8 h1
    rw [e0] at HU
    clear HR c0 e0 E1 hsz
    obtain ⟨⟨kd, rr, nn, hh⟩, zz⟩ := res
    unfold kyv at HU ⊢
    simp only at HU ⊢
    go_enter Tryd.func26, Tryd.ntmps26
    go_wp2_with (first | (go_at_call 43; refine HU.mono ?_; rintro e W2 ⟨rfl, b2⟩; have z2 := held_block b2; replace kb := kb.trans (b2.mono kb.size)) | (refine wpList_store_row rfl 23 (.tmp 4) (.tmp 15) rfl (w.heap.size) #[.int .i64 kd, .int .i32 rr, .int .i64 nn, .int .i64 hh] rfl rfl _ _ z2 (by kernel_rfl) rfl (one4 _ _ _ _) ?_))
    (try simp only [Exit.inBlock, Exit.then])
    refine bodyPost_ret (v := .tuple #[.agg #[.int .i64 kd, .int .i32 rr, .int .i64 nn, .int .i64 hh], .int .i64 zz]) ?_ rfl ⟨rfl, below_setRow kb (Nat.le_refl _) _⟩
    exact results_key_tmp rfl _ _ w.heap.size _ _ _ _ rfl (setRow_heap _ _ _ _ _ _ z2) Tryd.underlying23 rfl (by kernel_rfl) _ rfl
end Kys
end Go.Proofs.YtjilgapoioploaaDoor
