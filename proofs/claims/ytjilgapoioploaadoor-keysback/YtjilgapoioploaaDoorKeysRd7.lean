/- Package keys: what a sequence tells. -/
import Derived.Test.YtjilgapoioploaaDoorKeysRd3
import Derived.Test.YtjilgapoioploaaDoorKeysRd6
namespace Go.Proofs.YtjilgapoioploaaDoor
open Go.ChangeShapes Go.WideShapes Go.ChangeAt Go.RowKit
namespace Kys
open Txt (wd bs dec)
theorem u8_nat (c : UInt8) : ((c.toNat : Int)).toNat.toUInt8 = c := by simp
theorem lett_lt (c : UInt8) : Lib.indexByte lettersL c ≤ 5 := by
  unfold lettersL
  simp only [Lib.indexByte]
  repeat' split
  all_goals omega
set_option maxHeartbeats 4000000 in
theorem told_any (c : UInt8) (s : ByteArray) (f : UInt8) (hs : s.size ≤ 1048576) (hd : ∀ x ∈ s.data.toList, x.toNat ≠ 45) (w : World) (hE : Errs w) (hN : NumTab w) : Calls Tryd.prog 65 #[.int .u8 (c.toNat : Int), .string s, .int .u8 (f.toNat : Int)] w fun e w' => e = .returned (.tuple #[kyv (kOr (toldL c s.data.toList f)), .bool (toldL c s.data.toList f).isSome]) ∧ Below w.heap.size w w' := by
  have kb := kb_z w
  have Z := hz w
  have hE1 := zErrs hE
  have hN1 := hN.below kb
  have HI := fun W => Tryd.strings_IndexByte ⟨#[65, 66, 67, 68, 72, 70]⟩ (f.toNat : Int) W
  rw [u8_nat] at HI
  have hL : (⟨#[65, 66, 67, 68, 72, 70]⟩ : ByteArray).data.toList = lettersL := rfl
  rw [hL] at HI
  clear hL
  have hge := Lib.indexByte_ge lettersL f
  have hle := lett_lt f
  have hfl := f.toNat_lt
  have hcl := c.toNat_lt
  obtain ⟨res, hres⟩ : ∃ res, toldL c s.data.toList f = res := ⟨_, rfl⟩
  have HR : Hid (toldL c s.data.toList f = res) := hres
  unfold toldL at HR
  rw [hres]
  clear hres hE hN
  by_cases h0 : 0 ≤ Lib.indexByte lettersL f
  · have HL := fun W (h : Errs W) => withLetter_any (6 + Lib.indexByte lettersL f) s hs W h
    have e : withLetterL (6 + Lib.indexByte lettersL f) s.data.toList = res := by rw [← HR.out, if_pos h0]
    rw [e] at HL
    clear e HR hd
    generalize Lib.indexByte lettersL f = q at *
    have hw : wrap64 (6 + q) = 6 + q := by unfold wrap64; omega
    generalize kOr res = kk at *
    obtain ⟨kd, rr, nn, hh⟩ := kk
    generalize res.isSome = ok at *
    unfold kyv at HL ⊢
    simp only at HL ⊢
    go_enter Tryd.func65, Tryd.ntmps65
    go_wp2_with (first | (go_at_call 50; refine (HI _).mono ?_; rintro e W1 ⟨rfl, hW1⟩; subst hW1) | (go_at_call 77; refine (HL _ hE1).mono ?_; rintro e W2 ⟨rfl, b2⟩; have z2 := held_block b2; replace kb := kb.trans (b2.mono kb.size)) | (refine wpList_store_row rfl 23 (.tmp 6) (.tmp 18) rfl (w.heap.size) #[.int .i64 kd, .int .i32 rr, .int .i64 nn, .int .i64 hh] rfl rfl _ _ z2 (by kernel_rfl) rfl (one4 _ _ _ _) ?_))
    (try simp only [Exit.inBlock, Exit.then])
    refine bodyPost_ret (v := .tuple #[.agg #[.int .i64 kd, .int .i32 rr, .int .i64 nn, .int .i64 hh], .bool ok]) ?_ rfl ⟨rfl, below_setRow kb (Nat.le_refl _) _⟩
    exact results_key_tmp rfl _ _ w.heap.size _ _ _ _ rfl (setRow_heap _ _ _ _ _ _ z2) Tryd.underlying23 rfl (by kernel_rfl) _ rfl
  · by_cases h1 : f = 126
    · have HL := fun W (h : Errs W) (h' : NumTab W) => withNumber_any s hs hd W h h'
      have e : withNumberL s.data.toList = res := by rw [← HR.out, if_neg h0, if_pos h1]
      rw [e] at HL
      clear e HR hd
      have i1 : ((f.toNat : Int) == 126) = true := by rw [h1]; rfl
      clear h1
      generalize Lib.indexByte lettersL f = q at *
      generalize kOr res = kk at *
      obtain ⟨kd, rr, nn, hh⟩ := kk
      generalize res.isSome = ok at *
      unfold kyv at HL ⊢
      simp only at HL ⊢
      go_enter Tryd.func65, Tryd.ntmps65
      go_wp2_with (first | (go_at_call 50; refine (HI _).mono ?_; rintro e W1 ⟨rfl, hW1⟩; subst hW1) | (go_at_call 78; refine (HL _ hE1 hN1).mono ?_; rintro e W2 ⟨rfl, b2⟩; have z2 := held_block b2; replace kb := kb.trans (b2.mono kb.size)) | (refine wpList_store_row rfl 23 (.tmp 6) (.tmp 25) rfl (w.heap.size) #[.int .i64 kd, .int .i32 rr, .int .i64 nn, .int .i64 hh] rfl rfl _ _ z2 (by kernel_rfl) rfl (one4 _ _ _ _) ?_))
      (try simp only [Exit.inBlock, Exit.then])
      refine bodyPost_ret (v := .tuple #[.agg #[.int .i64 kd, .int .i32 rr, .int .i64 nn, .int .i64 hh], .bool ok]) ?_ rfl ⟨rfl, below_setRow kb (Nat.le_refl _) _⟩
      exact results_key_tmp rfl _ _ w.heap.size _ _ _ _ rfl (setRow_heap _ _ _ _ _ _ z2) Tryd.underlying23 rfl (by kernel_rfl) _ rfl
    · have i1 : ((f.toNat : Int) == 126) = false := by
        rw [beq_eq_false_iff_ne]
        intro h
        exact h1 (UInt8.toNat_inj.1 (by simp; omega))
      have E1 : (if f = 90 ∧ c = 91 ∧ s.data.toList = [] then some (⟨3, 0, 0, 1⟩ : Ky) else none) = res := by rw [← HR.out, if_neg h0, if_neg h1]
      clear HR
      have HR : Hid ((if f = 90 ∧ c = 91 ∧ s.data.toList = [] then some (⟨3, 0, 0, 1⟩ : Ky) else none) = res) := E1
      clear E1 hE1 hN1 hd h1
      have jf : ∀ x : UInt8, (((f.toNat : Int) == (x.toNat : Int)) = decide (f = x)) := fun x => by
        by_cases h : f = x
        · subst h; simp
        · rw [decide_eq_false h, beq_eq_false_iff_ne]
          intro h'
          exact h (UInt8.toNat_inj.1 (by omega))
      have jc : ∀ x : UInt8, (((c.toNat : Int) == (x.toNat : Int)) = decide (c = x)) := fun x => by
        by_cases h : c = x
        · subst h; simp
        · rw [decide_eq_false h, beq_eq_false_iff_ne]
          intro h'
          exact h (UInt8.toNat_inj.1 (by omega))
      have js : (s.toList == []) = decide (s.data.toList = []) := by
        by_cases h : s.data.toList = []
        · rw [decide_eq_true h, beq_iff_eq, Lib.toList_data]; exact h
        · rw [decide_eq_false h, beq_eq_false_iff_ne, Lib.toList_data]; exact h
      have jf1 := jf 90
      have jc1 := jc 91
      rw [show (((90 : UInt8).toNat : Nat) : Int) = 90 from rfl] at jf1
      rw [show (((91 : UInt8).toNat : Nat) : Int) = 91 from rfl] at jc1
      clear jf jc
      by_cases g1 : f = 90
      · by_cases g2 : c = 91
        · by_cases g3 : s.data.toList = []
          · have e : res = some ⟨3, 0, 0, 1⟩ := by rw [← HR.out, if_pos ⟨g1, g2, g3⟩]
            subst e
            rw [decide_eq_true g1] at jf1
            rw [decide_eq_true g2] at jc1
            rw [decide_eq_true g3] at js
            clear HR g1 g2 g3
            generalize Lib.indexByte lettersL f = q at *
            go_enter Tryd.func65, Tryd.ntmps65
            go_wp2_with (first | (go_at_call 50; refine (HI _).mono ?_; rintro e W1 ⟨rfl, hW1⟩; subst hW1) | (refine wpList_store_row rfl 23 (.tmp 6) (.tmp 38) rfl (w.heap.size) #[.int .i64 3, .int .i32 0, .int .i64 0, .int .i64 1] rfl rfl _ _ Z (by kernel_rfl) rfl (one4 _ _ _ _) ?_))
            (try simp only [Exit.inBlock, Exit.then])
            refine bodyPost_ret (v := .tuple #[.agg #[.int .i64 3, .int .i32 0, .int .i64 0, .int .i64 1], .bool true]) ?_ rfl ⟨rfl, below_setRow kb (Nat.le_refl _) _⟩
            exact results_key_tmp rfl _ _ w.heap.size _ _ _ _ rfl (setRow_heap _ _ _ _ _ _ Z) Tryd.underlying23 rfl (by kernel_rfl) _ rfl
          · have e : res = none := by rw [← HR.out, if_neg (fun h => g3 h.2.2)]
            subst e
            rw [decide_eq_true g1] at jf1
            rw [decide_eq_true g2] at jc1
            rw [decide_eq_false g3] at js
            clear HR g1 g2 g3
            generalize Lib.indexByte lettersL f = q at *
            go_enter Tryd.func65, Tryd.ntmps65
            go_wp2_with (first | (go_at_call 50; refine (HI _).mono ?_; rintro e W1 ⟨rfl, hW1⟩; subst hW1) | (refine wpList_store_row rfl 23 (.tmp 6) (.tmp 39) rfl (w.heap.size) #[.int .i64 0, .int .i32 0, .int .i64 0, .int .i64 0] rfl rfl _ _ Z (by kernel_rfl) rfl (one4 _ _ _ _) ?_))
            (try simp only [Exit.inBlock, Exit.then])
            refine bodyPost_ret (v := .tuple #[.agg #[.int .i64 0, .int .i32 0, .int .i64 0, .int .i64 0], .bool false]) ?_ rfl ⟨rfl, below_setRow kb (Nat.le_refl _) _⟩
            exact results_key_tmp rfl _ _ w.heap.size _ _ _ _ rfl (setRow_heap _ _ _ _ _ _ Z) Tryd.underlying23 rfl (by kernel_rfl) _ rfl
        · have e : res = none := by rw [← HR.out, if_neg (fun h => g2 h.2.1)]
          subst e
          rw [decide_eq_true g1] at jf1
          rw [decide_eq_false g2] at jc1
          clear HR g1 g2 js
          generalize Lib.indexByte lettersL f = q at *
          go_enter Tryd.func65, Tryd.ntmps65
          go_wp2_with (first | (go_at_call 50; refine (HI _).mono ?_; rintro e W1 ⟨rfl, hW1⟩; subst hW1) | (refine wpList_store_row rfl 23 (.tmp 6) (.tmp 39) rfl (w.heap.size) #[.int .i64 0, .int .i32 0, .int .i64 0, .int .i64 0] rfl rfl _ _ Z (by kernel_rfl) rfl (one4 _ _ _ _) ?_))
          (try simp only [Exit.inBlock, Exit.then])
          refine bodyPost_ret (v := .tuple #[.agg #[.int .i64 0, .int .i32 0, .int .i64 0, .int .i64 0], .bool false]) ?_ rfl ⟨rfl, below_setRow kb (Nat.le_refl _) _⟩
          exact results_key_tmp rfl _ _ w.heap.size _ _ _ _ rfl (setRow_heap _ _ _ _ _ _ Z) Tryd.underlying23 rfl (by kernel_rfl) _ rfl
      · have e : res = none := by rw [← HR.out, if_neg (fun h => g1 h.1)]
        subst e
        rw [decide_eq_false g1] at jf1
        clear HR g1 js jc1
        generalize Lib.indexByte lettersL f = q at *
        go_enter Tryd.func65, Tryd.ntmps65
        go_wp2_with (first | (go_at_call 50; refine (HI _).mono ?_; rintro e W1 ⟨rfl, hW1⟩; subst hW1) | (refine wpList_store_row rfl 23 (.tmp 6) (.tmp 39) rfl (w.heap.size) #[.int .i64 0, .int .i32 0, .int .i64 0, .int .i64 0] rfl rfl _ _ Z (by kernel_rfl) rfl (one4 _ _ _ _) ?_))
        (try simp only [Exit.inBlock, Exit.then])
        refine bodyPost_ret (v := .tuple #[.agg #[.int .i64 0, .int .i32 0, .int .i64 0, .int .i64 0], .bool false]) ?_ rfl ⟨rfl, below_setRow kb (Nat.le_refl _) _⟩
        exact results_key_tmp rfl _ _ w.heap.size _ _ _ _ rfl (setRow_heap _ _ _ _ _ _ Z) Tryd.underlying23 rfl (by kernel_rfl) _ rfl
end Kys
end Go.Proofs.YtjilgapoioploaaDoor
