/- Package keys: a sequence. -/
import Derived.Test.YtjilgapoioploaaDoorKeysRd7
namespace Go.Proofs.YtjilgapoioploaaDoor
open Go.ChangeShapes Go.WideShapes Go.ChangeAt Go.RowKit
namespace Kys
open Txt (wd bs dec)
theorem aheadF_num : ∀ (f : Nat) (l : List UInt8), ∀ c ∈ l.take (aheadF f l), c.toNat ≠ 45
  | 0, l, c, hc => by simp [aheadF] at hc
  | f + 1, [], c, hc => by simp at hc
  | f + 1, x :: r, c, hc => by
    unfold aheadF at hc
    split at hc
    · rename_i hx
      rw [List.take_succ_cons] at hc
      rcases List.mem_cons.1 hc with rfl | hc
      · unfold isNum at hx
        simp at hx
        omega
      · exact aheadF_num f r c hc
    · simp at hc
theorem end_num (l : List UInt8) : ∀ c ∈ (l.drop 2).take (endL l - 2), c.toNat ≠ 45 := by
  intro c hc
  unfold endL at hc
  split at hc
  · rw [Nat.add_sub_cancel_left] at hc
    exact aheadF_num 10 _ c hc
  · simp at hc
theorem end_two (l : List UInt8) : 2 ≤ endL l := by unfold endL; split <;> omega
theorem ext_two (s : ByteArray) : (s.extract 2 s.size).data.toList = s.data.toList.drop 2 := by
  rw [toL_extract, List.take_of_length_le (by rw [Array.length_toList]; exact Nat.le_refl _)]
theorem ext_mid (s : ByteArray) (e : Nat) : (s.extract 2 e).data.toList = (s.data.toList.drop 2).take (e - 2) := by
  rw [toL_extract, List.drop_take]
theorem held_drew {w W : World} {o : Obj} (h : Below (w.alloc o).drew.heap.size (w.alloc o).drew W) : W.heap[w.heap.size]? = some o := by
  rw [h.block _ (by show w.heap.size < (w.alloc o).heap.size; rw [show (w.alloc o).heap.size = w.heap.size + 1 by simp]; omega)]
  exact heap_alloc_new _ _
theorem four_of {W : World} {b : Nat} {p q r z : Value} {t : TypeId} (h : W.heap[b]? = some (.cells #[p, q, r, z] t (0, 0))) : (W.cell? ⟨b, 0, none⟩ = some p ∧ W.cell? ⟨b, 1, none⟩ = some q ∧ W.cell? ⟨b, 2, none⟩ = some r ∧ W.cell? ⟨b, 3, none⟩ = some z) ∧ W.frozen? ⟨b, 0, none⟩ = false ∧ W.frozen? ⟨b, 1, none⟩ = false ∧ W.frozen? ⟨b, 2, none⟩ = false ∧ W.frozen? ⟨b, 3, none⟩ = false := by
  have hf : ∀ i, W.frozen? ⟨b, i, none⟩ = false := fun i => by
    simp [World.frozen?, h]
  unfold World.cell?
  rw [h]
  exact ⟨⟨rfl, rfl, rfl, rfl⟩, hf 0, hf 1, hf 2, hf 3⟩
theorem seq_i {w W1 W2 : World} {A : Array Value} (k1 : Below w.heap.size w W1) (z1 : W1.heap[w.heap.size]? = some (.cells #[.int .i64 0, .int .i32 0, .int .i64 0, .int .i64 0] 23)) (b2 : Below W1.drew.heap.size W1.drew W2) : (W2.alloc (.cells A 23)).heap[W2.heap.size]? = some (.cells A 23 (0, 0)) ∧ (W2.alloc (.cells A 23)).heap[w.heap.size]? = some (.cells #[.int .i64 0, .int .i32 0, .int .i64 0, .int .i64 0] 23) ∧ Below w.heap.size w (W2.alloc (.cells A 23)) ∧ ¬ w.heap.size = W2.heap.size := by
  have hl : w.heap.size < W1.heap.size := (Array.getElem?_eq_some_iff.1 z1).1
  have b2' : Below W1.heap.size W1 W2 := ⟨b2.os, b2.tape, b2.output, b2.size, b2.block⟩
  have z2 : W2.heap[w.heap.size]? = some (.cells #[.int .i64 0, .int .i32 0, .int .i64 0, .int .i64 0] 23) := by_block z1 b2'
  have k2 := k1.trans (b2'.mono k1.size)
  have := b2'.size
  exact ⟨heap_alloc_new _ _, by_block z2 ((Below.refl _ _).alloc (Nat.le_refl _) _), k2.alloc k2.size _, by omega⟩
theorem seq_ii {w W1 W2 : World} {p q r z : Value} (k1 : Below w.heap.size w W1) (z1 : W1.heap[w.heap.size]? = some (.cells #[.int .i64 0, .int .i32 0, .int .i64 0, .int .i64 0] 23)) (b2 : Below (W1.alloc (.cells #[.int .i64 0, .int .i32 0, .int .i64 0, .int .i64 0] 23)).drew.heap.size (W1.alloc (.cells #[.int .i64 0, .int .i32 0, .int .i64 0, .int .i64 0] 23)).drew W2) : ((((W2.setCell ⟨W1.heap.size, 0, none⟩ p).setCell ⟨W1.heap.size, 1, none⟩ q).setCell ⟨W1.heap.size, 2, none⟩ r).setCell ⟨W1.heap.size, 3, none⟩ z).heap[W1.heap.size]? = some (.cells #[p, q, r, z] 23 (0, 0)) ∧ ((((W2.setCell ⟨W1.heap.size, 0, none⟩ p).setCell ⟨W1.heap.size, 1, none⟩ q).setCell ⟨W1.heap.size, 2, none⟩ r).setCell ⟨W1.heap.size, 3, none⟩ z).heap[w.heap.size]? = some (.cells #[.int .i64 0, .int .i32 0, .int .i64 0, .int .i64 0] 23) ∧ Below w.heap.size w ((((W2.setCell ⟨W1.heap.size, 0, none⟩ p).setCell ⟨W1.heap.size, 1, none⟩ q).setCell ⟨W1.heap.size, 2, none⟩ r).setCell ⟨W1.heap.size, 3, none⟩ z) ∧ ¬ w.heap.size = W1.heap.size := by
  have hl : w.heap.size < W1.heap.size := (Array.getElem?_eq_some_iff.1 z1).1
  have zz := held_drew b2
  have b2' : Below W1.heap.size W1 W2 := by
    refine ((Below.refl _ _).alloc (Nat.le_refl _) (.cells #[.int .i64 0, .int .i32 0, .int .i64 0, .int .i64 0] 23)).drew.trans (b2.mono ?_)
    show W1.heap.size ≤ (W1.alloc (.cells #[.int .i64 0, .int .i32 0, .int .i64 0, .int .i64 0] 23)).heap.size
    rw [show (W1.alloc (.cells #[.int .i64 0, .int .i32 0, .int .i64 0, .int .i64 0] 23)).heap.size = W1.heap.size + 1 by simp]
    omega
  have z2 : W2.heap[w.heap.size]? = some (.cells #[.int .i64 0, .int .i32 0, .int .i64 0, .int .i64 0] 23) := by_block z1 b2'
  have k2 := k1.trans (b2'.mono k1.size)
  have e0 := heap_setCell_same W2 W1.heap.size 0 _ _ p zz
  have e1 := heap_setCell_same _ W1.heap.size 1 _ _ q e0
  have e2 := heap_setCell_same _ W1.heap.size 2 _ _ r e1
  have e3 := heap_setCell_same _ W1.heap.size 3 _ _ z e2
  refine ⟨e3, ?_, (((k2.setCell (p := ⟨W1.heap.size, 0, none⟩) (Nat.le_of_lt hl) p).setCell (p := ⟨W1.heap.size, 1, none⟩) (Nat.le_of_lt hl) q).setCell (p := ⟨W1.heap.size, 2, none⟩) (Nat.le_of_lt hl) r).setCell (p := ⟨W1.heap.size, 3, none⟩) (Nat.le_of_lt hl) z, by omega⟩
  rw [heap_setCell_other _ _ _ _ (show w.heap.size ≠ W1.heap.size by omega), heap_setCell_other _ _ _ _ (show w.heap.size ≠ W1.heap.size by omega), heap_setCell_other _ _ _ _ (show w.heap.size ≠ W1.heap.size by omega), heap_setCell_other _ _ _ _ (show w.heap.size ≠ W1.heap.size by omega)]
  exact z2
set_option maxHeartbeats 4000000 in
theorem sequence_any (s : ByteArray) (last : Bool) (hs : s.size ≤ 1048576) (h2 : 2 ≤ s.size) (w : World) (hE : Errs w) (hN : NumTab w) : Calls Tryd.prog 45 #[.string s, .bool last] w fun e w' => e = .returned (.tuple #[kyv (seqL s.data.toList last).1, .int .i64 ((seqL s.data.toList last).2 : Nat)]) ∧ Below w.heap.size w w' := by
  have kb := kb_z w
  have Z := hz w
  have hE1 := zErrs hE
  have hN1 := hN.below kb
  have hsz : s.data.toList.length = s.size := Array.length_toList
  have hle := end_le s.data.toList (by omega)
  have hee := end_two s.data.toList
  have h1l : 1 < s.size := by omega
  obtain ⟨x, hx⟩ : ∃ x, s[1]'h1l = x := ⟨_, rfl⟩
  have hg1 : s.data.toList.getD 1 0 = x := by rw [get_zero s 1 h1l]; exact hx
  have i0 : (1 : Int) < (s.size : Int) := by omega
  have i00 : (2 : Int) ≤ (s.size : Int) := by omega
  have HNA := fun W => numbersAhead_any (s.extract 2 s.size) W
  rw [ext_two] at HNA
  have HU := fun W => unended_any last W
  obtain ⟨res, hres⟩ : ∃ res, seqL s.data.toList last = res := ⟨_, rfl⟩
  have HR : Hid (seqL s.data.toList last = res) := hres
  unfold seqL at HR
  rw [hg1] at HR
  rw [hres]
  obtain ⟨en, hen⟩ : ∃ en, endL s.data.toList = en := ⟨_, rfl⟩
  have HEN : Hid ((if x = 91 then 2 + aheadF 10 (s.data.toList.drop 2) else 2) = en) := by
    unfold Hid
    rw [← hen]
    unfold endL
    rw [hg1]
  have hnum := end_num s.data.toList
  rw [hen] at HR hle hee hnum
  clear hres hen hE hN hg1
  rw [← ext_mid] at HR hnum
  have jx : (((x.toNat : Int) == 91) = decide (x = 91)) := by
    by_cases h : x = 91
    · subst h; rfl
    · rw [decide_eq_false h, beq_eq_false_iff_ne]
      intro h'
      exact h (UInt8.toNat_inj.1 (by rw [show (91 : UInt8).toNat = 91 from rfl]; omega))
  by_cases he : en = s.size
  · rw [if_pos (by rw [hsz]; exact he)] at HR
    have e : unendedL last = res := HR.out
    rw [e] at HU
    clear HR e hnum
    obtain ⟨⟨kd, rr, nn, hh⟩, zz⟩ := res
    unfold kyv at HU ⊢
    simp only at HU ⊢
    by_cases hx91 : x = 91
    · rw [decide_eq_true hx91] at jx
      have ea : aheadF 10 (s.data.toList.drop 2) = s.size - 2 := by have := HEN.out; rw [if_pos hx91] at this; omega
      rw [ea] at HNA
      have hw : wrap64 (2 + ((s.size - 2 : Nat) : Int)) = (s.size : Int) := by unfold wrap64; omega
      clear HEN ea he hle hee hx91 hsz
      go_enter Tryd.func45, Tryd.ntmps45
      go_wp2_with (first | (go_at_call 64; refine (HNA _).mono ?_; rintro e W1 ⟨rfl, b1⟩; have z1 := held_block b1; replace kb := kb.trans (b1.mono kb.size)) | (go_at_call 44; refine (HU _).mono ?_; rintro e W2 ⟨rfl, b2⟩; have z2 := by_block z1 b2; replace kb := kb.trans (b2.mono kb.size)) | (refine wpList_store_row rfl 23 (.tmp 4) (.tmp 23) rfl (w.heap.size) #[.int .i64 kd, .int .i32 rr, .int .i64 nn, .int .i64 hh] rfl rfl _ _ z2 (by kernel_rfl) rfl (one4 _ _ _ _) ?_))
      (try simp only [Exit.inBlock, Exit.then])
      refine bodyPost_ret (v := .tuple #[.agg #[.int .i64 kd, .int .i32 rr, .int .i64 nn, .int .i64 hh], .int .i64 zz]) ?_ rfl ⟨rfl, below_setRow kb (Nat.le_refl _) _⟩
      exact results_key_tmp rfl _ _ w.heap.size _ _ _ _ rfl (setRow_heap _ _ _ _ _ _ z2) Tryd.underlying23 rfl (by kernel_rfl) _ rfl
    · rw [decide_eq_false hx91] at jx
      have e2 : s.size = 2 := by have := HEN.out; rw [if_neg hx91] at this; omega
      have hq : (s.size : Int) = 2 := by omega
      have hq2 : ((2 : Int) == (s.size : Int)) = true := by rw [beq_iff_eq]; omega
      clear HEN he hle hee hx91 hsz HNA e2
      have HQ : Hid ((s.size : Int) = 2) := hq
      clear hq
      go_enter Tryd.func45, Tryd.ntmps45
      go_wp2_with (first | (go_at_call 44; refine (HU _).mono ?_; rintro e W2 ⟨rfl, b2⟩; have z2 := held_block b2; replace kb := kb.trans (b2.mono kb.size)) | (refine wpList_store_row rfl 23 (.tmp 4) (.tmp 23) rfl (w.heap.size) #[.int .i64 kd, .int .i32 rr, .int .i64 nn, .int .i64 hh] rfl rfl _ _ z2 (by kernel_rfl) rfl (one4 _ _ _ _) ?_))
      (try simp only [Exit.inBlock, Exit.then])
      refine bodyPost_ret (v := .tuple #[.agg #[.int .i64 kd, .int .i32 rr, .int .i64 nn, .int .i64 hh], .int .i64 zz]) ?_ rfl ⟨rfl, below_setRow kb (Nat.le_refl _) _⟩
      exact results_key_tmp rfl _ _ w.heap.size _ _ _ _ rfl (setRow_heap _ _ _ _ _ _ z2) Tryd.underlying23 rfl (by kernel_rfl) _ rfl
  · rw [if_neg (by rw [hsz]; exact he)] at HR
    have hlt : en < s.size := by omega
    obtain ⟨y, hy⟩ : ∃ y, s[en]'hlt = y := ⟨_, rfl⟩
    have hgy : s.data.toList.getD en 0 = y := by rw [get_zero s en hlt]; exact hy
    rw [hgy] at HR
    clear hgy HU
    have hmid : (s.extract 2 en).size ≤ 1048576 := by rw [ByteArray.size_extract]; omega
    have HT := fun W (h : Below (w.alloc (.cells #[.int .i64 0, .int .i32 0, .int .i64 0, .int .i64 0] 23)).heap.size (w.alloc (.cells #[.int .i64 0, .int .i32 0, .int .i64 0, .int .i64 0] 23)) W) => told_any x (s.extract 2 en) y hmid hnum W (hE1.below h) (hN1.below h)
    clear hnum hmid hE1 hN1
    have i1 : (en : Int) < (s.size : Int) := by omega
    have i2 : (2 : Int) ≤ (en : Int) := by omega
    have i3 : (en : Int) ≤ (s.size : Int) := by omega
    have i4 : ((en : Int) == (s.size : Int)) = false := by rw [beq_eq_false_iff_ne]; omega
    have hw1 : wrap64 ((en : Int) + 1) = (en : Int) + 1 := by unfold wrap64; omega
    obtain ⟨tr, htr⟩ : ∃ tr, toldL x (s.extract 2 en).data.toList y = tr := ⟨_, rfl⟩
    rw [htr] at HT HR
    cases tr with
    | none =>
      have e : res = (kEsc, 1) := HR.out.symm
      subst e
      clear HR htr
      simp only [kOr, Option.isSome_none, zk, kyv] at HT
      by_cases hx91 : x = 91
      · rw [decide_eq_true hx91] at jx
        generalize aheadF 10 (s.data.toList.drop 2) = a at *
        have ea : en = 2 + a := by have := HEN.out; rw [if_pos hx91] at this; omega
        subst ea
        have ca : ((2 + a : Nat) : Int) = 2 + (a : Int) := by omega
        rw [ca] at i1 i2 i3 i4 hw1
        have hto : (2 + (a : Int)).toNat = 2 + a := by omega
        clear HEN he hle hx91 hsz ca
        go_enter Tryd.func45, Tryd.ntmps45
        go_wp2_with (go_at_call 64; refine (HNA _).mono ?_; rintro e W1 ⟨rfl, b1⟩; have z1 := held_block b1; have k1 := kb.trans (b1.mono kb.size))
        clear HNA
        have HT1 := fun W (h : Below W1.heap.size W1 W) => HT W (b1.trans (h.mono b1.size))
        clear HT
        go_region_with (first | (go_at_call 65; refine (HT1 _ (by exact ((Below.refl _ _).alloc (Nat.le_refl _) (.cells #[.int .i64 0, .int .i32 0, .int .i64 0, .int .i64 0] 23)).drew)).mono ?_; rintro e W2 ⟨rfl, b2⟩; have zz := held_drew b2; obtain ⟨⟨y0, y1, y2, y3⟩, f0, f1, f2, f3⟩ := four_of zz) | (go_at_call 65; refine (HT1 _ (by exact (Below.refl _ _).drew)).mono ?_; rintro e W2 ⟨rfl, b2⟩))
        all_goals first
          | (have zz' := zz; clear zz y0 y1 y2 y3 f0 f1 f2 f3 zz'; obtain ⟨v7, vz, kV, hne⟩ := seq_ii (p := .int .i64 0) (q := .int .i32 0) (r := .int .i64 0) (z := .int .i64 0) k1 z1 b2; generalize (((W2.setCell ⟨W1.heap.size, 0, none⟩ (.int .i64 0)).setCell ⟨W1.heap.size, 1, none⟩ (.int .i32 0)).setCell ⟨W1.heap.size, 2, none⟩ (.int .i64 0)).setCell ⟨W1.heap.size, 3, none⟩ (.int .i64 0) = V at *; generalize W1.heap.size = B7 at *)
          | (obtain ⟨v7, vz, kV, hne⟩ := seq_i (A := #[.int .i64 0, .int .i32 0, .int .i64 0, .int .i64 0]) k1 z1 b2; generalize W2.alloc (.cells #[.int .i64 0, .int .i32 0, .int .i64 0, .int .i64 0] 23) = V at *; generalize W2.heap.size = B7 at *)
        all_goals clear b1 b2
        all_goals go_wp2_with (refine wpList_store_row rfl 23 (.tmp 4) (.tmp 39) rfl (w.heap.size) #[.int .i64 5, .int .i32 0, .int .i64 0, .int .i64 0] rfl rfl _ _ vz (by kernel_rfl) rfl (one4 _ _ _ _) ?_)
        all_goals (try simp only [Exit.inBlock, Exit.then])
        all_goals refine bodyPost_ret (v := .tuple #[.agg #[.int .i64 5, .int .i32 0, .int .i64 0, .int .i64 0], .int .i64 1]) ?_ rfl ⟨rfl, below_setRow kV (Nat.le_refl _) _⟩
        all_goals exact results_key_tmp rfl _ _ w.heap.size _ _ _ _ rfl (setRow_heap _ _ _ _ _ _ vz) Tryd.underlying23 rfl (by kernel_rfl) _ rfl
      · rw [decide_eq_false hx91] at jx
        have ea : en = 2 := by have := HEN.out; rw [if_neg hx91] at this; exact this.symm
        subst ea
        clear HEN he hle hx91 hsz HNA
        obtain ⟨W1, hW1⟩ : ∃ W1, w.alloc (.cells #[.int .i64 0, .int .i32 0, .int .i64 0, .int .i64 0] 23) = W1 := ⟨_, rfl⟩
        have HW1 : Hid (w.alloc (.cells #[.int .i64 0, .int .i32 0, .int .i64 0, .int .i64 0] 23) = W1) := hW1
        rw [hW1] at kb Z HT
        have k1 := kb
        have z1 := Z
        have b1 : True := trivial
        have HT1 := HT
        rw [show s.extract 2 2 = ByteArray.empty by simp] at HT1
        clear hW1 HT
        go_enter Tryd.func45, Tryd.ntmps45
        go_wp2_with fail
        rw [HW1.out]
        go_region_with (first | (go_at_call 65; refine (HT1 _ (by exact ((Below.refl _ _).alloc (Nat.le_refl _) (.cells #[.int .i64 0, .int .i32 0, .int .i64 0, .int .i64 0] 23)).drew)).mono ?_; rintro e W2 ⟨rfl, b2⟩; have zz := held_drew b2; obtain ⟨⟨y0, y1, y2, y3⟩, f0, f1, f2, f3⟩ := four_of zz) | (go_at_call 65; refine (HT1 _ (by exact (Below.refl _ _).drew)).mono ?_; rintro e W2 ⟨rfl, b2⟩))
        all_goals first
          | (have zz' := zz; clear zz y0 y1 y2 y3 f0 f1 f2 f3 zz'; obtain ⟨v7, vz, kV, hne⟩ := seq_ii (p := .int .i64 0) (q := .int .i32 0) (r := .int .i64 0) (z := .int .i64 0) k1 z1 b2; generalize (((W2.setCell ⟨W1.heap.size, 0, none⟩ (.int .i64 0)).setCell ⟨W1.heap.size, 1, none⟩ (.int .i32 0)).setCell ⟨W1.heap.size, 2, none⟩ (.int .i64 0)).setCell ⟨W1.heap.size, 3, none⟩ (.int .i64 0) = V at *; generalize W1.heap.size = B7 at *)
          | (obtain ⟨v7, vz, kV, hne⟩ := seq_i (A := #[.int .i64 0, .int .i32 0, .int .i64 0, .int .i64 0]) k1 z1 b2; generalize W2.alloc (.cells #[.int .i64 0, .int .i32 0, .int .i64 0, .int .i64 0] 23) = V at *; generalize W2.heap.size = B7 at *)
        all_goals clear b1 b2
        all_goals go_wp2_with (refine wpList_store_row rfl 23 (.tmp 4) (.tmp 39) rfl (w.heap.size) #[.int .i64 5, .int .i32 0, .int .i64 0, .int .i64 0] rfl rfl _ _ vz (by kernel_rfl) rfl (one4 _ _ _ _) ?_)
        all_goals (try simp only [Exit.inBlock, Exit.then])
        all_goals refine bodyPost_ret (v := .tuple #[.agg #[.int .i64 5, .int .i32 0, .int .i64 0, .int .i64 0], .int .i64 1]) ?_ rfl ⟨rfl, below_setRow kV (Nat.le_refl _) _⟩
        all_goals exact results_key_tmp rfl _ _ w.heap.size _ _ _ _ rfl (setRow_heap _ _ _ _ _ _ vz) Tryd.underlying23 rfl (by kernel_rfl) _ rfl
    | some k =>
      have e : res = (k, en + 1) := HR.out.symm
      subst e
      clear HR htr
      obtain ⟨kd, rr, nn, hh⟩ := k
      simp only [kOr, Option.isSome_some, kyv] at HT ⊢
      by_cases hx91 : x = 91
      · rw [decide_eq_true hx91] at jx
        generalize aheadF 10 (s.data.toList.drop 2) = a at *
        have ea : en = 2 + a := by have := HEN.out; rw [if_pos hx91] at this; omega
        subst ea
        have ca : ((2 + a : Nat) : Int) = 2 + (a : Int) := by omega
        rw [ca] at i1 i2 i3 i4 hw1
        have hto : (2 + (a : Int)).toNat = 2 + a := by omega
        clear HEN he hle hx91 hsz ca
        go_enter Tryd.func45, Tryd.ntmps45
        go_wp2_with (go_at_call 64; refine (HNA _).mono ?_; rintro e W1 ⟨rfl, b1⟩; have z1 := held_block b1; have k1 := kb.trans (b1.mono kb.size))
        clear HNA
        have HT1 := fun W (h : Below W1.heap.size W1 W) => HT W (b1.trans (h.mono b1.size))
        clear HT
        go_region_with (first | (go_at_call 65; refine (HT1 _ (by exact ((Below.refl _ _).alloc (Nat.le_refl _) (.cells #[.int .i64 0, .int .i32 0, .int .i64 0, .int .i64 0] 23)).drew)).mono ?_; rintro e W2 ⟨rfl, b2⟩; have zz := held_drew b2; obtain ⟨⟨y0, y1, y2, y3⟩, f0, f1, f2, f3⟩ := four_of zz) | (go_at_call 65; refine (HT1 _ (by exact (Below.refl _ _).drew)).mono ?_; rintro e W2 ⟨rfl, b2⟩))
        all_goals first
          | (have zz' := zz; clear zz y0 y1 y2 y3 f0 f1 f2 f3 zz'; obtain ⟨v7, vz, kV, hne⟩ := seq_ii (p := .int .i64 kd) (q := .int .i32 rr) (r := .int .i64 nn) (z := .int .i64 hh) k1 z1 b2; generalize (((W2.setCell ⟨W1.heap.size, 0, none⟩ (.int .i64 kd)).setCell ⟨W1.heap.size, 1, none⟩ (.int .i32 rr)).setCell ⟨W1.heap.size, 2, none⟩ (.int .i64 nn)).setCell ⟨W1.heap.size, 3, none⟩ (.int .i64 hh) = V at *; generalize W1.heap.size = B7 at *)
          | (obtain ⟨v7, vz, kV, hne⟩ := seq_i (A := #[.int .i64 kd, .int .i32 rr, .int .i64 nn, .int .i64 hh]) k1 z1 b2; generalize W2.alloc (.cells #[.int .i64 kd, .int .i32 rr, .int .i64 nn, .int .i64 hh] 23) = V at *; generalize W2.heap.size = B7 at *)
        all_goals clear b1 b2
        all_goals go_wp2_with (first | (refine wpList_load_row rfl 23 (.tmp 7) rfl B7 rfl _ _ _ _ v7 Tryd.underlying23 rfl (by kernel_rfl) ?_) | (refine wpList_store_row rfl 23 (.tmp 4) (.tmp 40) rfl (w.heap.size) #[.int .i64 kd, .int .i32 rr, .int .i64 nn, .int .i64 hh] rfl rfl _ _ vz (by kernel_rfl) rfl (one4 _ _ _ _) ?_))
        all_goals (try simp only [Exit.inBlock, Exit.then])
        all_goals refine bodyPost_ret (v := .tuple #[.agg #[.int .i64 kd, .int .i32 rr, .int .i64 nn, .int .i64 hh], .int .i64 (2 + (a : Int) + 1)]) ?_ rfl ⟨rfl, below_setRow kV (Nat.le_refl _) _⟩
        all_goals exact results_key_tmp rfl _ _ w.heap.size _ _ _ _ rfl (setRow_heap _ _ _ _ _ _ vz) Tryd.underlying23 rfl (by kernel_rfl) _ rfl
      · rw [decide_eq_false hx91] at jx
        have ea : en = 2 := by have := HEN.out; rw [if_neg hx91] at this; exact this.symm
        subst ea
        clear HEN he hle hx91 hsz HNA
        obtain ⟨W1, hW1⟩ : ∃ W1, w.alloc (.cells #[.int .i64 0, .int .i32 0, .int .i64 0, .int .i64 0] 23) = W1 := ⟨_, rfl⟩
        have HW1 : Hid (w.alloc (.cells #[.int .i64 0, .int .i32 0, .int .i64 0, .int .i64 0] 23) = W1) := hW1
        rw [hW1] at kb Z HT
        have k1 := kb
        have z1 := Z
        have b1 : True := trivial
        have HT1 := HT
        rw [show s.extract 2 2 = ByteArray.empty by simp] at HT1
        clear hW1 HT
        go_enter Tryd.func45, Tryd.ntmps45
        go_wp2_with fail
        rw [HW1.out]
        go_region_with (first | (go_at_call 65; refine (HT1 _ (by exact ((Below.refl _ _).alloc (Nat.le_refl _) (.cells #[.int .i64 0, .int .i32 0, .int .i64 0, .int .i64 0] 23)).drew)).mono ?_; rintro e W2 ⟨rfl, b2⟩; have zz := held_drew b2; obtain ⟨⟨y0, y1, y2, y3⟩, f0, f1, f2, f3⟩ := four_of zz) | (go_at_call 65; refine (HT1 _ (by exact (Below.refl _ _).drew)).mono ?_; rintro e W2 ⟨rfl, b2⟩))
        all_goals first
          | (have zz' := zz; clear zz y0 y1 y2 y3 f0 f1 f2 f3 zz'; obtain ⟨v7, vz, kV, hne⟩ := seq_ii (p := .int .i64 kd) (q := .int .i32 rr) (r := .int .i64 nn) (z := .int .i64 hh) k1 z1 b2; generalize (((W2.setCell ⟨W1.heap.size, 0, none⟩ (.int .i64 kd)).setCell ⟨W1.heap.size, 1, none⟩ (.int .i32 rr)).setCell ⟨W1.heap.size, 2, none⟩ (.int .i64 nn)).setCell ⟨W1.heap.size, 3, none⟩ (.int .i64 hh) = V at *; generalize W1.heap.size = B7 at *)
          | (obtain ⟨v7, vz, kV, hne⟩ := seq_i (A := #[.int .i64 kd, .int .i32 rr, .int .i64 nn, .int .i64 hh]) k1 z1 b2; generalize W2.alloc (.cells #[.int .i64 kd, .int .i32 rr, .int .i64 nn, .int .i64 hh] 23) = V at *; generalize W2.heap.size = B7 at *)
        all_goals clear b1 b2
        all_goals go_wp2_with (first | (refine wpList_load_row rfl 23 (.tmp 7) rfl B7 rfl _ _ _ _ v7 Tryd.underlying23 rfl (by kernel_rfl) ?_) | (refine wpList_store_row rfl 23 (.tmp 4) (.tmp 40) rfl (w.heap.size) #[.int .i64 kd, .int .i32 rr, .int .i64 nn, .int .i64 hh] rfl rfl _ _ vz (by kernel_rfl) rfl (one4 _ _ _ _) ?_))
        all_goals (try simp only [Exit.inBlock, Exit.then])
        all_goals refine bodyPost_ret (v := .tuple #[.agg #[.int .i64 kd, .int .i32 rr, .int .i64 nn, .int .i64 hh], .int .i64 3]) ?_ rfl ⟨rfl, below_setRow kV (Nat.le_refl _) _⟩
        all_goals exact results_key_tmp rfl _ _ w.heap.size _ _ _ _ rfl (setRow_heap _ _ _ _ _ _ vz) Tryd.underlying23 rfl (by kernel_rfl) _ rfl
end Kys
end Go.Proofs.YtjilgapoioploaaDoor
