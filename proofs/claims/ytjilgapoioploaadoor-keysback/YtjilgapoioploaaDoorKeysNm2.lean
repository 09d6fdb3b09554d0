/- Package keys: bareKey. -/
import Derived.Test.YtjilgapoioploaaDoorKeysNm1
import Derived.Test.YtjilgapoioploaaDoorKeysRd10
namespace Go.Proofs.YtjilgapoioploaaDoor
open Go.ChangeShapes Go.WideShapes Go.ChangeAt Go.RowKit
namespace Kys
open Txt (wd bs dec)
theorem name_idx (i : Nat) (hi : i < 15) (wr : World) : (Instr.index 76 (.agg nameCells) (.int .i64 (i : Int))).run Tryd.prog wr = .ok (.string (bs (namesL.getD i []))) wr := by
  have : i = 0 ∨ i = 1 ∨ i = 2 ∨ i = 3 ∨ i = 4 ∨ i = 5 ∨ i = 6 ∨ i = 7 ∨ i = 8 ∨ i = 9 ∨ i = 10 ∨ i = 11 ∨ i = 12 ∨ i = 13 ∨ i = 14 := by omega
  rcases this with rfl | rfl | rfl | rfl | rfl | rfl | rfl | rfl | rfl | rfl | rfl | rfl | rfl | rfl | rfl <;> (show (_ : Result Value) = _; kernel_rfl)
theorem place_step (l : List UInt8) (i : Nat) (hi : i < 15) : place l (namesL.drop i) i = if namesL.getD i [] = l then some i else place l (namesL.drop (i + 1)) (i + 1) := by
  have : i = 0 ∨ i = 1 ∨ i = 2 ∨ i = 3 ∨ i = 4 ∨ i = 5 ∨ i = 6 ∨ i = 7 ∨ i = 8 ∨ i = 9 ∨ i = 10 ∨ i = 11 ∨ i = 12 ∨ i = 13 ∨ i = 14 := by omega
  rcases this with rfl | rfl | rfl | rfl | rfl | rfl | rfl | rfl | rfl | rfl | rfl | rfl | rfl | rfl | rfl <;> rfl
theorem str_beq (x : List UInt8) (s : ByteArray) : ((bs x).toList == s.toList) = decide (x = s.data.toList) := by
  rw [Lib.toList_data, Lib.toList_data, bs_list]
  by_cases h : x = s.data.toList
  · rw [decide_eq_true h, beq_iff_eq]; exact h
  · rw [decide_eq_false h, beq_eq_false_iff_ne]; exact h
theorem str_beq2 (x : List UInt8) (s : ByteArray) : (s.toList == (bs x).toList) = decide (s.data.toList = x) := by
  rw [Lib.toList_data, Lib.toList_data, bs_list]
  by_cases h : s.data.toList = x
  · rw [decide_eq_true h, beq_iff_eq]; exact h
  · rw [decide_eq_false h, beq_eq_false_iff_ne]; exact h
theorem pre_F (l : List UInt8) : (Lib.hasPrefix l [70] = true ∧ Lib.trimPrefix l [70] ≠ []) ↔ (l.getD 0 0 = 70 ∧ 1 < l.length) := by
  cases l with
  | nil => simp [Lib.hasPrefix]
  | cons x t =>
    have h1 : Lib.hasPrefix (x :: t) [70] = (70 == x) := by simp [Lib.hasPrefix, List.isPrefixOf]
    unfold Lib.trimPrefix
    rw [h1]
    simp only [List.getD_cons_zero, List.length_cons]
    constructor
    · rintro ⟨a, b⟩
      rw [if_pos a] at b
      refine ⟨(eq_of_beq a).symm, ?_⟩
      cases t with
      | nil => simp at b
      | cons => simp
    · rintro ⟨rfl, b⟩
      refine ⟨by simp, ?_⟩
      rw [if_pos (by simp)]
      cases t with
      | nil => simp at b
      | cons => simp
theorem pre_drop (l : List UInt8) (h : Lib.hasPrefix l [70] = true) : Lib.trimPrefix l [70] = l.drop 1 := by unfold Lib.trimPrefix; rw [if_pos h]; rfl
set_option maxHeartbeats 4000000 in
set_option maxRecDepth 100000 in
theorem bareKey_any (s : ByteArray) (hs : s.size ≤ 1048576) (w : World) (hE : Env w) (hNm : NameTab w) : Calls Tryd.prog 31 #[.string s] w fun e w' => e = .returned (kyv (bareK s.data.toList)) ∧ Below w.heap.size w w' := by
  have kb := kb_z w
  have Z := hz w
  have E1 := hE.below kb
  obtain ⟨tt, fr, h1⟩ := hNm.below kb
  have H1 : Hid ((w.alloc (.cells #[.int .i64 0, .int .i32 0, .int .i64 0, .int .i64 0] 23)).heap[1]? = some (.cells nameCells tt fr)) := h1
  clear h1 hNm hE
  obtain ⟨res, hres⟩ : ∃ res, bareK s.data.toList = res := ⟨_, rfl⟩
  have HR : Hid (bareK s.data.toList = res) := hres
  rw [hres]
  clear hres
  unfold kyv
  obtain ⟨W0, hW0⟩ : ∃ W0, w.alloc (.cells #[.int .i64 0, .int .i32 0, .int .i64 0, .int .i64 0] 23) = W0 := ⟨_, rfl⟩
  have HW0 : Hid (w.alloc (.cells #[.int .i64 0, .int .i32 0, .int .i64 0, .int .i64 0] 23) = W0) := hW0
  rw [hW0] at kb Z E1
  clear hW0
  go_enter Tryd.func31, Tryd.ntmps31
  go_wp2_with (refine wpList_load_row rfl 76 (.global 1) rfl 1 rfl _ nameCells _ _ H1.out Tryd.underlying76 rfl (by kernel_rfl) ?_)
  rw [HW0.out]
  clear H1 HW0
  go_loopg [12] 15 (fun g v wr => ∃ i : Nat, i ≤ 15 ∧ 15 - i ≤ g ∧ v = .int .i64 (i : Int) ∧ wr = W0 ∧ place s.data.toList (namesL.drop i) i = place s.data.toList namesL 0)
  case atStart => exact ⟨0, by omega, by omega, rfl, rfl, rfl⟩
  case round =>
    obtain ⟨i, hi, hg, rfl, rfl, hp⟩ := hrel
    have HP : Hid (place s.data.toList (namesL.drop i) i = place s.data.toList namesL 0) := hp
    clear hp
    by_cases h15 : i < 15
    · have i15 : (i : Int) < 15 := by omega
      have hix := name_idx i h15 wr
      have hbq := str_beq (namesL.getD i []) s
      have hst := place_step s.data.toList i h15
      have hw : wrap64 ((i : Int) + 1) = (i : Int) + 1 := by unfold wrap64; omega
      by_cases hq : namesL.getD i [] = s.data.toList
      · rw [decide_eq_true hq] at hbq
        rw [if_pos hq] at hst
        have e : res = ⟨i, 0, 0, 0⟩ := by rw [← HR.out]; unfold bareK; rw [← HP.out, hst]
        subst e
        clear HR HP hst hq
        generalize bs (namesL.getD i []) = tn at *
        go_wp2_with (refine wpList_store_row rfl 23 (.tmp 2) (.tmp 20) rfl (w.heap.size) #[.int .i64 (i : Int), .int .i32 0, .int .i64 0, .int .i64 0] rfl rfl _ _ Z (by kernel_rfl) rfl (one4 _ _ _ _) ?_)
        (try simp only [Exit.inBlock, Exit.then])
        refine bodyPost_ret (v := .agg #[.int .i64 (i : Int), .int .i32 0, .int .i64 0, .int .i64 0]) ?_ rfl ⟨rfl, below_setRow kb (Nat.le_refl _) _⟩
        exact results_cell_row rfl _ _ w.heap.size _ _ _ _ rfl (setRow_heap _ _ _ _ _ _ Z) Tryd.underlying23 rfl (by kernel_rfl)
      · rw [decide_eq_false hq] at hbq
        rw [if_neg hq] at hst
        have HS : Hid (place s.data.toList (namesL.drop i) i = place s.data.toList (namesL.drop (i + 1)) (i + 1)) := hst
        clear hst hq
        generalize bs (namesL.getD i []) = tn at *
        go_wp2_with fail
        go_roundg (15 - (i + 1))
        case measure => omega
        case rel => exact ⟨i + 1, by omega, by omega, by go_num, rfl, by rw [← HP.out, HS.out]⟩
    · have e15 : i = 15 := by omega
      subst e15
      have hnone : place s.data.toList namesL 0 = none := by rw [← HP.out]; rfl
      have hne : s.data.toList ≠ [] := by
        intro h
        rw [h] at hnone
        exact absurd hnone (by decide)
      have hR1 : res = if s.data.toList.getD 0 0 = 70 ∧ 1 < s.data.toList.length then ⟨15, 0, atoiN (s.data.toList.drop 1), 0⟩ else if s.data.toList = spaceL then ⟨1, 32, 0, 0⟩ else ⟨1, ((dec s.data.toList).1 : Int), 0, 0⟩ := by
        rw [← HR.out]
        unfold bareK
        rw [hnone]
      have HR1 : Hid (res = if s.data.toList.getD 0 0 = 70 ∧ 1 < s.data.toList.length then ⟨15, 0, atoiN (s.data.toList.drop 1), 0⟩ else if s.data.toList = spaceL then ⟨1, 32, 0, 0⟩ else ⟨1, ((dec s.data.toList).1 : Int), 0, 0⟩) := hR1
      clear hR1 HR HP hnone
      have HC := Tryd.strings_CutPrefix s ⟨#[70]⟩ wr
      rw [show (⟨#[70]⟩ : ByteArray).data.toList = [70] from rfl] at HC
      have hpf := pre_F s.data.toList
      have hsz0 : s.size ≠ 0 := by intro h; apply hne; exact List.length_eq_zero_iff.1 (by rw [size_l]; exact h)
      by_cases hF : s.data.toList.getD 0 0 = 70 ∧ 1 < s.data.toList.length
      · obtain ⟨f1, f2⟩ := hpf.2 hF
        have fd := pre_drop _ f1
        rw [fd] at HC f2
        rw [f1] at HC
        have e0 : res = ⟨15, 0, atoiN (s.data.toList.drop 1), 0⟩ := by rw [HR1.out, if_pos hF]
        have hb2 : ((bs (s.data.toList.drop 1)).toList == []) = false := by rw [beq_eq_false_iff_ne, Lib.toList_data, bs_list]; exact f2
        have hb3 : ((bs (s.data.toList.drop 1)).toList != []) = true := by rw [bne, hb2]; rfl
        have hsd : (bs (s.data.toList.drop 1)).size ≤ 281474976710656 := by rw [bs_sz, List.length_drop, size_l]; omega
        rw [show (⟨(s.data.toList.drop 1).toArray⟩ : ByteArray) = bs (s.data.toList.drop 1) from rfl] at HC
        clear HR1 hF hpf fd f1 f2
        cases hk : okN (s.data.toList.drop 1) with
        | true =>
          obtain ⟨v, hv⟩ : ∃ v, Lib.atoiAll (s.data.toList.drop 1) = .ok v := by
            unfold okN at hk
            split at hk
            · exact ⟨_, by assumption⟩
            · cases hk
          have HA := atoi_ok (bs (s.data.toList.drop 1)) hsd wr v (by rw [bs_list]; exact hv)
          have e : atoiN (s.data.toList.drop 1) = v := by unfold atoiN; rw [hv]
          rw [e] at e0
          subst e0
          clear e hv hk hsd
          generalize bs (s.data.toList.drop 1) = td at *
          go_wp2_with (first | (go_at_call 30; refine HC.mono ?_; rintro e W1 ⟨rfl, hW1⟩; subst hW1) | (go_at_call 53; refine HA.mono ?_; rintro e W2 ⟨rfl, b2⟩; have z2 := by_block Z b2; have k2 := kb.trans (b2.mono kb.size)) | (refine wpList_store_row rfl 23 (.tmp 2) (.tmp 38) rfl (w.heap.size) #[.int .i64 15, .int .i32 0, .int .i64 v, .int .i64 0] rfl rfl _ _ z2 (by kernel_rfl) rfl (one4 _ _ _ _) ?_))
          (try simp only [Exit.inBlock, Exit.then])
          refine bodyPost_ret (v := .agg #[.int .i64 15, .int .i32 0, .int .i64 v, .int .i64 0]) ?_ rfl ⟨rfl, below_setRow k2 (Nat.le_refl _) _⟩
          exact results_cell_row rfl _ _ w.heap.size _ _ _ _ rfl (setRow_heap _ _ _ _ _ _ z2) Tryd.underlying23 rfl (by kernel_rfl)
        | false =>
          have HA := atoi_no (bs (s.data.toList.drop 1)) hsd wr E1.errs (by rw [bs_list]; exact hk)
          rw [bs_list] at HA
          generalize atoiN (s.data.toList.drop 1) = va at *
          subst e0
          clear hk hsd
          generalize bs (s.data.toList.drop 1) = td at *
          go_wp2_with (first | (go_at_call 30; refine HC.mono ?_; rintro e W1 ⟨rfl, hW1⟩; subst hW1) | (go_at_call 53; refine HA.mono ?_; rintro e W2 ⟨NN, rfl, b2⟩; have z2 := by_block Z b2; have k2 := kb.trans (b2.mono kb.size)) | (refine wpList_store_row rfl 23 (.tmp 2) (.tmp 38) rfl (w.heap.size) #[.int .i64 15, .int .i32 0, .int .i64 va, .int .i64 0] rfl rfl _ _ z2 (by kernel_rfl) rfl (one4 _ _ _ _) ?_))
          (try simp only [Exit.inBlock, Exit.then])
          refine bodyPost_ret (v := .agg #[.int .i64 15, .int .i32 0, .int .i64 va, .int .i64 0]) ?_ rfl ⟨rfl, below_setRow k2 (Nat.le_refl _) _⟩
          exact results_cell_row rfl _ _ w.heap.size _ _ _ _ rfl (setRow_heap _ _ _ _ _ _ z2) Tryd.underlying23 rfl (by kernel_rfl)
      · have HR2 : Hid (res = if s.data.toList = spaceL then ⟨1, 32, 0, 0⟩ else ⟨1, ((dec s.data.toList).1 : Int), 0, 0⟩) := by unfold Hid; rw [HR1.out, if_neg hF]
        have hnp : ¬ (Lib.hasPrefix s.data.toList [70] = true ∧ Lib.trimPrefix s.data.toList [70] ≠ []) := fun h => hF (hpf.1 h)
        clear HR1 hpf hF
        have hsp := str_beq2 spaceL s
        rw [show (bs spaceL).toList = [83, 112, 97, 99, 101] by rw [Lib.toList_data, bs_list]; rfl] at hsp
        rw [show (⟨(Lib.trimPrefix s.data.toList [70]).toArray⟩ : ByteArray) = bs (Lib.trimPrefix s.data.toList [70]) from rfl] at HC
        have hpk : Lib.hasPrefix s.data.toList [70] = false ∨ Lib.hasPrefix s.data.toList [70] = true ∧ ((bs (Lib.trimPrefix s.data.toList [70])).toList == []) = true := by
          cases h : Lib.hasPrefix s.data.toList [70] with
          | false => exact .inl rfl
          | true =>
            refine .inr ⟨rfl, ?_⟩
            rw [beq_iff_eq, Lib.toList_data, bs_list]
            exact Classical.byContradiction fun hh => hnp ⟨h, hh⟩
        clear hnp
        have hse : (s.toList == []) = false := by rw [beq_eq_false_iff_ne, Lib.toList_data]; exact hne
        have HN := Txt.next_any s wr E1.u8 hse
        rw [go_dec s hsz0] at HN
        generalize bs (Lib.trimPrefix s.data.toList [70]) = tp at *
        generalize Lib.hasPrefix s.data.toList [70] = pf at *
        by_cases hS : s.data.toList = spaceL
        · rw [decide_eq_true hS] at hsp
          have e : res = ⟨1, 32, 0, 0⟩ := by rw [HR2.out, if_pos hS]
          subst e
          clear HR2 HN hS hne hse
          rcases hpk with rfl | ⟨rfl, hpk⟩
          · go_wp2_with (first | (go_at_call 30; refine HC.mono ?_; rintro e W1 ⟨rfl, hW1⟩; subst hW1) | (refine wpList_store_row rfl 23 (.tmp 2) (.tmp 41) rfl (w.heap.size) #[.int .i64 1, .int .i32 32, .int .i64 0, .int .i64 0] rfl rfl _ _ Z (by kernel_rfl) rfl (one4 _ _ _ _) ?_))
            (try simp only [Exit.inBlock, Exit.then])
            refine bodyPost_ret (v := .agg #[.int .i64 1, .int .i32 32, .int .i64 0, .int .i64 0]) ?_ rfl ⟨rfl, below_setRow kb (Nat.le_refl _) _⟩
            exact results_cell_row rfl _ _ w.heap.size _ _ _ _ rfl (setRow_heap _ _ _ _ _ _ Z) Tryd.underlying23 rfl (by kernel_rfl)
          · go_wp2_with (first | (go_at_call 30; refine HC.mono ?_; rintro e W1 ⟨rfl, hW1⟩; subst hW1) | (refine wpList_store_row rfl 23 (.tmp 2) (.tmp 41) rfl (w.heap.size) #[.int .i64 1, .int .i32 32, .int .i64 0, .int .i64 0] rfl rfl _ _ Z (by kernel_rfl) rfl (one4 _ _ _ _) ?_))
            (try simp only [Exit.inBlock, Exit.then])
            refine bodyPost_ret (v := .agg #[.int .i64 1, .int .i32 32, .int .i64 0, .int .i64 0]) ?_ rfl ⟨rfl, below_setRow kb (Nat.le_refl _) _⟩
            exact results_cell_row rfl _ _ w.heap.size _ _ _ _ rfl (setRow_heap _ _ _ _ _ _ Z) Tryd.underlying23 rfl (by kernel_rfl)
        · rw [decide_eq_false hS] at hsp
          have e : res = ⟨1, ((dec s.data.toList).1 : Int), 0, 0⟩ := by rw [HR2.out, if_neg hS]
          generalize (dec s.data.toList).1 = rr at *
          generalize (dec s.data.toList).2 = zz at *
          subst e
          clear HR2 hS hne hse
          rcases hpk with rfl | ⟨rfl, hpk⟩
          · go_wp2_with (first | (go_at_call 30; refine HC.mono ?_; rintro e W1 ⟨rfl, hW1⟩; subst hW1) | (go_at_call 54; refine HN.mono ?_; rintro e W2 ⟨rfl, b2⟩; have z2 := by_block Z b2; have k2 := kb.trans (b2.mono kb.size)) | (refine wpList_store_row rfl 23 (.tmp 2) (.tmp 48) rfl (w.heap.size) #[.int .i64 1, .int .i32 (rr : Int), .int .i64 0, .int .i64 0] rfl rfl _ _ z2 (by kernel_rfl) rfl (one4 _ _ _ _) ?_))
            (try simp only [Exit.inBlock, Exit.then])
            refine bodyPost_ret (v := .agg #[.int .i64 1, .int .i32 (rr : Int), .int .i64 0, .int .i64 0]) ?_ rfl ⟨rfl, below_setRow k2 (Nat.le_refl _) _⟩
            exact results_cell_row rfl _ _ w.heap.size _ _ _ _ rfl (setRow_heap _ _ _ _ _ _ z2) Tryd.underlying23 rfl (by kernel_rfl)
          · go_wp2_with (first | (go_at_call 30; refine HC.mono ?_; rintro e W1 ⟨rfl, hW1⟩; subst hW1) | (go_at_call 54; refine HN.mono ?_; rintro e W2 ⟨rfl, b2⟩; have z2 := by_block Z b2; have k2 := kb.trans (b2.mono kb.size)) | (refine wpList_store_row rfl 23 (.tmp 2) (.tmp 48) rfl (w.heap.size) #[.int .i64 1, .int .i32 (rr : Int), .int .i64 0, .int .i64 0] rfl rfl _ _ z2 (by kernel_rfl) rfl (one4 _ _ _ _) ?_))
            (try simp only [Exit.inBlock, Exit.then])
            refine bodyPost_ret (v := .agg #[.int .i64 1, .int .i32 (rr : Int), .int .i64 0, .int .i64 0]) ?_ rfl ⟨rfl, below_setRow k2 (Nat.le_refl _) _⟩
            exact results_cell_row rfl _ _ w.heap.size _ _ _ _ rfl (setRow_heap _ _ _ _ _ _ z2) Tryd.underlying23 rfl (by kernel_rfl)
end Kys
end Go.Proofs.YtjilgapoioploaaDoor
