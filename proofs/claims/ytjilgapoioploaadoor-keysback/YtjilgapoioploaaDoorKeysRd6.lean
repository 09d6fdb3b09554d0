/- Package keys: a key's number. -/
import Derived.Test.YtjilgapoioploaaDoorKeysRd5
namespace Go.Proofs.YtjilgapoioploaaDoor
open Go.ChangeShapes Go.WideShapes Go.ChangeAt Go.RowKit
namespace Kys
open Txt (wd bs dec)
def cell4 (x : Int × Int) : List Value := [.int .i64 x.1, .int .i32 0, .int .i64 x.2, .int .i64 0]
def numCells : Array Value := (numT.flatMap cell4).toArray
/-- The table of numbers lies where the program's start lays it. -/
def NumTab (w : World) : Prop := ∃ (t : TypeId) (fr : Nat × Nat), w.heap[7]? = some (.cells numCells t fr)
theorem NumTab.below {w w' : World} (h : NumTab w) (hb : Below w.heap.size w w') : NumTab w' := by
  obtain ⟨t, fr, h⟩ := h
  exact ⟨t, fr, by_block h hb⟩
theorem numT_at : ∀ m, m < 25 → numCells[m * 4]? = some (.int .i64 (numT.getD m (0, 0)).1) ∧ numCells[m * 4 + 1]? = some (.int .i32 0) ∧ numCells[m * 4 + 2]? = some (.int .i64 (numT.getD m (0, 0)).2) ∧ numCells[m * 4 + 3]? = some (.int .i64 0) := by
  intro m hm
  have : m = 0 ∨ m = 1 ∨ m = 2 ∨ m = 3 ∨ m = 4 ∨ m = 5 ∨ m = 6 ∨ m = 7 ∨ m = 8 ∨ m = 9 ∨ m = 10 ∨ m = 11 ∨ m = 12 ∨ m = 13 ∨ m = 14 ∨ m = 15 ∨ m = 16 ∨ m = 17 ∨ m = 18 ∨ m = 19 ∨ m = 20 ∨ m = 21 ∨ m = 22 ∨ m = 23 ∨ m = 24 := by omega
  rcases this with rfl | rfl | rfl | rfl | rfl | rfl | rfl | rfl | rfl | rfl | rfl | rfl | rfl | rfl | rfl | rfl | rfl | rfl | rfl | rfl | rfl | rfl | rfl | rfl | rfl <;> exact ⟨rfl, rfl, rfl, rfl⟩
theorem NumTab.cells {w : World} (h : NumTab w) (m : Nat) (hm : m < 25) : w.cell? ⟨7, m * 4, none⟩ = some (.int .i64 (numT.getD m (0, 0)).1) ∧ w.cell? ⟨7, m * 4 + 1, none⟩ = some (.int .i32 0) ∧ w.cell? ⟨7, m * 4 + 2, none⟩ = some (.int .i64 (numT.getD m (0, 0)).2) ∧ w.cell? ⟨7, m * 4 + 3, none⟩ = some (.int .i64 0) := by
  obtain ⟨t, fr, h⟩ := h
  obtain ⟨a, b, c, d⟩ := numT_at m hm
  unfold World.cell?
  rw [h]
  exact ⟨a, b, c, d⟩
theorem range4 {W : World} {g o : Nat} {a b c d : Value} (h0 : W.cell? ⟨g, o, none⟩ = some a) (h1 : W.cell? ⟨g, o + 1, none⟩ = some b) (h2 : W.cell? ⟨g, o + 2, none⟩ = some c) (h3 : W.cell? ⟨g, o + 3, none⟩ = some d) : W.rangeAt g o [a, b, c, d] := fun j v hv => by
  match j, hv with
  | 0, hv => injection hv with hv; subst hv; exact h0
  | 1, hv => injection hv with hv; subst hv; exact h1
  | 2, hv => injection hv with hv; subst hv; exact h2
  | 3, hv => injection hv with hv; subst hv; exact h3
  | k + 4, hv => cases hv
theorem ok_nonneg (l : List UInt8) (h : ∀ c ∈ l, c.toNat ≠ 45) (v : Int) (hv : Lib.atoiAll l = .ok v) : 0 ≤ v := by
  unfold Lib.atoiAll at hv
  split at hv
  · cases hv
  · rename_i c r
    have hc : ¬ c.toNat = 45 := h c (by simp)
    simp only [hc] at hv
    split at hv
    · cases hv
    · cases hv
    · split at hv
      · cases hv
      · split at hv
        · cases hv
        · injection hv with hv
          rw [if_neg (by simp)] at hv
          omega
theorem cutA_sub (l : List UInt8) : ∀ c ∈ cutA l, c ∈ l := by
  intro c hc
  unfold cutA at hc
  split at hc
  · exact hc
  · exact List.mem_of_mem_take hc
set_option maxHeartbeats 4000000 in
theorem withNumber_any (s : ByteArray) (hs : s.size ≤ 1048576) (hd : ∀ c ∈ s.data.toList, c.toNat ≠ 45) (w : World) (hE : Errs w) (hN : NumTab w) : Calls Tryd.prog 78 #[.string s] w fun e w' => e = .returned (.tuple #[kyv (kOr (withNumberL s.data.toList)), .bool (withNumberL s.data.toList).isSome]) ∧ Below w.heap.size w w' := by
  have kb := kb_z w
  have hsz : s.data.toList.length = s.size := Array.length_toList
  have HC := fun W => cut_any s hs W
  have HH := fun W (h : Errs W) => heldOf_any (bs (cutB s.data.toList)) (by rw [bs_sz]; have := cutB_len s.data.toList; omega) W h
  have hsA : (bs (cutA s.data.toList)).size ≤ 281474976710656 := by rw [bs_sz]; have := cutA_len s.data.toList; omega
  have HAo := fun W v h => atoi_ok (bs (cutA s.data.toList)) hsA W v h
  have HAn := fun W h1 h2 => atoi_no (bs (cutA s.data.toList)) hsA W h1 h2
  have hE1 := zErrs hE
  have hN1 := hN.below kb
  rw [bs_list] at HH
  rw [bs_list] at HAo HAn
  obtain ⟨res, hres⟩ : ∃ res, withNumberL s.data.toList = res := ⟨_, rfl⟩
  have HR : Hid (withNumberL s.data.toList = res) := hres
  unfold withNumberL at HR
  rw [hres]
  clear hres hsz hsA hE hN
  cases hk : okN (cutA s.data.toList) with
  | true =>
    obtain ⟨v, hv⟩ : ∃ v, Lib.atoiAll (cutA s.data.toList) = .ok v := by
      unfold okN at hk
      split at hk
      · exact ⟨_, by assumption⟩
      · cases hk
    have hv0 := ok_nonneg _ (fun c hc => hd c (cutA_sub _ c hc)) v hv
    have HA := fun W => HAo W v hv
    rw [hv] at HR
    clear HAo HAn hv hk hd
    obtain ⟨m, rfl⟩ := Int.eq_ofNat_of_zero_le hv0
    simp only [Int.toNat_natCast] at HR
    generalize bs (cutA s.data.toList) = tA at *
    generalize bs (cutB s.data.toList) = tB at *
    by_cases h25 : m < 25
    · have i1 : ¬ (25 : Int) ≤ (m : Int) := by omega
      have i1' : (m : Int) < 25 := by omega
      have hc4 := fun {W : World} (h : NumTab W) => h.cells m h25
      obtain ⟨⟨kd, nn⟩, hkn⟩ : ∃ x, numT.getD m (0, 0) = x := ⟨_, rfl⟩
      rw [hkn] at HR
      simp only [hkn] at hc4
      clear hkn
      simp only at HR hc4
      by_cases h0 : kd = 0
      · subst h0
        have e : res = none := by rw [← HR.out, if_neg (by simp)]
        subst e
        clear HR
        generalize cutF s.data.toList = tF at *
        generalize (heldN (cutB s.data.toList)).getD 0 = hq at *
        generalize (heldN (cutB s.data.toList)).isSome = ho at *
        go_enter Tryd.func78, Tryd.ntmps78
        go_wp2_with (first | (go_at_call 93; refine (HC _).mono ?_; rintro e W1 ⟨rfl, b1⟩; have z1 := held_block b1; have E1 := Errs.below hE1 b1; have k1 := kb.trans (b1.mono kb.size)) | (go_at_call 53; refine (HA _).mono ?_; rintro e W2 ⟨rfl, b2⟩; have z2 := by_block z1 b2; have E2 := Errs.below E1 b2; have k2 := k1.trans (b2.mono k1.size)) | (go_at_call 94; refine (HH _ E2).mono ?_; rintro e W3 ⟨rfl, b3⟩; have z3 := by_block z2 b3; have k3 := k2.trans (b3.mono k2.size); have N3 := hN1.below b1; replace N3 := N3.below b2; replace N3 := N3.below b3; obtain ⟨c0, c1, c2, c3⟩ := hc4 N3; clear N3) | (refine wpList_store_row rfl 23 (.tmp 2) (.tmp 48) rfl (w.heap.size) #[.int .i64 0, .int .i32 0, .int .i64 0, .int .i64 0] rfl rfl _ _ z3 (by kernel_rfl) rfl (one4 _ _ _ _) ?_))
        (try simp only [Exit.inBlock, Exit.then])
        refine bodyPost_ret (v := .tuple #[.agg #[.int .i64 0, .int .i32 0, .int .i64 0, .int .i64 0], .bool false]) ?_ rfl ⟨rfl, below_setRow k3 (Nat.le_refl _) _⟩
        exact results_key_tmp rfl _ _ w.heap.size _ _ _ _ rfl (setRow_heap _ _ _ _ _ _ z3) Tryd.underlying23 rfl (by kernel_rfl) _ rfl
      · have hb0 : (kd == 0) = false := by rw [beq_eq_false_iff_ne]; exact h0
        cases hh : heldN (cutB s.data.toList) with
        | none =>
          rw [hh] at HR HH
          simp only [Option.getD_none, Option.isSome_none] at HH
          cases hF : cutF s.data.toList with
          | true =>
            rw [hF] at HR HC
            have e : res = none := by rw [← HR.out, if_neg (by simp)]
            subst e
            clear HR hh hF
            go_enter Tryd.func78, Tryd.ntmps78
            go_wp2_with (first | (go_at_call 93; refine (HC _).mono ?_; rintro e W1 ⟨rfl, b1⟩; have z1 := held_block b1; have E1 := Errs.below hE1 b1; have k1 := kb.trans (b1.mono kb.size)) | (go_at_call 53; refine (HA _).mono ?_; rintro e W2 ⟨rfl, b2⟩; have z2 := by_block z1 b2; have E2 := Errs.below E1 b2; have k2 := k1.trans (b2.mono k1.size)) | (go_at_call 94; refine (HH _ E2).mono ?_; rintro e W3 ⟨rfl, b3⟩; have z3 := by_block z2 b3; have k3 := k2.trans (b3.mono k2.size); have N3 := hN1.below b1; replace N3 := N3.below b2; replace N3 := N3.below b3; obtain ⟨c0, c1, c2, c3⟩ := hc4 N3; clear N3) | (refine wpList_store_row rfl 23 (.tmp 2) (.tmp 48) rfl (w.heap.size) #[.int .i64 0, .int .i32 0, .int .i64 0, .int .i64 0] rfl rfl _ _ z3 (by kernel_rfl) rfl (one4 _ _ _ _) ?_))
            (try simp only [Exit.inBlock, Exit.then])
            refine bodyPost_ret (v := .tuple #[.agg #[.int .i64 0, .int .i32 0, .int .i64 0, .int .i64 0], .bool false]) ?_ rfl ⟨rfl, below_setRow k3 (Nat.le_refl _) _⟩
            exact results_key_tmp rfl _ _ w.heap.size _ _ _ _ rfl (setRow_heap _ _ _ _ _ _ z3) Tryd.underlying23 rfl (by kernel_rfl) _ rfl
          | false =>
            rw [hF] at HR HC
            have e : res = some ⟨kd, 0, nn, 0⟩ := by rw [← HR.out, if_pos ⟨by omega, h0, by simp⟩]; rfl
            subst e
            clear HR hh hF
            go_enter Tryd.func78, Tryd.ntmps78
            go_wp2_with (first | (go_at_call 93; refine (HC _).mono ?_; rintro e W1 ⟨rfl, b1⟩; have z1 := held_block b1; have E1 := Errs.below hE1 b1; have k1 := kb.trans (b1.mono kb.size)) | (go_at_call 53; refine (HA _).mono ?_; rintro e W2 ⟨rfl, b2⟩; have z2 := by_block z1 b2; have E2 := Errs.below E1 b2; have k2 := k1.trans (b2.mono k1.size)) | (go_at_call 94; refine (HH _ E2).mono ?_; rintro e W3 ⟨rfl, b3⟩; have z3 := by_block z2 b3; have k3 := k2.trans (b3.mono k2.size); have N3 := hN1.below b1; replace N3 := N3.below b2; replace N3 := N3.below b3; obtain ⟨c0, c1, c2, c3⟩ := hc4 N3; have rg := range4 c0 c1 c2 c3; have z4 := by_block z3 ((Below.refl _ _).alloc (Nat.le_refl _) (.cells #[.int .i64 kd, .int .i32 0, .int .i64 nn, .int .i64 0] 23)); have k4 := k3.alloc k3.size (.cells #[.int .i64 kd, .int .i32 0, .int .i64 nn, .int .i64 0] 23); clear N3) | (refine wpList_load_mid rfl 23 (.tmp 50) rfl 7 (m * 4) rfl [.int .i64 kd, .int .i32 0, .int .i64 nn, .int .i64 0] _ rg Tryd.underlying23 rfl (by kernel_rfl) ?_) | (refine wpList_store_row rfl 23 (.tmp 2) (.tmp 54) rfl (w.heap.size) #[.int .i64 kd, .int .i32 0, .int .i64 nn, .int .i64 0] rfl rfl _ _ z4 (by kernel_rfl) rfl (one4 _ _ _ _) ?_))
            (try simp only [Exit.inBlock, Exit.then])
            refine bodyPost_ret (v := .tuple #[.agg #[.int .i64 kd, .int .i32 0, .int .i64 nn, .int .i64 0], .bool true]) ?_ rfl ⟨rfl, below_setRow k4 (Nat.le_refl _) _⟩
            exact results_key_tmp rfl _ _ w.heap.size _ _ _ _ rfl (setRow_heap _ _ _ _ _ _ z4) Tryd.underlying23 rfl (by kernel_rfl) _ rfl
        | some q =>
          rw [hh] at HR HH
          simp only [Option.getD_some, Option.isSome_some] at HH
          have e : res = some ⟨kd, 0, nn, q⟩ := by rw [← HR.out, if_pos ⟨by omega, h0, by simp⟩]; rfl
          subst e
          clear HR hh
          cases hF : cutF s.data.toList with
          | true =>
            rw [hF] at HC
            clear hF
            go_enter Tryd.func78, Tryd.ntmps78
            go_wp2_with (first | (go_at_call 93; refine (HC _).mono ?_; rintro e W1 ⟨rfl, b1⟩; have z1 := held_block b1; have E1 := Errs.below hE1 b1; have k1 := kb.trans (b1.mono kb.size)) | (go_at_call 53; refine (HA _).mono ?_; rintro e W2 ⟨rfl, b2⟩; have z2 := by_block z1 b2; have E2 := Errs.below E1 b2; have k2 := k1.trans (b2.mono k1.size)) | (go_at_call 94; refine (HH _ E2).mono ?_; rintro e W3 ⟨rfl, b3⟩; have z3 := by_block z2 b3; have k3 := k2.trans (b3.mono k2.size); have N3 := hN1.below b1; replace N3 := N3.below b2; replace N3 := N3.below b3; obtain ⟨c0, c1, c2, c3⟩ := hc4 N3; have rg := range4 c0 c1 c2 c3; have z4 := by_block z3 ((Below.refl _ _).alloc (Nat.le_refl _) (.cells #[.int .i64 kd, .int .i32 0, .int .i64 nn, .int .i64 q] 23)); have k4 := k3.alloc k3.size (.cells #[.int .i64 kd, .int .i32 0, .int .i64 nn, .int .i64 q] 23); clear N3) | (refine wpList_load_mid rfl 23 (.tmp 50) rfl 7 (m * 4) rfl [.int .i64 kd, .int .i32 0, .int .i64 nn, .int .i64 0] _ rg Tryd.underlying23 rfl (by kernel_rfl) ?_) | (refine wpList_store_row rfl 23 (.tmp 2) (.tmp 54) rfl (w.heap.size) #[.int .i64 kd, .int .i32 0, .int .i64 nn, .int .i64 q] rfl rfl _ _ z4 (by kernel_rfl) rfl (one4 _ _ _ _) ?_))
            (try simp only [Exit.inBlock, Exit.then])
            refine bodyPost_ret (v := .tuple #[.agg #[.int .i64 kd, .int .i32 0, .int .i64 nn, .int .i64 q], .bool true]) ?_ rfl ⟨rfl, below_setRow k4 (Nat.le_refl _) _⟩
            exact results_key_tmp rfl _ _ w.heap.size _ _ _ _ rfl (setRow_heap _ _ _ _ _ _ z4) Tryd.underlying23 rfl (by kernel_rfl) _ rfl
          | false =>
            rw [hF] at HC
            clear hF
            go_enter Tryd.func78, Tryd.ntmps78
            go_wp2_with (first | (go_at_call 93; refine (HC _).mono ?_; rintro e W1 ⟨rfl, b1⟩; have z1 := held_block b1; have E1 := Errs.below hE1 b1; have k1 := kb.trans (b1.mono kb.size)) | (go_at_call 53; refine (HA _).mono ?_; rintro e W2 ⟨rfl, b2⟩; have z2 := by_block z1 b2; have E2 := Errs.below E1 b2; have k2 := k1.trans (b2.mono k1.size)) | (go_at_call 94; refine (HH _ E2).mono ?_; rintro e W3 ⟨rfl, b3⟩; have z3 := by_block z2 b3; have k3 := k2.trans (b3.mono k2.size); have N3 := hN1.below b1; replace N3 := N3.below b2; replace N3 := N3.below b3; obtain ⟨c0, c1, c2, c3⟩ := hc4 N3; have rg := range4 c0 c1 c2 c3; have z4 := by_block z3 ((Below.refl _ _).alloc (Nat.le_refl _) (.cells #[.int .i64 kd, .int .i32 0, .int .i64 nn, .int .i64 q] 23)); have k4 := k3.alloc k3.size (.cells #[.int .i64 kd, .int .i32 0, .int .i64 nn, .int .i64 q] 23); clear N3) | (refine wpList_load_mid rfl 23 (.tmp 50) rfl 7 (m * 4) rfl [.int .i64 kd, .int .i32 0, .int .i64 nn, .int .i64 0] _ rg Tryd.underlying23 rfl (by kernel_rfl) ?_) | (refine wpList_store_row rfl 23 (.tmp 2) (.tmp 54) rfl (w.heap.size) #[.int .i64 kd, .int .i32 0, .int .i64 nn, .int .i64 q] rfl rfl _ _ z4 (by kernel_rfl) rfl (one4 _ _ _ _) ?_))
            (try simp only [Exit.inBlock, Exit.then])
            refine bodyPost_ret (v := .tuple #[.agg #[.int .i64 kd, .int .i32 0, .int .i64 nn, .int .i64 q], .bool true]) ?_ rfl ⟨rfl, below_setRow k4 (Nat.le_refl _) _⟩
            exact results_key_tmp rfl _ _ w.heap.size _ _ _ _ rfl (setRow_heap _ _ _ _ _ _ z4) Tryd.underlying23 rfl (by kernel_rfl) _ rfl
    · have i1 : (25 : Int) ≤ (m : Int) := by omega
      have e : res = none := by rw [← HR.out, if_neg (fun h => h25 (by have := h.1; omega))]
      subst e
      clear HR
      generalize cutF s.data.toList = tF at *
      generalize (heldN (cutB s.data.toList)).getD 0 = hq at *
      generalize (heldN (cutB s.data.toList)).isSome = ho at *
      go_enter Tryd.func78, Tryd.ntmps78
      go_wp2_with (first | (go_at_call 93; refine (HC _).mono ?_; rintro e W1 ⟨rfl, b1⟩; have z1 := held_block b1; have E1 := Errs.below hE1 b1; have k1 := kb.trans (b1.mono kb.size)) | (go_at_call 53; refine (HA _).mono ?_; rintro e W2 ⟨rfl, b2⟩; have z2 := by_block z1 b2; have E2 := Errs.below E1 b2; have k2 := k1.trans (b2.mono k1.size)) | (go_at_call 94; refine (HH _ E2).mono ?_; rintro e W3 ⟨rfl, b3⟩; have z3 := by_block z2 b3; have k3 := k2.trans (b3.mono k2.size)) | (refine wpList_store_row rfl 23 (.tmp 2) (.tmp 48) rfl (w.heap.size) #[.int .i64 0, .int .i32 0, .int .i64 0, .int .i64 0] rfl rfl _ _ z3 (by kernel_rfl) rfl (one4 _ _ _ _) ?_))
      (try simp only [Exit.inBlock, Exit.then])
      refine bodyPost_ret (v := .tuple #[.agg #[.int .i64 0, .int .i32 0, .int .i64 0, .int .i64 0], .bool false]) ?_ rfl ⟨rfl, below_setRow k3 (Nat.le_refl _) _⟩
      exact results_key_tmp rfl _ _ w.heap.size _ _ _ _ rfl (setRow_heap _ _ _ _ _ _ z3) Tryd.underlying23 rfl (by kernel_rfl) _ rfl
  | false =>
    have e : res = none := by
      rw [← HR.out]
      unfold okN at hk
      split
      · rename_i v hv
        rw [hv] at hk
        cases hk
      · rfl
    subst e
    have HA := fun W h => HAn W h hk
    clear HR HAo HAn hk hd
    generalize bs (cutA s.data.toList) = tA at *
    generalize bs (cutB s.data.toList) = tB at *
    generalize cutF s.data.toList = tF at *
    generalize atoiN (cutA s.data.toList) = va at *
    generalize (heldN (cutB s.data.toList)).getD 0 = hq at *
    generalize (heldN (cutB s.data.toList)).isSome = ho at *
    go_enter Tryd.func78, Tryd.ntmps78
    go_wp2_with (first | (go_at_call 93; refine (HC _).mono ?_; rintro e W1 ⟨rfl, b1⟩; have z1 := held_block b1; have E1 := Errs.below hE1 b1; have k1 := kb.trans (b1.mono kb.size)) | (go_at_call 53; refine (HA _ E1).mono ?_; rintro e W2 ⟨NN, rfl, b2⟩; have z2 := by_block z1 b2; have E2 := Errs.below E1 b2; have k2 := k1.trans (b2.mono k1.size)) | (go_at_call 94; refine (HH _ E2).mono ?_; rintro e W3 ⟨rfl, b3⟩; have z3 := by_block z2 b3; have k3 := k2.trans (b3.mono k2.size)) | (refine wpList_store_row rfl 23 (.tmp 2) (.tmp 48) rfl (w.heap.size) #[.int .i64 0, .int .i32 0, .int .i64 0, .int .i64 0] rfl rfl _ _ z3 (by kernel_rfl) rfl (one4 _ _ _ _) ?_))
    (try simp only [Exit.inBlock, Exit.then])
    refine bodyPost_ret (v := .tuple #[.agg #[.int .i64 0, .int .i32 0, .int .i64 0, .int .i64 0], .bool false]) ?_ rfl ⟨rfl, below_setRow k3 (Nat.le_refl _) _⟩
    exact results_key_tmp rfl _ _ w.heap.size _ _ _ _ rfl (setRow_heap _ _ _ _ _ _ z3) Tryd.underlying23 rfl (by kernel_rfl) _ rfl
end Kys
end Go.Proofs.YtjilgapoioploaaDoor
