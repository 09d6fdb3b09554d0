/- Package keys: a key's number. -/
import Derived.Test.YtplceodnllcimaaDoorPartF
import Derived.LaidLaws
import Derived.Lib.LaidU8
import Derived.Deep.Strs
import Derived.Test.YtplceodnllcimaaDoorPartD
import Derived.DeepKeys4
import Derived.Maps.OwnOps
import Derived.Maps.Views
import Derived.Maps.StringElems
namespace Go.Proofs.YtplceodnllcimaaDoor
open Go.ChangeShapes Go.WideShapes Go.ChangeAt Go.RowKit
namespace Kys
open Txt (wd bs dec)
def cell4 (x : Int × Int) : List Value := [.int .i64 x.1, .int .i32 0, .int .i64 x.2, .int .i64 0]
def numCells : Array Value := (numT.flatMap cell4).toArray
/-- The table of numbers lies where the program's start lays it. -/
def NumTab (w : World) : Prop := ∃ (t : TypeId) (fr : Nat × Nat), w.heap[3]? = some (.cells numCells t fr)
theorem NumTab.below {w w' : World} (h : NumTab w) (hb : Below w.heap.size w w') : NumTab w' := by
  obtain ⟨t, fr, h⟩ := h
  exact ⟨t, fr, by_block h hb⟩
theorem numT_at : ∀ m, m < 25 → numCells[m * 4]? = some (.int .i64 (numT.getD m (0, 0)).1) ∧ numCells[m * 4 + 1]? = some (.int .i32 0) ∧ numCells[m * 4 + 2]? = some (.int .i64 (numT.getD m (0, 0)).2) ∧ numCells[m * 4 + 3]? = some (.int .i64 0) := by
  intro m hm
  have : m = 0 ∨ m = 1 ∨ m = 2 ∨ m = 3 ∨ m = 4 ∨ m = 5 ∨ m = 6 ∨ m = 7 ∨ m = 8 ∨ m = 9 ∨ m = 10 ∨ m = 11 ∨ m = 12 ∨ m = 13 ∨ m = 14 ∨ m = 15 ∨ m = 16 ∨ m = 17 ∨ m = 18 ∨ m = 19 ∨ m = 20 ∨ m = 21 ∨ m = 22 ∨ m = 23 ∨ m = 24 := by omega
  rcases this with rfl | rfl | rfl | rfl | rfl | rfl | rfl | rfl | rfl | rfl | rfl | rfl | rfl | rfl | rfl | rfl | rfl | rfl | rfl | rfl | rfl | rfl | rfl | rfl | rfl <;> exact ⟨rfl, rfl, rfl, rfl⟩
theorem NumTab.cells {w : World} (h : NumTab w) (m : Nat) (hm : m < 25) : w.cell? ⟨3, m * 4, none⟩ = some (.int .i64 (numT.getD m (0, 0)).1) ∧ w.cell? ⟨3, m * 4 + 1, none⟩ = some (.int .i32 0) ∧ w.cell? ⟨3, m * 4 + 2, none⟩ = some (.int .i64 (numT.getD m (0, 0)).2) ∧ w.cell? ⟨3, m * 4 + 3, none⟩ = some (.int .i64 0) := by
  obtain ⟨t, fr, h⟩ := h
  obtain ⟨a, b, c, d⟩ := numT_at m hm
  unfold World.cell?
  rw [h]
  exact ⟨a, b, c, d⟩
theorem range4 {W : World} {g o : Nat} {a b c d : Value} (h0 : W.cell? ⟨g, o, none⟩ = some a) (h1 : W.cell? ⟨g, o + 1, none⟩ = some b) (h2 : W.cell? ⟨g, o + 2, none⟩ = some c) (h3 : W.cell? ⟨g, o + 3, none⟩ = some d) : W.rangeAt g o [a, b, c, d] := fun j v hv => by
  match j, hv with
  | 0, hv => injection hv with hv; subst hv; exact h0
  | 1, hv => injection hv with hv; subst hv; exact h1
  | 2, hv => injection hv with hv; subst hv; exact h2
  | 3, hv => injection hv with hv; subst hv; exact h3
  | k + 4, hv => cases hv
theorem ok_nonneg (l : List UInt8) (h : ∀ c ∈ l, c.toNat ≠ 45) (v : Int) (hv : Lib.atoiAll l = .ok v) : 0 ≤ v := by
  unfold Lib.atoiAll at hv
  split at hv
  · cases hv
  · rename_i c r
    have hc : ¬ c.toNat = 45 := h c (by simp)
    simp only [hc] at hv
    split at hv
    · cases hv
    · cases hv
    · split at hv
      · cases hv
      · split at hv
        · cases hv
        · injection hv with hv
          rw [if_neg (by simp)] at hv
          omega
theorem cutA_sub (l : List UInt8) : ∀ c ∈ cutA l, c ∈ l := by
  intro c hc
  unfold cutA at hc
  split at hc
  · exact hc
  · exact List.mem_of_mem_take hc
set_option maxHeartbeats 4000000 in
theorem withNumber_any (s : ByteArray) (hs : s.size ≤ 1048576) (hd : ∀ c ∈ s.data.toList, c.toNat ≠ 45) (w : World) (hE : Errs w) (hN : NumTab w) : Calls Tryd.prog 44 #[.string s] w fun e w' => e = .returned (.tuple #[kyv (kOr (withNumberL s.data.toList)), .bool (withNumberL s.data.toList).isSome]) ∧ Below w.heap.size w w' := by
  have kb := kb_z w
  have hsz : s.data.toList.length = s.size := Array.length_toList
  have HC := fun W => cut_any s hs W
  have HH := fun W (h : Errs W) => heldOf_any (bs (cutB s.data.toList)) (by rw [bs_sz]; have := cutB_len s.data.toList; omega) W h
  have hsA : (bs (cutA s.data.toList)).size ≤ 281474976710656 := by rw [bs_sz]; have := cutA_len s.data.toList; omega
  have HAo := fun W v h => atoi_ok (bs (cutA s.data.toList)) hsA W v h
  have HAn := fun W h1 h2 => atoi_no (bs (cutA s.data.toList)) hsA W h1 h2
  have hE1 := zErrs hE
  have hN1 := hN.below kb
  rw [bs_list] at HH
  rw [bs_list] at HAo HAn
  obtain ⟨res, hres⟩ : ∃ res, withNumberL s.data.toList = res := ⟨_, rfl⟩
  have HR : Hid (withNumberL s.data.toList = res) := hres
  unfold withNumberL at HR
  rw [hres]
  clear hres hsz hsA hE hN
  cases hk : okN (cutA s.data.toList) with
  | true =>
    obtain ⟨v, hv⟩ : ∃ v, Lib.atoiAll (cutA s.data.toList) = .ok v := by
      unfold okN at hk
      split at hk
      · exact ⟨_, by assumption⟩
      · cases hk
    have hv0 := ok_nonneg _ (fun c hc => hd c (cutA_sub _ c hc)) v hv
    have HA := fun W => HAo W v hv
    rw [hv] at HR
    clear HAo HAn hv hk hd
    obtain ⟨m, rfl⟩ := Int.eq_ofNat_of_zero_le hv0
    simp only [Int.toNat_natCast] at HR
    generalize bs (cutA s.data.toList) = tA at *
    generalize bs (cutB s.data.toList) = tB at *
    by_cases h25 : m < 25
    · have i1 : ¬ (25 : Int) ≤ (m : Int) := by omega
      have i1' : (m : Int) < 25 := by omega
      have hc4 := fun {W : World} (h : NumTab W) => h.cells m h25
      obtain ⟨⟨kd, nn⟩, hkn⟩ : ∃ x, numT.getD m (0, 0) = x := ⟨_, rfl⟩
      rw [hkn] at HR
      simp only [hkn] at hc4
      clear hkn
      simp only at HR hc4
      by_cases h0 : kd = 0
      · subst h0
        have e : res = none := by rw [← HR.out, if_neg (by simp)]
        subst e
        clear HR
        generalize cutF s.data.toList = tF at *
        generalize (heldN (cutB s.data.toList)).getD 0 = hq at *
        generalize (heldN (cutB s.data.toList)).isSome = ho at *
        go_enter Tryd.func44, Tryd.ntmps44
        go_wp2_with (first | (go_at_call 53; refine (HC _).mono ?_; rintro e W1 ⟨rfl, b1⟩; have z1 := held_block b1; have E1 := Errs.below hE1 b1; have k1 := kb.trans (b1.mono kb.size)) | (go_at_call 40; refine (HA _).mono ?_; rintro e W2 ⟨rfl, b2⟩; have z2 := by_block z1 b2; have E2 := Errs.below E1 b2; have k2 := k1.trans (b2.mono k1.size)) | (go_at_call 54; refine (HH _ E2).mono ?_; rintro e W3 ⟨rfl, b3⟩; have z3 := by_block z2 b3; have k3 := k2.trans (b3.mono k2.size); have N3 := hN1.below b1; replace N3 := N3.below b2; replace N3 := N3.below b3; obtain ⟨c0, c1, c2, c3⟩ := hc4 N3; clear N3) | (refine wpList_store_row rfl 31 (.tmp 2) (.tmp 48) rfl (w.heap.size) #[.int .i64 0, .int .i32 0, .int .i64 0, .int .i64 0] rfl rfl _ _ z3 (by kernel_rfl) rfl (one4 _ _ _ _) ?_))
        (try simp only [Exit.inBlock, Exit.then])
        refine bodyPost_ret (v := .tuple #[.agg #[.int .i64 0, .int .i32 0, .int .i64 0, .int .i64 0], .bool false]) ?_ rfl ⟨rfl, below_setRow k3 (Nat.le_refl _) _⟩
        exact results_key_tmp rfl _ _ w.heap.size _ _ _ _ rfl (setRow_heap _ _ _ _ _ _ z3) Tryd.underlying31 rfl (by kernel_rfl) _ rfl
      · have hb0 : (kd == 0) = false := by rw [beq_eq_false_iff_ne]; exact h0
        cases hh : heldN (cutB s.data.toList) with
        | none =>
          rw [hh] at HR HH
          simp only [Option.getD_none, Option.isSome_none] at HH
          cases hF : cutF s.data.toList with
          | true =>
            rw [hF] at HR HC
            have e : res = none := by rw [← HR.out, if_neg (by simp)]
            subst e
            clear HR hh hF
            go_enter Tryd.func44, Tryd.ntmps44
            go_wp2_with (first | (go_at_call 53; refine (HC _).mono ?_; rintro e W1 ⟨rfl, b1⟩; have z1 := held_block b1; have E1 := Errs.below hE1 b1; have k1 := kb.trans (b1.mono kb.size)) | (go_at_call 40; refine (HA _).mono ?_; rintro e W2 ⟨rfl, b2⟩; have z2 := by_block z1 b2; have E2 := Errs.below E1 b2; have k2 := k1.trans (b2.mono k1.size)) | (go_at_call 54; refine (HH _ E2).mono ?_; rintro e W3 ⟨rfl, b3⟩; have z3 := by_block z2 b3; have k3 := k2.trans (b3.mono k2.size); have N3 := hN1.below b1; replace N3 := N3.below b2; replace N3 := N3.below b3; obtain ⟨c0, c1, c2, c3⟩ := hc4 N3; clear N3) | (refine wpList_store_row rfl 31 (.tmp 2) (.tmp 48) rfl (w.heap.size) #[.int .i64 0, .int .i32 0, .int .i64 0, .int .i64 0] rfl rfl _ _ z3 (by kernel_rfl) rfl (one4 _ _ _ _) ?_))
            (try simp only [Exit.inBlock, Exit.then])
            refine bodyPost_ret (v := .tuple #[.agg #[.int .i64 0, .int .i32 0, .int .i64 0, .int .i64 0], .bool false]) ?_ rfl ⟨rfl, below_setRow k3 (Nat.le_refl _) _⟩
            exact results_key_tmp rfl _ _ w.heap.size _ _ _ _ rfl (setRow_heap _ _ _ _ _ _ z3) Tryd.underlying31 rfl (by kernel_rfl) _ rfl
          | false =>
            rw [hF] at HR HC
            have e : res = some ⟨kd, 0, nn, 0⟩ := by rw [← HR.out, if_pos ⟨by omega, h0, by simp⟩]; rfl
            subst e
            clear HR hh hF
            go_enter Tryd.func44, Tryd.ntmps44
            go_wp2_with (first | (go_at_call 53; refine (HC _).mono ?_; rintro e W1 ⟨rfl, b1⟩; have z1 := held_block b1; have E1 := Errs.below hE1 b1; have k1 := kb.trans (b1.mono kb.size)) | (go_at_call 40; refine (HA _).mono ?_; rintro e W2 ⟨rfl, b2⟩; have z2 := by_block z1 b2; have E2 := Errs.below E1 b2; have k2 := k1.trans (b2.mono k1.size)) | (go_at_call 54; refine (HH _ E2).mono ?_; rintro e W3 ⟨rfl, b3⟩; have z3 := by_block z2 b3; have k3 := k2.trans (b3.mono k2.size); have N3 := hN1.below b1; replace N3 := N3.below b2; replace N3 := N3.below b3; obtain ⟨c0, c1, c2, c3⟩ := hc4 N3; have rg := range4 c0 c1 c2 c3; have z4 := by_block z3 ((Below.refl _ _).alloc (Nat.le_refl _) (.cells #[.int .i64 kd, .int .i32 0, .int .i64 nn, .int .i64 0] 31)); have k4 := k3.alloc k3.size (.cells #[.int .i64 kd, .int .i32 0, .int .i64 nn, .int .i64 0] 31); clear N3) | (refine wpList_load_mid rfl 31 (.tmp 50) rfl 3 (m * 4) rfl [.int .i64 kd, .int .i32 0, .int .i64 nn, .int .i64 0] _ rg Tryd.underlying31 rfl (by kernel_rfl) ?_) | (refine wpList_store_row rfl 31 (.tmp 2) (.tmp 54) rfl (w.heap.size) #[.int .i64 kd, .int .i32 0, .int .i64 nn, .int .i64 0] rfl rfl _ _ z4 (by kernel_rfl) rfl (one4 _ _ _ _) ?_))
            (try simp only [Exit.inBlock, Exit.then])
            refine bodyPost_ret (v := .tuple #[.agg #[.int .i64 kd, .int .i32 0, .int .i64 nn, .int .i64 0], .bool true]) ?_ rfl ⟨rfl, below_setRow k4 (Nat.le_refl _) _⟩
            exact results_key_tmp rfl _ _ w.heap.size _ _ _ _ rfl (setRow_heap _ _ _ _ _ _ z4) Tryd.underlying31 rfl (by kernel_rfl) _ rfl
        | some q =>
          rw [hh] at HR HH
          simp only [Option.getD_some, Option.isSome_some] at HH
          have e : res = some ⟨kd, 0, nn, q⟩ := by rw [← HR.out, if_pos ⟨by omega, h0, by simp⟩]; rfl
          subst e
          clear HR hh
          cases hF : cutF s.data.toList with
          | true =>
            rw [hF] at HC
            clear hF
            go_enter Tryd.func44, Tryd.ntmps44
            go_wp2_with (first | (go_at_call 53; refine (HC _).mono ?_; rintro e W1 ⟨rfl, b1⟩; have z1 := held_block b1; have E1 := Errs.below hE1 b1; have k1 := kb.trans (b1.mono kb.size)) | (go_at_call 40; refine (HA _).mono ?_; rintro e W2 ⟨rfl, b2⟩; have z2 := by_block z1 b2; have E2 := Errs.below E1 b2; have k2 := k1.trans (b2.mono k1.size)) | (go_at_call 54; refine (HH _ E2).mono ?_; rintro e W3 ⟨rfl, b3⟩; have z3 := by_block z2 b3; have k3 := k2.trans (b3.mono k2.size); have N3 := hN1.below b1; replace N3 := N3.below b2; replace N3 := N3.below b3; obtain ⟨c0, c1, c2, c3⟩ := hc4 N3; have rg := range4 c0 c1 c2 c3; have z4 := by_block z3 ((Below.refl _ _).alloc (Nat.le_refl _) (.cells #[.int .i64 kd, .int .i32 0, .int .i64 nn, .int .i64 q] 31)); have k4 := k3.alloc k3.size (.cells #[.int .i64 kd, .int .i32 0, .int .i64 nn, .int .i64 q] 31); clear N3) | (refine wpList_load_mid rfl 31 (.tmp 50) rfl 3 (m * 4) rfl [.int .i64 kd, .int .i32 0, .int .i64 nn, .int .i64 0] _ rg Tryd.underlying31 rfl (by kernel_rfl) ?_) | (refine wpList_store_row rfl 31 (.tmp 2) (.tmp 54) rfl (w.heap.size) #[.int .i64 kd, .int .i32 0, .int .i64 nn, .int .i64 q] rfl rfl _ _ z4 (by kernel_rfl) rfl (one4 _ _ _ _) ?_))
            (try simp only [Exit.inBlock, Exit.then])
            refine bodyPost_ret (v := .tuple #[.agg #[.int .i64 kd, .int .i32 0, .int .i64 nn, .int .i64 q], .bool true]) ?_ rfl ⟨rfl, below_setRow k4 (Nat.le_refl _) _⟩
            exact results_key_tmp rfl _ _ w.heap.size _ _ _ _ rfl (setRow_heap _ _ _ _ _ _ z4) Tryd.underlying31 rfl (by kernel_rfl) _ rfl
          | false =>
            rw [hF] at HC
            clear hF
            go_enter Tryd.func44, Tryd.ntmps44
            go_wp2_with (first | (go_at_call 53; refine (HC _).mono ?_; rintro e W1 ⟨rfl, b1⟩; have z1 := held_block b1; have E1 := Errs.below hE1 b1; have k1 := kb.trans (b1.mono kb.size)) | (go_at_call 40; refine (HA _).mono ?_; rintro e W2 ⟨rfl, b2⟩; have z2 := by_block z1 b2; have E2 := Errs.below E1 b2; have k2 := k1.trans (b2.mono k1.size)) | (go_at_call 54; refine (HH _ E2).mono ?_; rintro e W3 ⟨rfl, b3⟩; have z3 := by_block z2 b3; have k3 := k2.trans (b3.mono k2.size); have N3 := hN1.below b1; replace N3 := N3.below b2; replace N3 := N3.below b3; obtain ⟨c0, c1, c2, c3⟩ := hc4 N3; have rg := range4 c0 c1 c2 c3; have z4 := by_block z3 ((Below.refl _ _).alloc (Nat.le_refl _) (.cells #[.int .i64 kd, .int .i32 0, .int .i64 nn, .int .i64 q] 31)); have k4 := k3.alloc k3.size (.cells #[.int .i64 kd, .int .i32 0, .int .i64 nn, .int .i64 q] 31); clear N3) | (refine wpList_load_mid rfl 31 (.tmp 50) rfl 3 (m * 4) rfl [.int .i64 kd, .int .i32 0, .int .i64 nn, .int .i64 0] _ rg Tryd.underlying31 rfl (by kernel_rfl) ?_) | (refine wpList_store_row rfl 31 (.tmp 2) (.tmp 54) rfl (w.heap.size) #[.int .i64 kd, .int .i32 0, .int .i64 nn, .int .i64 q] rfl rfl _ _ z4 (by kernel_rfl) rfl (one4 _ _ _ _) ?_))
            (try simp only [Exit.inBlock, Exit.then])
            refine bodyPost_ret (v := .tuple #[.agg #[.int .i64 kd, .int .i32 0, .int .i64 nn, .int .i64 q], .bool true]) ?_ rfl ⟨rfl, below_setRow k4 (Nat.le_refl _) _⟩
            exact results_key_tmp rfl _ _ w.heap.size _ _ _ _ rfl (setRow_heap _ _ _ _ _ _ z4) Tryd.underlying31 rfl (by kernel_rfl) _ rfl
    · have i1 : (25 : Int) ≤ (m : Int) := by omega
      have e : res = none := by rw [← HR.out, if_neg (fun h => h25 (by have := h.1; omega))]
      subst e
      clear HR
      generalize cutF s.data.toList = tF at *
      generalize (heldN (cutB s.data.toList)).getD 0 = hq at *
      generalize (heldN (cutB s.data.toList)).isSome = ho at *
      go_enter Tryd.func44, Tryd.ntmps44
      go_wp2_with (first | (go_at_call 53; refine (HC _).mono ?_; rintro e W1 ⟨rfl, b1⟩; have z1 := held_block b1; have E1 := Errs.below hE1 b1; have k1 := kb.trans (b1.mono kb.size)) | (go_at_call 40; refine (HA _).mono ?_; rintro e W2 ⟨rfl, b2⟩; have z2 := by_block z1 b2; have E2 := Errs.below E1 b2; have k2 := k1.trans (b2.mono k1.size)) | (go_at_call 54; refine (HH _ E2).mono ?_; rintro e W3 ⟨rfl, b3⟩; have z3 := by_block z2 b3; have k3 := k2.trans (b3.mono k2.size)) | (refine wpList_store_row rfl 31 (.tmp 2) (.tmp 48) rfl (w.heap.size) #[.int .i64 0, .int .i32 0, .int .i64 0, .int .i64 0] rfl rfl _ _ z3 (by kernel_rfl) rfl (one4 _ _ _ _) ?_))
      (try simp only [Exit.inBlock, Exit.then])
      refine bodyPost_ret (v := .tuple #[.agg #[.int .i64 0, .int .i32 0, .int .i64 0, .int .i64 0], .bool false]) ?_ rfl ⟨rfl, below_setRow k3 (Nat.le_refl _) _⟩
      exact results_key_tmp rfl _ _ w.heap.size _ _ _ _ rfl (setRow_heap _ _ _ _ _ _ z3) Tryd.underlying31 rfl (by kernel_rfl) _ rfl
  | false =>
    have e : res = none := by
      rw [← HR.out]
      unfold okN at hk
      split
      · rename_i v hv
        rw [hv] at hk
        cases hk
      · rfl
    subst e
    have HA := fun W h => HAn W h hk
    clear HR HAo HAn hk hd
    generalize bs (cutA s.data.toList) = tA at *
    generalize bs (cutB s.data.toList) = tB at *
    generalize cutF s.data.toList = tF at *
    generalize atoiN (cutA s.data.toList) = va at *
    generalize (heldN (cutB s.data.toList)).getD 0 = hq at *
    generalize (heldN (cutB s.data.toList)).isSome = ho at *
    go_enter Tryd.func44, Tryd.ntmps44
    go_wp2_with (first | (go_at_call 53; refine (HC _).mono ?_; rintro e W1 ⟨rfl, b1⟩; have z1 := held_block b1; have E1 := Errs.below hE1 b1; have k1 := kb.trans (b1.mono kb.size)) | (go_at_call 40; refine (HA _ E1).mono ?_; rintro e W2 ⟨NN, rfl, b2⟩; have z2 := by_block z1 b2; have E2 := Errs.below E1 b2; have k2 := k1.trans (b2.mono k1.size)) | (go_at_call 54; refine (HH _ E2).mono ?_; rintro e W3 ⟨rfl, b3⟩; have z3 := by_block z2 b3; have k3 := k2.trans (b3.mono k2.size)) | (refine wpList_store_row rfl 31 (.tmp 2) (.tmp 48) rfl (w.heap.size) #[.int .i64 0, .int .i32 0, .int .i64 0, .int .i64 0] rfl rfl _ _ z3 (by kernel_rfl) rfl (one4 _ _ _ _) ?_))
    (try simp only [Exit.inBlock, Exit.then])
    refine bodyPost_ret (v := .tuple #[.agg #[.int .i64 0, .int .i32 0, .int .i64 0, .int .i64 0], .bool false]) ?_ rfl ⟨rfl, below_setRow k3 (Nat.le_refl _) _⟩
    exact results_key_tmp rfl _ _ w.heap.size _ _ _ _ rfl (setRow_heap _ _ _ _ _ _ z3) Tryd.underlying31 rfl (by kernel_rfl) _ rfl
end Kys
end Go.Proofs.YtplceodnllcimaaDoor

/- Package keys: what a sequence tells. -/
namespace Go.Proofs.YtplceodnllcimaaDoor
open Go.ChangeShapes Go.WideShapes Go.ChangeAt Go.RowKit
namespace Kys
open Txt (wd bs dec)
theorem u8_nat (c : UInt8) : ((c.toNat : Int)).toNat.toUInt8 = c := by simp
theorem lett_lt (c : UInt8) : Lib.indexByte lettersL c ≤ 5 := by
  unfold lettersL
  simp only [Lib.indexByte]
  repeat' split
  all_goals omega
set_option maxHeartbeats 4000000 in
theorem told_any (c : UInt8) (s : ByteArray) (f : UInt8) (hs : s.size ≤ 1048576) (hd : ∀ x ∈ s.data.toList, x.toNat ≠ 45) (w : World) (hE : Errs w) (hN : NumTab w) : Calls Tryd.prog 28 #[.int .u8 (c.toNat : Int), .string s, .int .u8 (f.toNat : Int)] w fun e w' => e = .returned (.tuple #[kyv (kOr (toldL c s.data.toList f)), .bool (toldL c s.data.toList f).isSome]) ∧ Below w.heap.size w w' := by
  have kb := kb_z w
  have Z := hz w
  have hE1 := zErrs hE
  have hN1 := hN.below kb
  have HI := fun W => Tryd.strings_IndexByte ⟨#[65, 66, 67, 68, 72, 70]⟩ (f.toNat : Int) W
  rw [u8_nat] at HI
  have hL : (⟨#[65, 66, 67, 68, 72, 70]⟩ : ByteArray).data.toList = lettersL := rfl
  rw [hL] at HI
  clear hL
  have hge := Lib.indexByte_ge lettersL f
  have hle := lett_lt f
  have hfl := f.toNat_lt
  have hcl := c.toNat_lt
  obtain ⟨res, hres⟩ : ∃ res, toldL c s.data.toList f = res := ⟨_, rfl⟩
  have HR : Hid (toldL c s.data.toList f = res) := hres
  unfold toldL at HR
  rw [hres]
  clear hres hE hN
  by_cases h0 : 0 ≤ Lib.indexByte lettersL f
  · have HL := fun W (h : Errs W) => withLetter_any (6 + Lib.indexByte lettersL f) s hs W h
    have e : withLetterL (6 + Lib.indexByte lettersL f) s.data.toList = res := by rw [← HR.out, if_pos h0]
    rw [e] at HL
    clear e HR hd
    generalize Lib.indexByte lettersL f = q at *
    have hw : wrap64 (6 + q) = 6 + q := by unfold wrap64; omega
    generalize kOr res = kk at *
    obtain ⟨kd, rr, nn, hh⟩ := kk
    generalize res.isSome = ok at *
    unfold kyv at HL ⊢
    simp only at HL ⊢
    go_enter Tryd.func28, Tryd.ntmps28
    go_wp2_with (first | (go_at_call 22; refine (HI _).mono ?_; rintro e W1 ⟨rfl, hW1⟩; subst hW1) | (go_at_call 43; refine (HL _ hE1).mono ?_; rintro e W2 ⟨rfl, b2⟩; have z2 := held_block b2; replace kb := kb.trans (b2.mono kb.size)) | (refine wpList_store_row rfl 31 (.tmp 6) (.tmp 18) rfl (w.heap.size) #[.int .i64 kd, .int .i32 rr, .int .i64 nn, .int .i64 hh] rfl rfl _ _ z2 (by kernel_rfl) rfl (one4 _ _ _ _) ?_))
    (try simp only [Exit.inBlock, Exit.then])
    refine bodyPost_ret (v := .tuple #[.agg #[.int .i64 kd, .int .i32 rr, .int .i64 nn, .int .i64 hh], .bool ok]) ?_ rfl ⟨rfl, below_setRow kb (Nat.le_refl _) _⟩
    exact results_key_tmp rfl _ _ w.heap.size _ _ _ _ rfl (setRow_heap _ _ _ _ _ _ z2) Tryd.underlying31 rfl (by kernel_rfl) _ rfl
  · by_cases h1 : f = 126
    · have HL := fun W (h : Errs W) (h' : NumTab W) => withNumber_any s hs hd W h h'
      have e : withNumberL s.data.toList = res := by rw [← HR.out, if_neg h0, if_pos h1]
      rw [e] at HL
      clear e HR hd
      have i1 : ((f.toNat : Int) == 126) = true := by rw [h1]; rfl
      clear h1
      generalize Lib.indexByte lettersL f = q at *
      generalize kOr res = kk at *
      obtain ⟨kd, rr, nn, hh⟩ := kk
      generalize res.isSome = ok at *
      unfold kyv at HL ⊢
      simp only at HL ⊢
      go_enter Tryd.func28, Tryd.ntmps28
      go_wp2_with (first | (go_at_call 22; refine (HI _).mono ?_; rintro e W1 ⟨rfl, hW1⟩; subst hW1) | (go_at_call 44; refine (HL _ hE1 hN1).mono ?_; rintro e W2 ⟨rfl, b2⟩; have z2 := held_block b2; replace kb := kb.trans (b2.mono kb.size)) | (refine wpList_store_row rfl 31 (.tmp 6) (.tmp 25) rfl (w.heap.size) #[.int .i64 kd, .int .i32 rr, .int .i64 nn, .int .i64 hh] rfl rfl _ _ z2 (by kernel_rfl) rfl (one4 _ _ _ _) ?_))
      (try simp only [Exit.inBlock, Exit.then])
      refine bodyPost_ret (v := .tuple #[.agg #[.int .i64 kd, .int .i32 rr, .int .i64 nn, .int .i64 hh], .bool ok]) ?_ rfl ⟨rfl, below_setRow kb (Nat.le_refl _) _⟩
      exact results_key_tmp rfl _ _ w.heap.size _ _ _ _ rfl (setRow_heap _ _ _ _ _ _ z2) Tryd.underlying31 rfl (by kernel_rfl) _ rfl
    · have i1 : ((f.toNat : Int) == 126) = false := by
        rw [beq_eq_false_iff_ne]
        intro h
        exact h1 (UInt8.toNat_inj.1 (by simp; omega))
      have E1 : (if f = 90 ∧ c = 91 ∧ s.data.toList = [] then some (⟨3, 0, 0, 1⟩ : Ky) else none) = res := by rw [← HR.out, if_neg h0, if_neg h1]
      clear HR
      have HR : Hid ((if f = 90 ∧ c = 91 ∧ s.data.toList = [] then some (⟨3, 0, 0, 1⟩ : Ky) else none) = res) := E1
      clear E1 hE1 hN1 hd h1
      have jf : ∀ x : UInt8, (((f.toNat : Int) == (x.toNat : Int)) = decide (f = x)) := fun x => by
        by_cases h : f = x
        · subst h; simp
        · rw [decide_eq_false h, beq_eq_false_iff_ne]
          intro h'
          exact h (UInt8.toNat_inj.1 (by omega))
      have jc : ∀ x : UInt8, (((c.toNat : Int) == (x.toNat : Int)) = decide (c = x)) := fun x => by
        by_cases h : c = x
        · subst h; simp
        · rw [decide_eq_false h, beq_eq_false_iff_ne]
          intro h'
          exact h (UInt8.toNat_inj.1 (by omega))
      have js : (s.toList == []) = decide (s.data.toList = []) := by
        by_cases h : s.data.toList = []
        · rw [decide_eq_true h, beq_iff_eq, Lib.toList_data]; exact h
        · rw [decide_eq_false h, beq_eq_false_iff_ne, Lib.toList_data]; exact h
      have jf1 := jf 90
      have jc1 := jc 91
      rw [show (((90 : UInt8).toNat : Nat) : Int) = 90 from rfl] at jf1
      rw [show (((91 : UInt8).toNat : Nat) : Int) = 91 from rfl] at jc1
      clear jf jc
      by_cases g1 : f = 90
      · by_cases g2 : c = 91
        · by_cases g3 : s.data.toList = []
          · have e : res = some ⟨3, 0, 0, 1⟩ := by rw [← HR.out, if_pos ⟨g1, g2, g3⟩]
            subst e
            rw [decide_eq_true g1] at jf1
            rw [decide_eq_true g2] at jc1
            rw [decide_eq_true g3] at js
            clear HR g1 g2 g3
            generalize Lib.indexByte lettersL f = q at *
            go_enter Tryd.func28, Tryd.ntmps28
            go_wp2_with (first | (go_at_call 22; refine (HI _).mono ?_; rintro e W1 ⟨rfl, hW1⟩; subst hW1) | (refine wpList_store_row rfl 31 (.tmp 6) (.tmp 38) rfl (w.heap.size) #[.int .i64 3, .int .i32 0, .int .i64 0, .int .i64 1] rfl rfl _ _ Z (by kernel_rfl) rfl (one4 _ _ _ _) ?_))
            (try simp only [Exit.inBlock, Exit.then])
            refine bodyPost_ret (v := .tuple #[.agg #[.int .i64 3, .int .i32 0, .int .i64 0, .int .i64 1], .bool true]) ?_ rfl ⟨rfl, below_setRow kb (Nat.le_refl _) _⟩
            exact results_key_tmp rfl _ _ w.heap.size _ _ _ _ rfl (setRow_heap _ _ _ _ _ _ Z) Tryd.underlying31 rfl (by kernel_rfl) _ rfl
          · have e : res = none := by rw [← HR.out, if_neg (fun h => g3 h.2.2)]
            subst e
            rw [decide_eq_true g1] at jf1
            rw [decide_eq_true g2] at jc1
            rw [decide_eq_false g3] at js
            clear HR g1 g2 g3
            generalize Lib.indexByte lettersL f = q at *
            go_enter Tryd.func28, Tryd.ntmps28
            go_wp2_with (first | (go_at_call 22; refine (HI _).mono ?_; rintro e W1 ⟨rfl, hW1⟩; subst hW1) | (refine wpList_store_row rfl 31 (.tmp 6) (.tmp 39) rfl (w.heap.size) #[.int .i64 0, .int .i32 0, .int .i64 0, .int .i64 0] rfl rfl _ _ Z (by kernel_rfl) rfl (one4 _ _ _ _) ?_))
            (try simp only [Exit.inBlock, Exit.then])
            refine bodyPost_ret (v := .tuple #[.agg #[.int .i64 0, .int .i32 0, .int .i64 0, .int .i64 0], .bool false]) ?_ rfl ⟨rfl, below_setRow kb (Nat.le_refl _) _⟩
            exact results_key_tmp rfl _ _ w.heap.size _ _ _ _ rfl (setRow_heap _ _ _ _ _ _ Z) Tryd.underlying31 rfl (by kernel_rfl) _ rfl
        · have e : res = none := by rw [← HR.out, if_neg (fun h => g2 h.2.1)]
          subst e
          rw [decide_eq_true g1] at jf1
          rw [decide_eq_false g2] at jc1
          clear HR g1 g2 js
          generalize Lib.indexByte lettersL f = q at *
          go_enter Tryd.func28, Tryd.ntmps28
          go_wp2_with (first | (go_at_call 22; refine (HI _).mono ?_; rintro e W1 ⟨rfl, hW1⟩; subst hW1) | (refine wpList_store_row rfl 31 (.tmp 6) (.tmp 39) rfl (w.heap.size) #[.int .i64 0, .int .i32 0, .int .i64 0, .int .i64 0] rfl rfl _ _ Z (by kernel_rfl) rfl (one4 _ _ _ _) ?_))
          (try simp only [Exit.inBlock, Exit.then])
          refine bodyPost_ret (v := .tuple #[.agg #[.int .i64 0, .int .i32 0, .int .i64 0, .int .i64 0], .bool false]) ?_ rfl ⟨rfl, below_setRow kb (Nat.le_refl _) _⟩
          exact results_key_tmp rfl _ _ w.heap.size _ _ _ _ rfl (setRow_heap _ _ _ _ _ _ Z) Tryd.underlying31 rfl (by kernel_rfl) _ rfl
      · have e : res = none := by rw [← HR.out, if_neg (fun h => g1 h.1)]
        subst e
        rw [decide_eq_false g1] at jf1
        clear HR g1 js jc1
        generalize Lib.indexByte lettersL f = q at *
        go_enter Tryd.func28, Tryd.ntmps28
        go_wp2_with (first | (go_at_call 22; refine (HI _).mono ?_; rintro e W1 ⟨rfl, hW1⟩; subst hW1) | (refine wpList_store_row rfl 31 (.tmp 6) (.tmp 39) rfl (w.heap.size) #[.int .i64 0, .int .i32 0, .int .i64 0, .int .i64 0] rfl rfl _ _ Z (by kernel_rfl) rfl (one4 _ _ _ _) ?_))
        (try simp only [Exit.inBlock, Exit.then])
        refine bodyPost_ret (v := .tuple #[.agg #[.int .i64 0, .int .i32 0, .int .i64 0, .int .i64 0], .bool false]) ?_ rfl ⟨rfl, below_setRow kb (Nat.le_refl _) _⟩
        exact results_key_tmp rfl _ _ w.heap.size _ _ _ _ rfl (setRow_heap _ _ _ _ _ _ Z) Tryd.underlying31 rfl (by kernel_rfl) _ rfl
end Kys
end Go.Proofs.YtplceodnllcimaaDoor

/- Package keys: a sequence. -/
namespace Go.Proofs.YtplceodnllcimaaDoor
open Go.ChangeShapes Go.WideShapes Go.ChangeAt Go.RowKit
namespace Kys
open Txt (wd bs dec)
theorem aheadF_num : ∀ (f : Nat) (l : List UInt8), ∀ c ∈ l.take (aheadF f l), c.toNat ≠ 45
  | 0, l, c, hc => by simp [aheadF] at hc
  | f + 1, [], c, hc => by simp at hc
  | f + 1, x :: r, c, hc => by
    unfold aheadF at hc
    split at hc
    · rename_i hx
      rw [List.take_succ_cons] at hc
      rcases List.mem_cons.1 hc with rfl | hc
      · unfold isNum at hx
        simp at hx
        omega
      · exact aheadF_num f r c hc
    · simp at hc
theorem end_num (l : List UInt8) : ∀ c ∈ (l.drop 2).take (endL l - 2), c.toNat ≠ 45 := by
  intro c hc
  unfold endL at hc
  split at hc
  · rw [Nat.add_sub_cancel_left] at hc
    exact aheadF_num 10 _ c hc
  · simp at hc
theorem end_two (l : List UInt8) : 2 ≤ endL l := by unfold endL; split <;> omega
theorem ext_two (s : ByteArray) : (s.extract 2 s.size).data.toList = s.data.toList.drop 2 := by
  rw [toL_extract, List.take_of_length_le (by rw [Array.length_toList]; exact Nat.le_refl _)]
theorem ext_mid (s : ByteArray) (e : Nat) : (s.extract 2 e).data.toList = (s.data.toList.drop 2).take (e - 2) := by
  rw [toL_extract, List.drop_take]
theorem held_drew {w W : World} {o : Obj} (h : Below (w.alloc o).drew.heap.size (w.alloc o).drew W) : W.heap[w.heap.size]? = some o := by
  rw [h.block _ (by show w.heap.size < (w.alloc o).heap.size; rw [show (w.alloc o).heap.size = w.heap.size + 1 by simp]; omega)]
  exact heap_alloc_new _ _
theorem four_of {W : World} {b : Nat} {p q r z : Value} {t : TypeId} (h : W.heap[b]? = some (.cells #[p, q, r, z] t (0, 0))) : (W.cell? ⟨b, 0, none⟩ = some p ∧ W.cell? ⟨b, 1, none⟩ = some q ∧ W.cell? ⟨b, 2, none⟩ = some r ∧ W.cell? ⟨b, 3, none⟩ = some z) ∧ W.frozen? ⟨b, 0, none⟩ = false ∧ W.frozen? ⟨b, 1, none⟩ = false ∧ W.frozen? ⟨b, 2, none⟩ = false ∧ W.frozen? ⟨b, 3, none⟩ = false := by
  have hf : ∀ i, W.frozen? ⟨b, i, none⟩ = false := fun i => by
    simp [World.frozen?, h]
  unfold World.cell?
  rw [h]
  exact ⟨⟨rfl, rfl, rfl, rfl⟩, hf 0, hf 1, hf 2, hf 3⟩
theorem seq_i {w W1 W2 : World} {A : Array Value} (k1 : Below w.heap.size w W1) (z1 : W1.heap[w.heap.size]? = some (.cells #[.int .i64 0, .int .i32 0, .int .i64 0, .int .i64 0] 31)) (b2 : Below W1.drew.heap.size W1.drew W2) : (W2.alloc (.cells A 31)).heap[W2.heap.size]? = some (.cells A 31 (0, 0)) ∧ (W2.alloc (.cells A 31)).heap[w.heap.size]? = some (.cells #[.int .i64 0, .int .i32 0, .int .i64 0, .int .i64 0] 31) ∧ Below w.heap.size w (W2.alloc (.cells A 31)) ∧ ¬ w.heap.size = W2.heap.size := by
  have hl : w.heap.size < W1.heap.size := (Array.getElem?_eq_some_iff.1 z1).1
  have b2' : Below W1.heap.size W1 W2 := ⟨b2.os, b2.tape, b2.output, b2.size, b2.block⟩
  have z2 : W2.heap[w.heap.size]? = some (.cells #[.int .i64 0, .int .i32 0, .int .i64 0, .int .i64 0] 31) := by_block z1 b2'
  have k2 := k1.trans (b2'.mono k1.size)
  have := b2'.size
  exact ⟨heap_alloc_new _ _, by_block z2 ((Below.refl _ _).alloc (Nat.le_refl _) _), k2.alloc k2.size _, by omega⟩
theorem seq_ii {w W1 W2 : World} {p q r z : Value} (k1 : Below w.heap.size w W1) (z1 : W1.heap[w.heap.size]? = some (.cells #[.int .i64 0, .int .i32 0, .int .i64 0, .int .i64 0] 31)) (b2 : Below (W1.alloc (.cells #[.int .i64 0, .int .i32 0, .int .i64 0, .int .i64 0] 31)).drew.heap.size (W1.alloc (.cells #[.int .i64 0, .int .i32 0, .int .i64 0, .int .i64 0] 31)).drew W2) : ((((W2.setCell ⟨W1.heap.size, 0, none⟩ p).setCell ⟨W1.heap.size, 1, none⟩ q).setCell ⟨W1.heap.size, 2, none⟩ r).setCell ⟨W1.heap.size, 3, none⟩ z).heap[W1.heap.size]? = some (.cells #[p, q, r, z] 31 (0, 0)) ∧ ((((W2.setCell ⟨W1.heap.size, 0, none⟩ p).setCell ⟨W1.heap.size, 1, none⟩ q).setCell ⟨W1.heap.size, 2, none⟩ r).setCell ⟨W1.heap.size, 3, none⟩ z).heap[w.heap.size]? = some (.cells #[.int .i64 0, .int .i32 0, .int .i64 0, .int .i64 0] 31) ∧ Below w.heap.size w ((((W2.setCell ⟨W1.heap.size, 0, none⟩ p).setCell ⟨W1.heap.size, 1, none⟩ q).setCell ⟨W1.heap.size, 2, none⟩ r).setCell ⟨W1.heap.size, 3, none⟩ z) ∧ ¬ w.heap.size = W1.heap.size := by
  have hl : w.heap.size < W1.heap.size := (Array.getElem?_eq_some_iff.1 z1).1
  have zz := held_drew b2
  have b2' : Below W1.heap.size W1 W2 := by
    refine ((Below.refl _ _).alloc (Nat.le_refl _) (.cells #[.int .i64 0, .int .i32 0, .int .i64 0, .int .i64 0] 31)).drew.trans (b2.mono ?_)
    show W1.heap.size ≤ (W1.alloc (.cells #[.int .i64 0, .int .i32 0, .int .i64 0, .int .i64 0] 31)).heap.size
    rw [show (W1.alloc (.cells #[.int .i64 0, .int .i32 0, .int .i64 0, .int .i64 0] 31)).heap.size = W1.heap.size + 1 by simp]
    omega
  have z2 : W2.heap[w.heap.size]? = some (.cells #[.int .i64 0, .int .i32 0, .int .i64 0, .int .i64 0] 31) := by_block z1 b2'
  have k2 := k1.trans (b2'.mono k1.size)
  have e0 := heap_setCell_same W2 W1.heap.size 0 _ _ p zz
  have e1 := heap_setCell_same _ W1.heap.size 1 _ _ q e0
  have e2 := heap_setCell_same _ W1.heap.size 2 _ _ r e1
  have e3 := heap_setCell_same _ W1.heap.size 3 _ _ z e2
  refine ⟨e3, ?_, (((k2.setCell (p := ⟨W1.heap.size, 0, none⟩) (Nat.le_of_lt hl) p).setCell (p := ⟨W1.heap.size, 1, none⟩) (Nat.le_of_lt hl) q).setCell (p := ⟨W1.heap.size, 2, none⟩) (Nat.le_of_lt hl) r).setCell (p := ⟨W1.heap.size, 3, none⟩) (Nat.le_of_lt hl) z, by omega⟩
  rw [heap_setCell_other _ _ _ _ (show w.heap.size ≠ W1.heap.size by omega), heap_setCell_other _ _ _ _ (show w.heap.size ≠ W1.heap.size by omega), heap_setCell_other _ _ _ _ (show w.heap.size ≠ W1.heap.size by omega), heap_setCell_other _ _ _ _ (show w.heap.size ≠ W1.heap.size by omega)]
  exact z2
set_option maxHeartbeats 4000000 in
theorem sequence_any (s : ByteArray) (last : Bool) (hs : s.size ≤ 1048576) (h2 : 2 ≤ s.size) (w : World) (hE : Errs w) (hN : NumTab w) : Calls Tryd.prog 14 #[.string s, .bool last] w fun e w' => e = .returned (.tuple #[kyv (seqL s.data.toList last).1, .int .i64 ((seqL s.data.toList last).2 : Nat)]) ∧ Below w.heap.size w w' := by
  have kb := kb_z w
  have Z := hz w
  have hE1 := zErrs hE
  have hN1 := hN.below kb
  have hsz : s.data.toList.length = s.size := Array.length_toList
  have hle := end_le s.data.toList (by omega)
  have hee := end_two s.data.toList
  have h1l : 1 < s.size := by omega
  obtain ⟨x, hx⟩ : ∃ x, s[1]'h1l = x := ⟨_, rfl⟩
  have hg1 : s.data.toList.getD 1 0 = x := by rw [get_zero s 1 h1l]; exact hx
  have i0 : (1 : Int) < (s.size : Int) := by omega
  have i00 : (2 : Int) ≤ (s.size : Int) := by omega
  have HNA := fun W => numbersAhead_any (s.extract 2 s.size) W
  rw [ext_two] at HNA
  have HU := fun W => unended_any last W
  obtain ⟨res, hres⟩ : ∃ res, seqL s.data.toList last = res := ⟨_, rfl⟩
  have HR : Hid (seqL s.data.toList last = res) := hres
  unfold seqL at HR
  rw [hg1] at HR
  rw [hres]
  obtain ⟨en, hen⟩ : ∃ en, endL s.data.toList = en := ⟨_, rfl⟩
  have HEN : Hid ((if x = 91 then 2 + aheadF 10 (s.data.toList.drop 2) else 2) = en) := by
    unfold Hid
    rw [← hen]
    unfold endL
    rw [hg1]
  have hnum := end_num s.data.toList
  rw [hen] at HR hle hee hnum
  clear hres hen hE hN hg1
  rw [← ext_mid] at HR hnum
  have jx : (((x.toNat : Int) == 91) = decide (x = 91)) := by
    by_cases h : x = 91
    · subst h; rfl
    · rw [decide_eq_false h, beq_eq_false_iff_ne]
      intro h'
      exact h (UInt8.toNat_inj.1 (by rw [show (91 : UInt8).toNat = 91 from rfl]; omega))
  by_cases he : en = s.size
  · rw [if_pos (by rw [hsz]; exact he)] at HR
    have e : unendedL last = res := HR.out
    rw [e] at HU
    clear HR e hnum
    obtain ⟨⟨kd, rr, nn, hh⟩, zz⟩ := res
    unfold kyv at HU ⊢
    simp only at HU ⊢
    by_cases hx91 : x = 91
    · rw [decide_eq_true hx91] at jx
      have ea : aheadF 10 (s.data.toList.drop 2) = s.size - 2 := by have := HEN.out; rw [if_pos hx91] at this; omega
      rw [ea] at HNA
      have hw : wrap64 (2 + ((s.size - 2 : Nat) : Int)) = (s.size : Int) := by unfold wrap64; omega
      clear HEN ea he hle hee hx91 hsz
      go_enter Tryd.func14, Tryd.ntmps14
      go_wp2_with (first | (go_at_call 27; refine (HNA _).mono ?_; rintro e W1 ⟨rfl, b1⟩; have z1 := held_block b1; replace kb := kb.trans (b1.mono kb.size)) | (go_at_call 13; refine (HU _).mono ?_; rintro e W2 ⟨rfl, b2⟩; have z2 := by_block z1 b2; replace kb := kb.trans (b2.mono kb.size)) | (refine wpList_store_row rfl 31 (.tmp 4) (.tmp 23) rfl (w.heap.size) #[.int .i64 kd, .int .i32 rr, .int .i64 nn, .int .i64 hh] rfl rfl _ _ z2 (by kernel_rfl) rfl (one4 _ _ _ _) ?_))
      (try simp only [Exit.inBlock, Exit.then])
      refine bodyPost_ret (v := .tuple #[.agg #[.int .i64 kd, .int .i32 rr, .int .i64 nn, .int .i64 hh], .int .i64 zz]) ?_ rfl ⟨rfl, below_setRow kb (Nat.le_refl _) _⟩
      exact results_key_tmp rfl _ _ w.heap.size _ _ _ _ rfl (setRow_heap _ _ _ _ _ _ z2) Tryd.underlying31 rfl (by kernel_rfl) _ rfl
    · rw [decide_eq_false hx91] at jx
      have e2 : s.size = 2 := by have := HEN.out; rw [if_neg hx91] at this; omega
      have hq : (s.size : Int) = 2 := by omega
      have hq2 : ((2 : Int) == (s.size : Int)) = true := by rw [beq_iff_eq]; omega
      clear HEN he hle hee hx91 hsz HNA e2
      have HQ : Hid ((s.size : Int) = 2) := hq
      clear hq
      go_enter Tryd.func14, Tryd.ntmps14
      go_wp2_with (first | (go_at_call 13; refine (HU _).mono ?_; rintro e W2 ⟨rfl, b2⟩; have z2 := held_block b2; replace kb := kb.trans (b2.mono kb.size)) | (refine wpList_store_row rfl 31 (.tmp 4) (.tmp 23) rfl (w.heap.size) #[.int .i64 kd, .int .i32 rr, .int .i64 nn, .int .i64 hh] rfl rfl _ _ z2 (by kernel_rfl) rfl (one4 _ _ _ _) ?_))
      (try simp only [Exit.inBlock, Exit.then])
      refine bodyPost_ret (v := .tuple #[.agg #[.int .i64 kd, .int .i32 rr, .int .i64 nn, .int .i64 hh], .int .i64 zz]) ?_ rfl ⟨rfl, below_setRow kb (Nat.le_refl _) _⟩
      exact results_key_tmp rfl _ _ w.heap.size _ _ _ _ rfl (setRow_heap _ _ _ _ _ _ z2) Tryd.underlying31 rfl (by kernel_rfl) _ rfl
  · rw [if_neg (by rw [hsz]; exact he)] at HR
    have hlt : en < s.size := by omega
    obtain ⟨y, hy⟩ : ∃ y, s[en]'hlt = y := ⟨_, rfl⟩
    have hgy : s.data.toList.getD en 0 = y := by rw [get_zero s en hlt]; exact hy
    rw [hgy] at HR
    clear hgy HU
    have hmid : (s.extract 2 en).size ≤ 1048576 := by rw [ByteArray.size_extract]; omega
    have HT := fun W (h : Below (w.alloc (.cells #[.int .i64 0, .int .i32 0, .int .i64 0, .int .i64 0] 31)).heap.size (w.alloc (.cells #[.int .i64 0, .int .i32 0, .int .i64 0, .int .i64 0] 31)) W) => told_any x (s.extract 2 en) y hmid hnum W (hE1.below h) (hN1.below h)
    clear hnum hmid hE1 hN1
    have i1 : (en : Int) < (s.size : Int) := by omega
    have i2 : (2 : Int) ≤ (en : Int) := by omega
    have i3 : (en : Int) ≤ (s.size : Int) := by omega
    have i4 : ((en : Int) == (s.size : Int)) = false := by rw [beq_eq_false_iff_ne]; omega
    have hw1 : wrap64 ((en : Int) + 1) = (en : Int) + 1 := by unfold wrap64; omega
    obtain ⟨tr, htr⟩ : ∃ tr, toldL x (s.extract 2 en).data.toList y = tr := ⟨_, rfl⟩
    rw [htr] at HT HR
    cases tr with
    | none =>
      have e : res = (kEsc, 1) := HR.out.symm
      subst e
      clear HR htr
      simp only [kOr, Option.isSome_none, zk, kyv] at HT
      by_cases hx91 : x = 91
      · rw [decide_eq_true hx91] at jx
        generalize aheadF 10 (s.data.toList.drop 2) = a at *
        have ea : en = 2 + a := by have := HEN.out; rw [if_pos hx91] at this; omega
        subst ea
        have ca : ((2 + a : Nat) : Int) = 2 + (a : Int) := by omega
        rw [ca] at i1 i2 i3 i4 hw1
        have hto : (2 + (a : Int)).toNat = 2 + a := by omega
        clear HEN he hle hx91 hsz ca
        go_enter Tryd.func14, Tryd.ntmps14
        go_wp2_with (go_at_call 27; refine (HNA _).mono ?_; rintro e W1 ⟨rfl, b1⟩; have z1 := held_block b1; have k1 := kb.trans (b1.mono kb.size))
        clear HNA
        have HT1 := fun W (h : Below W1.heap.size W1 W) => HT W (b1.trans (h.mono b1.size))
        clear HT
        go_region_with (first | (go_at_call 28; refine (HT1 _ (by exact ((Below.refl _ _).alloc (Nat.le_refl _) (.cells #[.int .i64 0, .int .i32 0, .int .i64 0, .int .i64 0] 31)).drew)).mono ?_; rintro e W2 ⟨rfl, b2⟩; have zz := held_drew b2; obtain ⟨⟨y0, y1, y2, y3⟩, f0, f1, f2, f3⟩ := four_of zz) | (go_at_call 28; refine (HT1 _ (by exact (Below.refl _ _).drew)).mono ?_; rintro e W2 ⟨rfl, b2⟩))
        all_goals first
          | (have zz' := zz; clear zz y0 y1 y2 y3 f0 f1 f2 f3 zz'; obtain ⟨v7, vz, kV, hne⟩ := seq_ii (p := .int .i64 0) (q := .int .i32 0) (r := .int .i64 0) (z := .int .i64 0) k1 z1 b2; generalize (((W2.setCell ⟨W1.heap.size, 0, none⟩ (.int .i64 0)).setCell ⟨W1.heap.size, 1, none⟩ (.int .i32 0)).setCell ⟨W1.heap.size, 2, none⟩ (.int .i64 0)).setCell ⟨W1.heap.size, 3, none⟩ (.int .i64 0) = V at *; generalize W1.heap.size = B7 at *)
          | (obtain ⟨v7, vz, kV, hne⟩ := seq_i (A := #[.int .i64 0, .int .i32 0, .int .i64 0, .int .i64 0]) k1 z1 b2; generalize W2.alloc (.cells #[.int .i64 0, .int .i32 0, .int .i64 0, .int .i64 0] 31) = V at *; generalize W2.heap.size = B7 at *)
        all_goals clear b1 b2
        all_goals go_wp2_with (refine wpList_store_row rfl 31 (.tmp 4) (.tmp 39) rfl (w.heap.size) #[.int .i64 5, .int .i32 0, .int .i64 0, .int .i64 0] rfl rfl _ _ vz (by kernel_rfl) rfl (one4 _ _ _ _) ?_)
        all_goals (try simp only [Exit.inBlock, Exit.then])
        all_goals refine bodyPost_ret (v := .tuple #[.agg #[.int .i64 5, .int .i32 0, .int .i64 0, .int .i64 0], .int .i64 1]) ?_ rfl ⟨rfl, below_setRow kV (Nat.le_refl _) _⟩
        all_goals exact results_key_tmp rfl _ _ w.heap.size _ _ _ _ rfl (setRow_heap _ _ _ _ _ _ vz) Tryd.underlying31 rfl (by kernel_rfl) _ rfl
      · rw [decide_eq_false hx91] at jx
        have ea : en = 2 := by have := HEN.out; rw [if_neg hx91] at this; exact this.symm
        subst ea
        clear HEN he hle hx91 hsz HNA
        obtain ⟨W1, hW1⟩ : ∃ W1, w.alloc (.cells #[.int .i64 0, .int .i32 0, .int .i64 0, .int .i64 0] 31) = W1 := ⟨_, rfl⟩
        have HW1 : Hid (w.alloc (.cells #[.int .i64 0, .int .i32 0, .int .i64 0, .int .i64 0] 31) = W1) := hW1
        rw [hW1] at kb Z HT
        have k1 := kb
        have z1 := Z
        have b1 : True := trivial
        have HT1 := HT
        rw [show s.extract 2 2 = ByteArray.empty by simp] at HT1
        clear hW1 HT
        go_enter Tryd.func14, Tryd.ntmps14
        go_wp2_with fail
        rw [HW1.out]
        go_region_with (first | (go_at_call 28; refine (HT1 _ (by exact ((Below.refl _ _).alloc (Nat.le_refl _) (.cells #[.int .i64 0, .int .i32 0, .int .i64 0, .int .i64 0] 31)).drew)).mono ?_; rintro e W2 ⟨rfl, b2⟩; have zz := held_drew b2; obtain ⟨⟨y0, y1, y2, y3⟩, f0, f1, f2, f3⟩ := four_of zz) | (go_at_call 28; refine (HT1 _ (by exact (Below.refl _ _).drew)).mono ?_; rintro e W2 ⟨rfl, b2⟩))
        all_goals first
          | (have zz' := zz; clear zz y0 y1 y2 y3 f0 f1 f2 f3 zz'; obtain ⟨v7, vz, kV, hne⟩ := seq_ii (p := .int .i64 0) (q := .int .i32 0) (r := .int .i64 0) (z := .int .i64 0) k1 z1 b2; generalize (((W2.setCell ⟨W1.heap.size, 0, none⟩ (.int .i64 0)).setCell ⟨W1.heap.size, 1, none⟩ (.int .i32 0)).setCell ⟨W1.heap.size, 2, none⟩ (.int .i64 0)).setCell ⟨W1.heap.size, 3, none⟩ (.int .i64 0) = V at *; generalize W1.heap.size = B7 at *)
          | (obtain ⟨v7, vz, kV, hne⟩ := seq_i (A := #[.int .i64 0, .int .i32 0, .int .i64 0, .int .i64 0]) k1 z1 b2; generalize W2.alloc (.cells #[.int .i64 0, .int .i32 0, .int .i64 0, .int .i64 0] 31) = V at *; generalize W2.heap.size = B7 at *)
        all_goals clear b1 b2
        all_goals go_wp2_with (refine wpList_store_row rfl 31 (.tmp 4) (.tmp 39) rfl (w.heap.size) #[.int .i64 5, .int .i32 0, .int .i64 0, .int .i64 0] rfl rfl _ _ vz (by kernel_rfl) rfl (one4 _ _ _ _) ?_)
        all_goals (try simp only [Exit.inBlock, Exit.then])
        all_goals refine bodyPost_ret (v := .tuple #[.agg #[.int .i64 5, .int .i32 0, .int .i64 0, .int .i64 0], .int .i64 1]) ?_ rfl ⟨rfl, below_setRow kV (Nat.le_refl _) _⟩
        all_goals exact results_key_tmp rfl _ _ w.heap.size _ _ _ _ rfl (setRow_heap _ _ _ _ _ _ vz) Tryd.underlying31 rfl (by kernel_rfl) _ rfl
    | some k =>
      have e : res = (k, en + 1) := HR.out.symm
      subst e
      clear HR htr
      obtain ⟨kd, rr, nn, hh⟩ := k
      simp only [kOr, Option.isSome_some, kyv] at HT ⊢
      by_cases hx91 : x = 91
      · rw [decide_eq_true hx91] at jx
        generalize aheadF 10 (s.data.toList.drop 2) = a at *
        have ea : en = 2 + a := by have := HEN.out; rw [if_pos hx91] at this; omega
        subst ea
        have ca : ((2 + a : Nat) : Int) = 2 + (a : Int) := by omega
        rw [ca] at i1 i2 i3 i4 hw1
        have hto : (2 + (a : Int)).toNat = 2 + a := by omega
        clear HEN he hle hx91 hsz ca
        go_enter Tryd.func14, Tryd.ntmps14
        go_wp2_with (go_at_call 27; refine (HNA _).mono ?_; rintro e W1 ⟨rfl, b1⟩; have z1 := held_block b1; have k1 := kb.trans (b1.mono kb.size))
        clear HNA
        have HT1 := fun W (h : Below W1.heap.size W1 W) => HT W (b1.trans (h.mono b1.size))
        clear HT
        go_region_with (first | (go_at_call 28; refine (HT1 _ (by exact ((Below.refl _ _).alloc (Nat.le_refl _) (.cells #[.int .i64 0, .int .i32 0, .int .i64 0, .int .i64 0] 31)).drew)).mono ?_; rintro e W2 ⟨rfl, b2⟩; have zz := held_drew b2; obtain ⟨⟨y0, y1, y2, y3⟩, f0, f1, f2, f3⟩ := four_of zz) | (go_at_call 28; refine (HT1 _ (by exact (Below.refl _ _).drew)).mono ?_; rintro e W2 ⟨rfl, b2⟩))
        all_goals first
          | (have zz' := zz; clear zz y0 y1 y2 y3 f0 f1 f2 f3 zz'; obtain ⟨v7, vz, kV, hne⟩ := seq_ii (p := .int .i64 kd) (q := .int .i32 rr) (r := .int .i64 nn) (z := .int .i64 hh) k1 z1 b2; generalize (((W2.setCell ⟨W1.heap.size, 0, none⟩ (.int .i64 kd)).setCell ⟨W1.heap.size, 1, none⟩ (.int .i32 rr)).setCell ⟨W1.heap.size, 2, none⟩ (.int .i64 nn)).setCell ⟨W1.heap.size, 3, none⟩ (.int .i64 hh) = V at *; generalize W1.heap.size = B7 at *)
          | (obtain ⟨v7, vz, kV, hne⟩ := seq_i (A := #[.int .i64 kd, .int .i32 rr, .int .i64 nn, .int .i64 hh]) k1 z1 b2; generalize W2.alloc (.cells #[.int .i64 kd, .int .i32 rr, .int .i64 nn, .int .i64 hh] 31) = V at *; generalize W2.heap.size = B7 at *)
        all_goals clear b1 b2
        all_goals go_wp2_with (first | (refine wpList_load_row rfl 31 (.tmp 7) rfl B7 rfl _ _ _ _ v7 Tryd.underlying31 rfl (by kernel_rfl) ?_) | (refine wpList_store_row rfl 31 (.tmp 4) (.tmp 40) rfl (w.heap.size) #[.int .i64 kd, .int .i32 rr, .int .i64 nn, .int .i64 hh] rfl rfl _ _ vz (by kernel_rfl) rfl (one4 _ _ _ _) ?_))
        all_goals (try simp only [Exit.inBlock, Exit.then])
        all_goals refine bodyPost_ret (v := .tuple #[.agg #[.int .i64 kd, .int .i32 rr, .int .i64 nn, .int .i64 hh], .int .i64 (2 + (a : Int) + 1)]) ?_ rfl ⟨rfl, below_setRow kV (Nat.le_refl _) _⟩
        all_goals exact results_key_tmp rfl _ _ w.heap.size _ _ _ _ rfl (setRow_heap _ _ _ _ _ _ vz) Tryd.underlying31 rfl (by kernel_rfl) _ rfl
      · rw [decide_eq_false hx91] at jx
        have ea : en = 2 := by have := HEN.out; rw [if_neg hx91] at this; exact this.symm
        subst ea
        clear HEN he hle hx91 hsz HNA
        obtain ⟨W1, hW1⟩ : ∃ W1, w.alloc (.cells #[.int .i64 0, .int .i32 0, .int .i64 0, .int .i64 0] 31) = W1 := ⟨_, rfl⟩
        have HW1 : Hid (w.alloc (.cells #[.int .i64 0, .int .i32 0, .int .i64 0, .int .i64 0] 31) = W1) := hW1
        rw [hW1] at kb Z HT
        have k1 := kb
        have z1 := Z
        have b1 : True := trivial
        have HT1 := HT
        rw [show s.extract 2 2 = ByteArray.empty by simp] at HT1
        clear hW1 HT
        go_enter Tryd.func14, Tryd.ntmps14
        go_wp2_with fail
        rw [HW1.out]
        go_region_with (first | (go_at_call 28; refine (HT1 _ (by exact ((Below.refl _ _).alloc (Nat.le_refl _) (.cells #[.int .i64 0, .int .i32 0, .int .i64 0, .int .i64 0] 31)).drew)).mono ?_; rintro e W2 ⟨rfl, b2⟩; have zz := held_drew b2; obtain ⟨⟨y0, y1, y2, y3⟩, f0, f1, f2, f3⟩ := four_of zz) | (go_at_call 28; refine (HT1 _ (by exact (Below.refl _ _).drew)).mono ?_; rintro e W2 ⟨rfl, b2⟩))
        all_goals first
          | (have zz' := zz; clear zz y0 y1 y2 y3 f0 f1 f2 f3 zz'; obtain ⟨v7, vz, kV, hne⟩ := seq_ii (p := .int .i64 kd) (q := .int .i32 rr) (r := .int .i64 nn) (z := .int .i64 hh) k1 z1 b2; generalize (((W2.setCell ⟨W1.heap.size, 0, none⟩ (.int .i64 kd)).setCell ⟨W1.heap.size, 1, none⟩ (.int .i32 rr)).setCell ⟨W1.heap.size, 2, none⟩ (.int .i64 nn)).setCell ⟨W1.heap.size, 3, none⟩ (.int .i64 hh) = V at *; generalize W1.heap.size = B7 at *)
          | (obtain ⟨v7, vz, kV, hne⟩ := seq_i (A := #[.int .i64 kd, .int .i32 rr, .int .i64 nn, .int .i64 hh]) k1 z1 b2; generalize W2.alloc (.cells #[.int .i64 kd, .int .i32 rr, .int .i64 nn, .int .i64 hh] 31) = V at *; generalize W2.heap.size = B7 at *)
        all_goals clear b1 b2
        all_goals go_wp2_with (first | (refine wpList_load_row rfl 31 (.tmp 7) rfl B7 rfl _ _ _ _ v7 Tryd.underlying31 rfl (by kernel_rfl) ?_) | (refine wpList_store_row rfl 31 (.tmp 4) (.tmp 40) rfl (w.heap.size) #[.int .i64 kd, .int .i32 rr, .int .i64 nn, .int .i64 hh] rfl rfl _ _ vz (by kernel_rfl) rfl (one4 _ _ _ _) ?_))
        all_goals (try simp only [Exit.inBlock, Exit.then])
        all_goals refine bodyPost_ret (v := .tuple #[.agg #[.int .i64 kd, .int .i32 rr, .int .i64 nn, .int .i64 hh], .int .i64 3]) ?_ rfl ⟨rfl, below_setRow kV (Nat.le_refl _) _⟩
        all_goals exact results_key_tmp rfl _ _ w.heap.size _ _ _ _ rfl (setRow_heap _ _ _ _ _ _ vz) Tryd.underlying31 rfl (by kernel_rfl) _ rfl
end Kys
end Go.Proofs.YtplceodnllcimaaDoor

/- Package keys: the first key of bytes. -/
namespace Go.Proofs.YtplceodnllcimaaDoor
open Go.ChangeShapes Go.WideShapes Go.ChangeAt Go.RowKit
namespace Kys
open Txt (wd bs dec)
/-- What the readers need of a world. -/
structure Env (w : World) : Prop where
  tab : Txt.Tab w
  u8 : Txt.U8 w
  errs : Errs w
  num : NumTab w
theorem Env.below {w w' : World} (h : Env w) (hb : Below w.heap.size w w') : Env w' := ⟨h.tab.below hb h.tab.pos, h.u8.below hb, h.errs.below hb, h.num.below hb⟩
theorem plain_held (l : List UInt8) (last : Bool) : (plainL l last).1.held = 0 ∨ (plainL l last).1.held = 4 := by
  unfold plainL ctl zk
  repeat' split
  all_goals simp
theorem or_two (h : Int) (hh : h = 0 ∨ h = 4) : bits BinOp.or IntKind.i64 h 2 = alt h := by
  rcases hh with rfl | rfl <;> decide +kernel
theorem ext_one (s : ByteArray) : (s.extract 1 s.size).data.toList = s.data.toList.drop 1 := by
  rw [toL_extract, List.take_of_length_le (by rw [Array.length_toList]; exact Nat.le_refl _)]
theorem u8_beq (x c : UInt8) : (((x.toNat : Int) == (c.toNat : Int)) = decide (x = c)) := by
  by_cases h : x = c
  · subst h; simp
  · rw [decide_eq_false h, beq_eq_false_iff_ne]
    intro h'
    exact h (UInt8.toNat_inj.1 (by omega))
set_option maxHeartbeats 4000000 in
theorem first_any (s : ByteArray) (last : Bool) (hs : s.size ≤ 1048576) (h1 : s.size ≠ 0) (w : World) (hE : Env w) : Calls Tryd.prog 8 #[.string s, .bool last] w fun e w' => e = .returned (.tuple #[kyv (firstL s.data.toList last).1, .int .i64 ((firstL s.data.toList last).2 : Nat)]) ∧ Below w.heap.size w w' := by
  have kb := kb_z w
  have Z := hz w
  have E1 := hE.below kb
  have hsz : s.data.toList.length = s.size := Array.length_toList
  have h0l : 0 < s.size := by omega
  obtain ⟨x, hx⟩ : ∃ x, s[0]'h0l = x := ⟨_, rfl⟩
  have hg0 : s.data.toList.getD 0 0 = x := by rw [get_zero s 0 h0l]; exact hx
  have i0 : (0 : Int) < (s.size : Int) := by omega
  obtain ⟨res, hres⟩ : ∃ res, firstL s.data.toList last = res := ⟨_, rfl⟩
  have HR : Hid (firstL s.data.toList last = res) := hres
  unfold firstL at HR
  rw [hg0, hsz] at HR
  rw [hres]
  clear hres hg0 hE
  have jx := u8_beq x 27
  rw [show (((27 : UInt8).toNat : Nat) : Int) = 27 from rfl] at jx
  by_cases c0 : x = 27
  · have e0 := HR.out
    rw [if_neg (by simp [c0])] at e0
    rw [decide_eq_true c0] at jx
    have jn : ((x.toNat : Int) != 27) = false := by rw [bne, jx]; rfl
    clear HR c0
    by_cases c1 : s.size = 1
    · rw [if_pos c1] at e0
      have HU := fun W => unended_any last W
      rw [e0] at HU
      obtain ⟨⟨kd, rr, nn, hh⟩, zz⟩ := res
      unfold kyv at HU ⊢
      simp only at HU ⊢
      have i1 : ((s.size : Int) == 1) = true := by rw [beq_iff_eq]; omega
      clear e0 hsz c1 E1
      go_enter Tryd.func8, Tryd.ntmps8
      go_wp2_with (first | (go_at_call 13; refine (HU _).mono ?_; rintro e W2 ⟨rfl, b2⟩; have z2 := held_block b2; replace kb := kb.trans (b2.mono kb.size)) | (refine wpList_store_row rfl 31 (.tmp 4) (.tmp 23) rfl (w.heap.size) #[.int .i64 kd, .int .i32 rr, .int .i64 nn, .int .i64 hh] rfl rfl _ _ z2 (by kernel_rfl) rfl (one4 _ _ _ _) ?_))
      (try simp only [Exit.inBlock, Exit.then])
      refine bodyPost_ret (v := .tuple #[.agg #[.int .i64 kd, .int .i32 rr, .int .i64 nn, .int .i64 hh], .int .i64 zz]) ?_ rfl ⟨rfl, below_setRow kb (Nat.le_refl _) _⟩
      exact results_key_tmp rfl _ _ w.heap.size _ _ _ _ rfl (setRow_heap _ _ _ _ _ _ z2) Tryd.underlying31 rfl (by kernel_rfl) _ rfl
    · rw [if_neg c1] at e0
      have i1 : ((s.size : Int) == 1) = false := by rw [beq_eq_false_iff_ne]; omega
      have h1l : 1 < s.size := by omega
      have i2 : (1 : Int) < (s.size : Int) := by omega
      have i3 : (1 : Int) ≤ (s.size : Int) := by omega
      obtain ⟨y, hy⟩ : ∃ y, s[1]'h1l = y := ⟨_, rfl⟩
      have hg1 : s.data.toList.getD 1 0 = y := by rw [get_zero s 1 h1l]; exact hy
      rw [hg1] at e0
      clear hg1
      have j91 := u8_beq y 91
      have j79 := u8_beq y 79
      have j27 := u8_beq y 27
      have j9 := u8_beq y 9
      rw [show (((91 : UInt8).toNat : Nat) : Int) = 91 from rfl] at j91
      rw [show (((79 : UInt8).toNat : Nat) : Int) = 79 from rfl] at j79
      rw [show (((27 : UInt8).toNat : Nat) : Int) = 27 from rfl] at j27
      rw [show (((9 : UInt8).toNat : Nat) : Int) = 9 from rfl] at j9
      by_cases c2 : y = 91 ∨ y = 79
      · rw [if_pos c2] at e0
        have HU := sequence_any s last hs (by omega) _ E1.errs E1.num
        rw [e0] at HU
        obtain ⟨⟨kd, rr, nn, hh⟩, zz⟩ := res
        unfold kyv at HU ⊢
        simp only at HU ⊢
        clear e0 hsz c1 E1 j27 j9
        by_cases c3 : y = 91
        · rw [decide_eq_true c3] at j91
          clear c2 c3 j79
          go_enter Tryd.func8, Tryd.ntmps8
          go_wp2_with (first | (go_at_call 14; refine HU.mono ?_; rintro e W2 ⟨rfl, b2⟩; have z2 := held_block b2; replace kb := kb.trans (b2.mono kb.size)) | (refine wpList_store_row rfl 31 (.tmp 4) (.tmp 37) rfl (w.heap.size) #[.int .i64 kd, .int .i32 rr, .int .i64 nn, .int .i64 hh] rfl rfl _ _ z2 (by kernel_rfl) rfl (one4 _ _ _ _) ?_))
          (try simp only [Exit.inBlock, Exit.then])
          refine bodyPost_ret (v := .tuple #[.agg #[.int .i64 kd, .int .i32 rr, .int .i64 nn, .int .i64 hh], .int .i64 zz]) ?_ rfl ⟨rfl, below_setRow kb (Nat.le_refl _) _⟩
          exact results_key_tmp rfl _ _ w.heap.size _ _ _ _ rfl (setRow_heap _ _ _ _ _ _ z2) Tryd.underlying31 rfl (by kernel_rfl) _ rfl
        · rw [decide_eq_false c3] at j91
          rw [decide_eq_true (c2.resolve_left c3)] at j79
          clear c2 c3
          go_enter Tryd.func8, Tryd.ntmps8
          go_wp2_with (first | (go_at_call 14; refine HU.mono ?_; rintro e W2 ⟨rfl, b2⟩; have z2 := held_block b2; replace kb := kb.trans (b2.mono kb.size)) | (refine wpList_store_row rfl 31 (.tmp 4) (.tmp 37) rfl (w.heap.size) #[.int .i64 kd, .int .i32 rr, .int .i64 nn, .int .i64 hh] rfl rfl _ _ z2 (by kernel_rfl) rfl (one4 _ _ _ _) ?_))
          (try simp only [Exit.inBlock, Exit.then])
          refine bodyPost_ret (v := .tuple #[.agg #[.int .i64 kd, .int .i32 rr, .int .i64 nn, .int .i64 hh], .int .i64 zz]) ?_ rfl ⟨rfl, below_setRow kb (Nat.le_refl _) _⟩
          exact results_key_tmp rfl _ _ w.heap.size _ _ _ _ rfl (setRow_heap _ _ _ _ _ _ z2) Tryd.underlying31 rfl (by kernel_rfl) _ rfl
      · rw [if_neg c2] at e0
        rw [decide_eq_false (fun h => c2 (Or.inl h))] at j91
        rw [decide_eq_false (fun h => c2 (Or.inr h))] at j79
        clear c2
        by_cases c4 : y = 27 ∨ y = 9
        · rw [if_pos c4] at e0
          subst e0
          clear hsz c1 E1
          by_cases c5 : y = 27
          · rw [decide_eq_true c5] at j27
            clear c4 c5 j9
            go_enter Tryd.func8, Tryd.ntmps8
            go_wp2_with (refine wpList_store_row rfl 31 (.tmp 4) (.tmp 48) rfl (w.heap.size) #[.int .i64 5, .int .i32 0, .int .i64 0, .int .i64 0] rfl rfl _ _ Z (by kernel_rfl) rfl (one4 _ _ _ _) ?_)
            (try simp only [Exit.inBlock, Exit.then])
            refine bodyPost_ret (v := .tuple #[.agg #[.int .i64 5, .int .i32 0, .int .i64 0, .int .i64 0], .int .i64 1]) ?_ rfl ⟨rfl, below_setRow kb (Nat.le_refl _) _⟩
            exact results_key_tmp rfl _ _ w.heap.size _ _ _ _ rfl (setRow_heap _ _ _ _ _ _ Z) Tryd.underlying31 rfl (by kernel_rfl) _ rfl
          · rw [decide_eq_false c5] at j27
            rw [decide_eq_true (c4.resolve_left c5)] at j9
            clear c4 c5
            go_enter Tryd.func8, Tryd.ntmps8
            go_wp2_with (refine wpList_store_row rfl 31 (.tmp 4) (.tmp 48) rfl (w.heap.size) #[.int .i64 5, .int .i32 0, .int .i64 0, .int .i64 0] rfl rfl _ _ Z (by kernel_rfl) rfl (one4 _ _ _ _) ?_)
            (try simp only [Exit.inBlock, Exit.then])
            refine bodyPost_ret (v := .tuple #[.agg #[.int .i64 5, .int .i32 0, .int .i64 0, .int .i64 0], .int .i64 1]) ?_ rfl ⟨rfl, below_setRow kb (Nat.le_refl _) _⟩
            exact results_key_tmp rfl _ _ w.heap.size _ _ _ _ rfl (setRow_heap _ _ _ _ _ _ Z) Tryd.underlying31 rfl (by kernel_rfl) _ rfl
        · rw [if_neg c4] at e0
          rw [decide_eq_false (fun h => c4 (Or.inl h))] at j27
          rw [decide_eq_false (fun h => c4 (Or.inr h))] at j9
          clear c4
          have HP := plain_any (s.extract 1 s.size) last _ E1.tab E1.u8 (by rw [ByteArray.size_extract]; omega)
          rw [ext_one] at HP
          have hho := plain_held (s.data.toList.drop 1) last
          have hpl := plain_le (s.data.toList.drop 1) last (by intro h; have := congrArg List.length h; rw [List.length_drop, hsz] at this; simp at this; omega)
          rw [List.length_drop, hsz] at hpl
          obtain ⟨pp, hpp⟩ : ∃ pp, plainL (s.data.toList.drop 1) last = pp := ⟨_, rfl⟩
          rw [hpp] at HP e0 hho hpl
          clear hpp E1
          obtain ⟨⟨kd, rr, nn, hh⟩, z⟩ := pp
          simp only at e0 hho hpl
          unfold kyv at HP
          simp only at HP
          by_cases c5 : z = 0
          · rw [if_pos c5] at e0
            subst e0
            subst c5
            clear hho hpl hsz c1
            go_enter Tryd.func8, Tryd.ntmps8
            go_wp2_with (first | (go_at_call 12; refine HP.mono ?_; rintro e W2 ⟨rfl, b2⟩; have z2 := held_block b2; replace kb := kb.trans (b2.mono kb.size); have z3 := by_block z2 ((Below.refl _ _).alloc (Nat.le_refl _) (.cells #[.int .i64 kd, .int .i32 rr, .int .i64 nn, .int .i64 hh] 31)); have k3 := kb.alloc kb.size (.cells #[.int .i64 kd, .int .i32 rr, .int .i64 nn, .int .i64 hh] 31)) | (refine wpList_store_row rfl 31 (.tmp 4) (.tmp 58) rfl (w.heap.size) #[.int .i64 0, .int .i32 0, .int .i64 0, .int .i64 0] rfl rfl _ _ z3 (by kernel_rfl) rfl (one4 _ _ _ _) ?_))
            (try simp only [Exit.inBlock, Exit.then])
            refine bodyPost_ret (v := .tuple #[.agg #[.int .i64 0, .int .i32 0, .int .i64 0, .int .i64 0], .int .i64 0]) ?_ rfl ⟨rfl, below_setRow k3 (Nat.le_refl _) _⟩
            exact results_key_tmp rfl _ _ w.heap.size _ _ _ _ rfl (setRow_heap _ _ _ _ _ _ z3) Tryd.underlying31 rfl (by kernel_rfl) _ rfl
          · rw [if_neg c5] at e0
            subst e0
            have ho := or_two hh hho
            have iz : ((z : Int) == 0) = false := by rw [beq_eq_false_iff_ne]; omega
            have hw : wrap64 (1 + (z : Int)) = 1 + (z : Int) := by unfold wrap64; omega
            have hc : ((1 + z : Nat) : Int) = 1 + (z : Int) := by omega
            have HHO : Hid (hh = 0 ∨ hh = 4) := hho
            clear hho hsz c1
            unfold kyv
            simp only
            rw [hc]
            clear hc
            go_enter Tryd.func8, Tryd.ntmps8
            go_wp2_with (first | (go_at_call 12; refine HP.mono ?_; rintro e W2 ⟨rfl, b2⟩; have z2 := held_block b2; replace kb := kb.trans (b2.mono kb.size); have z3 := by_block z2 ((Below.refl _ _).alloc (Nat.le_refl _) (.cells #[.int .i64 kd, .int .i32 rr, .int .i64 nn, .int .i64 (alt hh)] 31)); have k3 := kb.alloc kb.size (.cells #[.int .i64 kd, .int .i32 rr, .int .i64 nn, .int .i64 (alt hh)] 31)) | (refine wpList_store_row rfl 31 (.tmp 4) (.tmp 63) rfl (w.heap.size) #[.int .i64 kd, .int .i32 rr, .int .i64 nn, .int .i64 (alt hh)] rfl rfl _ _ z3 (by kernel_rfl) rfl (one4 _ _ _ _) ?_))
            (try simp only [Exit.inBlock, Exit.then])
            refine bodyPost_ret (v := .tuple #[.agg #[.int .i64 kd, .int .i32 rr, .int .i64 nn, .int .i64 (alt hh)], .int .i64 (1 + (z : Int))]) ?_ rfl ⟨rfl, below_setRow k3 (Nat.le_refl _) _⟩
            exact results_key_tmp rfl _ _ w.heap.size _ _ _ _ rfl (setRow_heap _ _ _ _ _ _ z3) Tryd.underlying31 rfl (by kernel_rfl) _ rfl
  · have e0 := HR.out
    rw [if_pos c0] at e0
    rw [decide_eq_false c0] at jx
    have jn : ((x.toNat : Int) != 27) = true := by rw [bne, jx]; rfl
    have HU := plain_any s last _ E1.tab E1.u8 h1
    rw [e0] at HU
    clear HR c0 e0 E1 hsz
    obtain ⟨⟨kd, rr, nn, hh⟩, zz⟩ := res
    unfold kyv at HU ⊢
    simp only at HU ⊢
    go_enter Tryd.func8, Tryd.ntmps8
    go_wp2_with (first | (go_at_call 12; refine HU.mono ?_; rintro e W2 ⟨rfl, b2⟩; have z2 := held_block b2; replace kb := kb.trans (b2.mono kb.size)) | (refine wpList_store_row rfl 31 (.tmp 4) (.tmp 15) rfl (w.heap.size) #[.int .i64 kd, .int .i32 rr, .int .i64 nn, .int .i64 hh] rfl rfl _ _ z2 (by kernel_rfl) rfl (one4 _ _ _ _) ?_))
    (try simp only [Exit.inBlock, Exit.then])
    refine bodyPost_ret (v := .tuple #[.agg #[.int .i64 kd, .int .i32 rr, .int .i64 nn, .int .i64 hh], .int .i64 zz]) ?_ rfl ⟨rfl, below_setRow kb (Nat.le_refl _) _⟩
    exact results_key_tmp rfl _ _ w.heap.size _ _ _ _ rfl (setRow_heap _ _ _ _ _ _ z2) Tryd.underlying31 rfl (by kernel_rfl) _ rfl
end Kys
end Go.Proofs.YtplceodnllcimaaDoor

/- What the rows list: the tables of package keys and the library's errors. -/
namespace Go.Proofs.YtplceodnllcimaaDoor
open Go.ChangeShapes Go.WideShapes Go.ChangeAt Go.RowKit
namespace Kys
/-- The cells of a row of numbers. -/
def cells1 (d : DataW Unit) : Array Value := match d with
  | .agg l => (l.map fun x => match x with
    | .lit (.int k z) => Value.int k z
    | _ => undef).toArray
  | _ => #[]
theorem und_err : Tryd.prog.underlying 67 = some (.interface (match Tryd.prog.underlying 67 with | some (.interface ms) => ms | _ => #[])) := by kernel_rfl
theorem var_cells {w : World} {n : String} {g : Nat} {cs : Array Value} (hg : Tryd.prog.globalNamed n = some g) (hvar : w.var? Tryd.prog n = some cs) : ∃ t fr, w.heap[g]? = some (.cells cs t fr) := by
  unfold World.var? at hvar
  rw [hg] at hvar
  simp only [Option.bind_some] at hvar
  split at hvar
  · rename_i c tt fr hh
    obtain rfl := Option.some.inj hvar
    exact ⟨tt, fr, hh⟩
  · cases hvar
theorem err_of_reads {w : World} {n : String} {g : Nat} {nm : String} {d : DataW Unit} (hn : Tryd.prog.globalNamed n = some g) (hy : (Tryd.prog.globals[g]?).map (fun x => x.type) = some 67) (h : Lib.VarReads Tryd.prog w n (.iface nm d)) : ErrAt w g := by
  obtain ⟨g', t, cs, fuel, p, hg, hty, hvar, hd⟩ := h
  obtain rfl := Option.some.inj (hn.symm.trans hg)
  obtain rfl := Option.some.inj (hy.symm.trans hty)
  obtain ⟨f1, u, v, hcs, _, _⟩ := iface_of_trod und_err hd
  obtain ⟨t, fr, hh⟩ := var_cells hn hvar
  refine ⟨.iface u v, ?_, .inr ⟨u, v, rfl⟩⟩
  unfold World.cell?
  rw [hh]
  have : cs = #[.iface u v] := Array.toList_inj.1 hcs
  rw [this]
  rfl
theorem slices4 : ∀ (l : List (Int × Int)) (cs : List Value), cs.length = 4 * l.length → (∀ i x, l[i]? = some x → (cs.drop (i * 4)).take 4 = cell4 x) → cs = l.flatMap cell4
  | [], cs, hl, _ => by simpa using hl
  | x :: t, cs, hl, h => by
    have h0 := h 0 x rfl
    have ht := slices4 t (cs.drop 4) (by simp only [List.length_drop, List.length_cons] at hl ⊢; omega) (fun i y hy => by
      have := h (i + 1) y (by simpa using hy)
      rw [List.drop_drop]
      rwa [show 4 + i * 4 = (i + 1) * 4 from by omega])
    simp only [Nat.zero_mul, List.drop_zero] at h0
    rw [List.flatMap_cons, ← ht, ← h0, List.take_append_drop]
theorem trod_struct4 {H : Type} {enc : TypeId × Value → H} {W : World} {P : Program} {base : Nat} {spare : Nat → Bool} {held : Bool} {t : TypeId} {f0 f1 f2 f3 : Field} {fuel : Nat} {cs : List Value} {x : DataW H × List MemPlace} (ht : P.underlying t = some (.struct #[f0, f1, f2, f3])) (h : DataW.trod enc P W base spare held fuel t cs = some x) :
    ∃ y0 y1 y2 y3 n, x.1 = .agg [y0.1, y1.1, y2.1, y3.1] ∧ cs.length = P.cellsOf t ∧ DataW.trod enc P W base spare held n f0.type ((cs.drop f0.offset).take (P.cellsOf f0.type)) = some y0 ∧
      DataW.trod enc P W base spare held n f1.type ((cs.drop f1.offset).take (P.cellsOf f1.type)) = some y1 ∧
      DataW.trod enc P W base spare held n f2.type ((cs.drop f2.offset).take (P.cellsOf f2.type)) = some y2 ∧
      DataW.trod enc P W base spare held n f3.type ((cs.drop f3.offset).take (P.cellsOf f3.type)) = some y3 := by
  obtain ⟨xs, n, _, rfl, hl, hlen, hf⟩ := DataW.trod_struct ht h
  match xs, hlen with
  | [y0, y1, y2, y3], _ => exact ⟨y0, y1, y2, y3, n, by simp, hl, by simpa using hf 0 f0 rfl, by simpa using hf 1 f1 rfl, by simpa using hf 2 f2 rfl, by simpa using hf 3 f3 rfl⟩
theorem laid_num {H : Type} : (Rows.laid_trellis_keys_numbered : DataW H) = .agg (numT.map fun x => .agg [.lit (.int .i64 x.1), .lit (.int .i32 0), .lit (.int .i64 x.2), .lit (.int .i64 0)]) := rfl
theorem num_of_reads {w : World} (h : Lib.VarReads Tryd.prog w "trellis/keys.numbered" Rows.laid_trellis_keys_numbered) : NumTab w := by
  obtain ⟨g, t, cs, fuel, p, hg, hty, hvar, hd⟩ := h
  obtain rfl := Option.some.inj ((show Tryd.prog.globalNamed "trellis/keys.numbered" = some 3 by kernel_rfl).symm.trans hg)
  obtain rfl := Option.some.inj ((show (Tryd.prog.globals[3]?).map (fun x => x.type) = some 86 by kernel_rfl).symm.trans hty)
  have hlen : cs.toList.length = 100 := by
    obtain ⟨xs, m, _, _, hl, _, _⟩ := DataW.trod_array Tryd.underlying86 hd
    rw [hl]; kernel_rfl
  rw [laid_num] at hd
  have hcs : cs.toList = numT.flatMap cell4 := by
    refine slices4 numT cs.toList (by rw [hlen]; rfl) (fun i x hx => ?_)
    have hi : i < 25 := (List.getElem?_eq_some_iff.1 hx).1
    obtain ⟨fuel', d, q, hdi, he⟩ := Lib.array_elem Tryd.underlying86 hd i hi
    rw [List.getElem?_map, hx] at hdi
    obtain rfl := Option.some.inj hdi
    rw [show Tryd.prog.cellsOf 31 = 4 by kernel_rfl] at he
    obtain ⟨y0, y1, y2, y3, n, hy, hl, e0, e1, e2, e3⟩ := trod_struct4 Tryd.underlying31 he
    rw [show Tryd.prog.cellsOf 31 = 4 by kernel_rfl] at hl
    generalize (cs.toList.drop (i * 4)).take 4 = c4 at *
    simp only [DataW.agg.injEq, List.cons.injEq, and_true] at hy
    obtain ⟨g0, g1, g2, g3⟩ := hy
    simp only [show Tryd.prog.cellsOf 21 = 1 by kernel_rfl, show Tryd.prog.cellsOf 3 = 1 by kernel_rfl] at e0 e1 e2 e3
    obtain ⟨z0, k0, rfl, _⟩ := DataW.trod_int Tryd.underlying3 e0
    obtain ⟨z1, k1, rfl, _⟩ := DataW.trod_int Tryd.underlying21 e1
    obtain ⟨z2, k2, rfl, _⟩ := DataW.trod_int Tryd.underlying3 e2
    obtain ⟨z3, k3, rfl, _⟩ := DataW.trod_int Tryd.underlying3 e3
    match c4, hl with
    | [a, b, c, d], _ =>
      simp at k0 k1 k2 k3 g0 g1 g2 g3
      subst k0 k1 k2 k3 g0 g1 g2 g3
      rfl
  obtain ⟨tt, fr, hh⟩ := var_cells hg hvar
  have hc : cs = numCells := by unfold numCells; rw [← hcs]
  exact ⟨tt, fr, by rw [hh, hc]⟩
theorem errs_of {w : World} (h1 : Lib.VarReads Tryd.prog w "strconv.ErrSyntax" Rows.laid_strconv_ErrSyntax) (h2 : Lib.VarReads Tryd.prog w "strconv.ErrRange" Rows.laid_strconv_ErrRange) : Errs w :=
  ⟨err_of_reads (by kernel_rfl) (by kernel_rfl) h1, err_of_reads (by kernel_rfl) (by kernel_rfl) h2⟩
theorem env_of {w : World} (h1 : Lib.VarReads Tryd.prog w "strconv.ErrSyntax" Rows.laid_strconv_ErrSyntax) (h2 : Lib.VarReads Tryd.prog w "strconv.ErrRange" Rows.laid_strconv_ErrRange) (h3 : Lib.VarReads Tryd.prog w "trellis/text.spans" Rows.laid_trellis_text_spans) (h4 : Lib.VarReads Tryd.prog w "trellis/keys.numbered" Rows.laid_trellis_keys_numbered) (h5 : Lib.VarReads Tryd.prog w "unicode/utf8.first" Rows.laid_unicode_utf8_first) (h6 : Lib.VarReads Tryd.prog w "unicode/utf8.acceptRanges" Rows.laid_unicode_utf8_acceptRanges) : Env w := by
  rw [← Txt.first_eq] at h5
  rw [← Txt.accept_eq] at h6
  exact ⟨Txt.tab_of_reads h3, utf8Tabs_of_reads Tryd.lays260 Txt.u8x h5 h6, errs_of h1 h2, num_of_reads h4⟩
end Kys
end Go.Proofs.YtplceodnllcimaaDoor

/- Plain mathematics: keys, as the reference tells them: a table of sequences. -/
namespace Go.Proofs.YtplceodnllcimaaDoor
namespace Kys
open Txt (dec wd okRune)
/-- All keys that are told by a sequence, in the order in which they are stored. -/
def seqT : List (Ky × List UInt8) :=
  [(⟨6, 0, 0, 0⟩, [65]), (⟨7, 0, 0, 0⟩, [66]), (⟨8, 0, 0, 0⟩, [67]), (⟨9, 0, 0, 0⟩, [68]), (⟨11, 0, 0, 0⟩, [70]), (⟨10, 0, 0, 0⟩, [72]),
   (⟨14, 0, 0, 0⟩, [51, 126]), (⟨12, 0, 0, 0⟩, [53, 126]), (⟨13, 0, 0, 0⟩, [54, 126]),
   (⟨15, 0, 1, 0⟩, [49, 49, 126]), (⟨15, 0, 2, 0⟩, [49, 50, 126]), (⟨15, 0, 3, 0⟩, [49, 51, 126]), (⟨15, 0, 4, 0⟩, [49, 52, 126]), (⟨15, 0, 5, 0⟩, [49, 53, 126]),
   (⟨15, 0, 6, 0⟩, [49, 55, 126]), (⟨15, 0, 7, 0⟩, [49, 56, 126]), (⟨15, 0, 8, 0⟩, [49, 57, 126]), (⟨15, 0, 9, 0⟩, [50, 48, 126]), (⟨15, 0, 10, 0⟩, [50, 49, 126]),
   (⟨15, 0, 11, 0⟩, [50, 51, 126]), (⟨15, 0, 12, 0⟩, [50, 52, 126])]
def lookS (l : List (Ky × List UInt8)) (k : Ky) : List UInt8 := l.foldl (fun c p => if k = p.1 then p.2 else c) []
/-- What a key without what is held is told by; nothing of others. -/
def sq (k : Ky) : List UInt8 := lookS seqT { k with held := 0 }
def isSq (k : Ky) : Prop := k.r = 0 ∧ (k.n = 0 ∧ 6 ≤ k.kind ∧ k.kind ≤ 14 ∨ k.kind = 15 ∧ 1 ≤ k.n ∧ k.n ≤ 12)
instance (k : Ky) : Decidable (isSq k) := by unfold isSq; infer_instance
theorem look_miss : ∀ (l : List (Ky × List UInt8)) (k : Ky) (c : List UInt8), (∀ p ∈ l, k ≠ p.1) → l.foldl (fun c p => if k = p.1 then p.2 else c) c = c
  | [], _, _, _ => rfl
  | p :: l, k, c, h => by
    rw [List.foldl_cons, if_neg (h p (by simp))]
    exact look_miss l k c (fun q hq => h q (by simp [hq]))
def sqKeys : List (Int × Int) := ((List.range 9).map fun i : Nat => (6 + (i : Int), 0)) ++ ((List.range 12).map fun i : Nat => (15, 1 + (i : Int)))
theorem isSq_mem (k : Ky) (h : isSq k) : (k.kind, k.n) ∈ sqKeys ∧ k.r = 0 := by
  obtain ⟨kind, r, n, held⟩ := k
  obtain ⟨hr, h⟩ := h
  simp only at hr h ⊢
  refine ⟨?_, hr⟩
  unfold sqKeys
  rw [List.mem_append]
  rcases h with ⟨hn, h1, h2⟩ | ⟨hk, h1, h2⟩
  · refine .inl (List.mem_map.2 ⟨(kind - 6).toNat, List.mem_range.2 (by omega), ?_⟩)
    subst hn
    exact congrArg (fun z => (z, (0 : Int))) (by omega)
  · refine .inr (List.mem_map.2 ⟨(n - 1).toNat, List.mem_range.2 (by omega), ?_⟩)
    subst hk
    exact congrArg (fun z => ((15 : Int), z)) (by omega)
theorem sq_no (k : Ky) (h : ¬ isSq k) : sq k = [] := by
  unfold sq lookS
  refine look_miss _ _ _ fun p hp e => h ?_
  obtain ⟨kind, r, n, held⟩ := k
  have : ∀ p ∈ seqT, isSq p.1 := by decide +kernel
  have := this p hp
  rw [← e] at this
  exact this
theorem sq_yes : ∀ p ∈ sqKeys, sq ⟨p.1, 0, p.2, 0⟩ = (if p.1 ≤ 11 then [letB p.1] else digB (numOf p.1 p.2) ++ [126]) := by decide +kernel
theorem sq_held (k : Ky) (h : Int) : sq { k with held := h } = sq k := rfl
theorem sq_is (k : Ky) (h : isSq k) : sq k = (if k.kind ≤ 11 then [letB k.kind] else digB (numOf k.kind k.n) ++ [126]) := by
  obtain ⟨h1, h2⟩ := isSq_mem k h
  obtain ⟨kind, r, n, held⟩ := k
  simp only at h1 h2 ⊢
  subst h2
  exact sq_yes (kind, n) h1
theorem sq_ne (k : Ky) (h : isSq k) : sq k ≠ [] := by
  rw [sq_is k h]
  split
  · simp
  · simp
/-- Whether a key can be told, as the reference has it. -/
theorem chk_sq (k : Ky) (h : isSq k) (h0 : 0 ≤ k.held) (h7 : k.held ≤ 7) : chk k = true := by
  obtain ⟨kind, r, n, held⟩ := k
  obtain ⟨hr, h⟩ := h
  simp only at hr h h0 h7
  unfold chk
  simp only
  rw [if_neg (by omega), if_neg (by omega), if_neg (by omega), if_neg (by omega), if_neg (by omega)]
  split
  · exact decide_eq_true (by omega)
  · exact decide_eq_true (by omega)
theorem chk_out (k : Ky) (h : k.held < 0 ∨ 7 < k.held) : chk k = false := by
  unfold chk
  rw [if_pos (by omega)]
theorem chk_no1 (k : Ky) (h : ¬ isSq k) (h1 : k.n ≠ 0 ∨ k.kind ≠ 1 ∧ k.r ≠ 0) : chk k = false := by
  obtain ⟨kind, r, n, held⟩ := k
  unfold isSq at h
  unfold chk
  simp only at h h1 ⊢
  split
  · rfl
  · rw [if_neg (by omega), if_neg (by omega), if_neg (by omega), if_neg (by omega)]
    split
    · exact decide_eq_false (by omega)
    · exact decide_eq_false (by omega)
theorem chk_else (k : Ky) (h : ¬ isSq k) (h1 : k.n = 0) (h2 : k.kind = 1 ∨ k.r = 0) (h0 : 0 ≤ k.held) (h7 : k.held ≤ 7) (hk : ¬ (1 ≤ k.kind ∧ k.kind ≤ 5)) : chk k = false := by
  obtain ⟨kind, r, n, held⟩ := k
  unfold isSq at h
  unfold chk
  simp only at *
  rw [if_neg (by omega), if_neg (by omega), if_neg (by omega), if_neg (by omega), if_neg (by omega)]
  split
  · exact decide_eq_false (by omega)
  · exact decide_eq_false (by omega)
end Kys
end Go.Proofs.YtplceodnllcimaaDoor

/- The reference's table of sequences: a map by keys, made by stores. -/
namespace Go.Proofs.YtplceodnllcimaaDoor
open Go.ChangeShapes Go.WideShapes Go.ChangeAt Go.RowKit Go.Maps
namespace Kys
open Txt (wd bs)
theorem ky_out : laidOutB Tryd.prog = true := by kernel_rfl
theorem ky_row : (31 : TypeId) < Tryd.prog.types.size := of_decide_eq_true (by kernel_rfl)
set_option maxRecDepth 100000 in
theorem ky_law : Keyed Tryd.prog 31 := Keyed.of_law (deep_law_laid ky_out (m := 3) (by omega) ky_row (by kernel_rfl) (by kernel_rfl))
theorem ky_cells : Tryd.prog.cellsOf 31 = 4 := by kernel_rfl
theorem ky_c3 : Tryd.prog.cellsOf 3 = 1 := by kernel_rfl
theorem ky_c21 : Tryd.prog.cellsOf 21 = 1 := by kernel_rfl
theorem ky_type : Tryd.prog.keyType 31 = true := by kernel_rfl
theorem ky_int : Tryd.prog.underlying 3 = some (.int .i64) := by kernel_rfl
theorem ky_i32 : Tryd.prog.underlying 21 = some (.int .i32) := by kernel_rfl
theorem ky_string : Tryd.prog.underlying 9 = some .string := by kernel_rfl
theorem ky_map : Tryd.prog.underlying 70 = some (.map 31 9) := by kernel_rfl
theorem ky_zero (w : World) : (zeroValue 9).run Tryd.prog w = .ok (.string ⟨#[]⟩) w := by kernel_rfl
/-- Numbers that their kinds hold. -/
def Wf (k : Ky) : Prop := (-9223372036854775808 ≤ k.kind ∧ k.kind ≤ 9223372036854775807) ∧ (-2147483648 ≤ k.r ∧ k.r ≤ 2147483647) ∧ (-9223372036854775808 ≤ k.n ∧ k.n ≤ 9223372036854775807) ∧ (-9223372036854775808 ≤ k.held ∧ k.held ≤ 9223372036854775807)
instance (k : Ky) : Decidable (Wf k) := by unfold Wf; infer_instance
open Classical in
noncomputable def klOf (k : Ky) : Lit := if h : ∃ l, keyOf Tryd.prog 31 (kyv k) = some l then Classical.choose h else .bool false
theorem wf32 {a : Int} (h : -2147483648 ≤ a ∧ a ≤ 2147483647) : (Lit.int .i32 a).wf = true := by
  have e1 : IntKind.i32.min = -2147483648 := by decide
  have e2 : IntKind.i32.max = 2147483647 := by decide
  simp [Lit.wf, e1, e2]
  omega
theorem key_mk (k : Ky) (h : Wf k) : keyOf Tryd.prog 31 (kyv k) = some (klOf k) := by
  have : ∃ kl, keyOf Tryd.prog 31 (kyv k) = some kl := by
    obtain ⟨h1, h2, h3, h4⟩ := h
    have hu := Tryd.underlying31
    have ht : ∃ m, Tryd.prog.types.size + 1 = m + 2 := ⟨Tryd.prog.types.size - 1, by have h : (31 : Nat) < Tryd.prog.types.size := ky_row; omega⟩
    obtain ⟨m, hm⟩ := ht
    unfold keyOf kyv
    rw [hu]
    simp only [ky_type, hm]
    unfold Program.keyLits
    rw [hu]
    simp [Value.formed, hu, ky_cells, Value.cells, Program.keyLits, ky_c3, ky_c21, WalkArith.wf_i64 h1, wf32 h2, WalkArith.wf_i64 h3, WalkArith.wf_i64 h4]
  unfold klOf
  rw [dif_pos this]
  exact Classical.choose_spec this
theorem kyv_inj {a b : Ky} (h : kyv a = kyv b) : a = b := by
  obtain ⟨a0, a1, a2, a3⟩ := a
  obtain ⟨b0, b1, b2, b3⟩ := b
  simp only [kyv, Value.agg.injEq, Array.mk.injEq, List.cons.injEq, Value.int.injEq, true_and, and_true] at h
  obtain ⟨rfl, rfl, rfl, rfl⟩ := h
  rfl
theorem kl_inj {a b : Ky} (ha : Wf a) (hb : Wf b) (h : klOf a = klOf b) : a = b :=
  kyv_inj (ky_law.inj (key_mk a ha) (by rw [h]; exact key_mk b hb))
theorem kl_key (k : Ky) (h : Wf k) : WideAt.IsKeyLit (klOf k) := by
  have h1 := key_mk k h
  generalize klOf k = l at *
  exact ky_law.key h1
noncomputable def putS (D : DataW Unit) (p : Ky × List UInt8) : DataW Unit := D.put (klOf p.1) (.lit (.string p.2))
noncomputable def litsS (l : List (Ky × List UInt8)) : DataW Unit := l.foldl putS (.map [])
theorem litsS_at : ∀ (l : List (Ky × List UInt8)) (D : DataW Unit) (c : List UInt8) (k : Ky), (∀ p ∈ l, Wf p.1) → Wf k → IsMap D → D.atKey (klOf k) (.lit (.string [])) = .lit (.string c) →
    (l.foldl putS D).atKey (klOf k) (.lit (.string [])) = .lit (.string (l.foldl (fun c p => if k = p.1 then p.2 else c) c))
  | [], D, c, k, _, _, _, h => h
  | p :: l, D, c, k, hl, hk, hD, h => by
    refine litsS_at l _ _ k (fun q hq => hl q (by simp [hq])) hk (hD.put _ _) ?_
    unfold putS
    show (D.put (klOf p.1) (.lit (.string p.2))).atKey (klOf k) (.lit (.string [])) = .lit (.string (if k = p.1 then p.2 else c))
    by_cases hn : k = p.1
    · rw [if_pos hn, hn]
      have hw := kl_key p.1 (hl p (by simp))
      generalize klOf p.1 = l' at *
      exact atKey_put_same hD hw _ _
    · rw [if_neg hn, atKey_put_other (fun e => hn (kl_inj hk (hl p (by simp)) e)), h]
theorem litsS_look (l : List (Ky × List UInt8)) (hl : ∀ p ∈ l, Wf p.1) (k : Ky) (hk : Wf k) : (litsS l).atKey (klOf k) (.lit (.string [])) = .lit (.string (lookS l k)) :=
  litsS_at l (.map []) [] k hl hk isMap_empty rfl
/-- A block that holds these keys and texts. -/
def SeqAt (w : World) (b : Nat) (l : List (Ky × List UInt8)) : Prop := ∃ n, n ≤ l.length ∧ w.ownsMap Tryd.prog 31 (plainElem (H := Unit) Tryd.prog 9) b n (litsS l)
theorem SeqAt.below {w w' : World} {b N : Nat} {l : List (Ky × List UInt8)} (h : SeqAt w b l) (hb : Below N w w') (hlt : b < N) : SeqAt w' b l := by
  obtain ⟨n, hn, es, clock, hh, F⟩ := h
  exact ⟨n, hn, es, clock, (hb.block b hlt).trans hh, F⟩
theorem SeqAt.lookup {w : World} {b : Nat} {l : List (Ky × List UInt8)} (h : SeqAt w b l) (hl : ∀ p ∈ l, Wf p.1) (k : Ky) (hk : Wf k) :
    (Instr.lookup 70 (.map (some b)) (kyv k) false).run Tryd.prog w = .ok (.string (bs (lookS l k))) w := by
  obtain ⟨n, _, h⟩ := h
  obtain ⟨v, ps, hrun, hat⟩ := h.lookup ky_law ky_map (ky_zero w) (plainElem_string ky_string (s := ⟨#[]⟩) (by decide)) (key_mk k hk)
  obtain ⟨s, rfl, hz, _⟩ := plainElem_string_inv ky_string hat
  rw [show (⟨#[]⟩ : ByteArray).data.toList = [] from rfl, litsS_look l hl k hk] at hz
  simp only [Prod.mk.injEq, DataW.lit.injEq, Lit.string.injEq] at hz
  rw [hrun, hz.1]
  rfl
theorem seq_made (w : World) : SeqAt (w.alloc (.map #[] 0)) w.heap.size [] := ⟨0, Nat.le_refl _, World.ownsMap_made _ _ _ _⟩
theorem SeqAt.put {w : World} {b : Nat} {l : List (Ky × List UInt8)} (h : SeqAt w b l) (hn : l.length < 100) (k : Ky) (hk : Wf k) (t : List UInt8) (ht : t.length < 100) :
    ∃ w', Sem.run Tryd.prog (Instr.mapUpdate 70 (.map (some b)) (kyv k) (.string (bs t))) w = .ok () w' ∧ SeqAt w' b (l ++ [(k, t)]) ∧ w.grownBy w' (some b) := by
  obtain ⟨n, hn', h⟩ := h
  obtain ⟨w', hrun, r1, r2⟩ := h.update (t := 70) ky_law ky_map (by unfold maxLen; omega) (key_mk k hk) (plainElem_string (s := bs t) ky_string (by unfold maxLen; show t.length ≤ _; omega))
  refine ⟨w', hrun, ⟨n + 1, by simp; omega, ?_⟩, r2⟩
  unfold litsS at r1 ⊢
  rw [List.foldl_append]
  exact r1
end Kys
end Go.Proofs.YtplceodnllcimaaDoor
