/- Package keys: a key's letter or number, with numbers ahead of it. -/
import Derived.Test.YtjilgapoioploaaDoorKeysRd2
import Derived.Test.YtjilgapoioploaaDoorKeysRd4
import Derived.Laws.CopyOwn
namespace Go.Proofs.YtjilgapoioploaaDoor
open Go.ChangeShapes Go.WideShapes Go.ChangeAt Go.RowKit
namespace Kys
open Txt (wd bs dec)
/-- A key that may be none. -/
def kOr : Option Ky → Ky
  | some k => k
  | none => zk
theorem bs_list (l : List UInt8) : (bs l).data.toList = l := by simp [bs]
theorem bs_sz (l : List UInt8) : (bs l).size = l.length := by simp [bs, ByteArray.size]
theorem cutA_len (l : List UInt8) : (cutA l).length ≤ l.length := by
  unfold cutA
  split
  · exact Nat.le_refl _
  · rw [List.length_take]; omega
theorem cutB_len (l : List UInt8) : (cutB l).length ≤ l.length := by
  unfold cutB
  split
  · exact Nat.zero_le _
  · rw [List.length_drop]; omega
theorem zErrs {w : World} (hE : Errs w) : Errs (w.alloc (.cells #[.int .i64 0, .int .i32 0, .int .i64 0, .int .i64 0] 23)) := hE.below (kb_z w)
set_option maxHeartbeats 4000000 in
theorem withLetter_any (kind : Int) (s : ByteArray) (hs : s.size ≤ 1048576) (w : World) (hE : Errs w) : Calls Tryd.prog 77 #[.int .i64 kind, .string s] w fun e w' => e = .returned (.tuple #[kyv (kOr (withLetterL kind s.data.toList)), .bool (withLetterL kind s.data.toList).isSome]) ∧ Below w.heap.size w w' := by
  have kb := kb_z w
  have Z := hz w
  have hsz : s.data.toList.length = s.size := Array.length_toList
  by_cases h0 : s.data.toList = []
  · have e : withLetterL kind s.data.toList = some ⟨kind, 0, 0, 0⟩ := by unfold withLetterL; rw [if_pos h0]
    rw [e]
    clear e hE
    have hb : (s.toList == []) = true := by rw [beq_iff_eq, Lib.toList_data]; exact h0
    clear h0 hsz
    go_enter Tryd.func77, Tryd.ntmps77
    go_wp2_with (refine wpList_store_row rfl 23 (.tmp 4) (.tmp 16) rfl w.heap.size #[.int .i64 kind, .int .i32 0, .int .i64 0, .int .i64 0] rfl rfl _ _ Z (by kernel_rfl) rfl (one4 _ _ _ _) ?_)
    (try simp only [Exit.inBlock, Exit.then])
    refine bodyPost_ret (v := .tuple #[.agg #[.int .i64 kind, .int .i32 0, .int .i64 0, .int .i64 0], .bool true]) ?_ rfl ⟨rfl, below_setRow kb (Nat.le_refl _) _⟩
    exact results_key_tmp rfl _ _ w.heap.size _ _ _ _ rfl (setRow_heap _ _ _ _ _ _ Z) Tryd.underlying23 rfl (by kernel_rfl) _ rfl
  · have hb : (s.toList == []) = false := by rw [beq_eq_false_iff_ne, Lib.toList_data]; exact h0
    have HC := fun W => cut_any s hs W
    have HH := fun W (h : Errs W) => heldOf_any (bs (cutB s.data.toList)) (by rw [bs_sz]; have := cutB_len s.data.toList; omega) W h
    have hsA : (bs (cutA s.data.toList)).size ≤ 281474976710656 := by rw [bs_sz]; have := cutA_len s.data.toList; omega
    have HAo := fun W v h => atoi_ok (bs (cutA s.data.toList)) hsA W v h
    have HAn := fun W h1 h2 => atoi_no (bs (cutA s.data.toList)) hsA W h1 h2
    have hE1 := zErrs hE
    rw [bs_list] at HH
    rw [bs_list] at HAo HAn
    obtain ⟨res, hres⟩ : ∃ res, withLetterL kind s.data.toList = res := ⟨_, rfl⟩
    have HR : Hid ((if Lib.atoiAll (cutA s.data.toList) = .ok 1 then (heldN (cutB s.data.toList)).map fun h => (⟨kind, 0, 0, h⟩ : Ky) else none) = res) := by
      unfold Hid
      rw [← hres]
      unfold withLetterL
      rw [if_neg h0]
    rw [hres]
    clear hres h0 hsz hsA hE
    cases hk : okN (cutA s.data.toList) with
    | true =>
      obtain ⟨v, hv⟩ : ∃ v, Lib.atoiAll (cutA s.data.toList) = .ok v := by
        unfold okN at hk
        split at hk
        · exact ⟨_, by assumption⟩
        · cases hk
      have HA := fun W => HAo W v hv
      rw [hv] at HR
      clear HAo HAn hv hk
      generalize bs (cutA s.data.toList) = tA at *
      generalize bs (cutB s.data.toList) = tB at *
      generalize cutF s.data.toList = tF at *
      by_cases h1 : v = 1
      · subst h1
        cases hh : heldN (cutB s.data.toList) with
        | none =>
          rw [hh] at HH
          have e : res = none := by rw [← HR.out, if_pos rfl, hh]; rfl
          subst e
          clear HR hh
          simp only [Option.getD_none, Option.isSome_none] at HH
          go_enter Tryd.func77, Tryd.ntmps77
          go_wp2_with (first | (go_at_call 93; refine (HC _).mono ?_; rintro e W1 ⟨rfl, b1⟩; have z1 := held_block b1; have E1 := Errs.below hE1 b1; replace kb := kb.trans (b1.mono kb.size)) | (go_at_call 53; refine (HA _).mono ?_; rintro e W2 ⟨rfl, b2⟩; have z2 := by_block z1 b2; have E2 := Errs.below E1 b2; replace kb := kb.trans (b2.mono kb.size)) | (go_at_call 94; refine (HH _ E2).mono ?_; rintro e W3 ⟨rfl, b3⟩; have z3 := by_block z2 b3; replace kb := kb.trans (b3.mono kb.size)) | (refine wpList_store_row rfl 23 (.tmp 4) (.tmp 43) rfl w.heap.size #[.int .i64 0, .int .i32 0, .int .i64 0, .int .i64 0] rfl rfl _ _ z3 (by kernel_rfl) rfl (one4 _ _ _ _) ?_))
          (try simp only [Exit.inBlock, Exit.then])
          refine bodyPost_ret (v := .tuple #[.agg #[.int .i64 0, .int .i32 0, .int .i64 0, .int .i64 0], .bool false]) ?_ rfl ⟨rfl, below_setRow kb (Nat.le_refl _) _⟩
          exact results_key_tmp rfl _ _ w.heap.size _ _ _ _ rfl (setRow_heap _ _ _ _ _ _ z3) Tryd.underlying23 rfl (by kernel_rfl) _ rfl
        | some q =>
          rw [hh] at HH
          have e : res = some ⟨kind, 0, 0, q⟩ := by rw [← HR.out, if_pos rfl, hh]; rfl
          subst e
          clear HR hh
          simp only [Option.getD_some, Option.isSome_some] at HH
          go_enter Tryd.func77, Tryd.ntmps77
          go_wp2_with (first | (go_at_call 93; refine (HC _).mono ?_; rintro e W1 ⟨rfl, b1⟩; have z1 := held_block b1; have E1 := Errs.below hE1 b1; replace kb := kb.trans (b1.mono kb.size)) | (go_at_call 53; refine (HA _).mono ?_; rintro e W2 ⟨rfl, b2⟩; have z2 := by_block z1 b2; have E2 := Errs.below E1 b2; replace kb := kb.trans (b2.mono kb.size)) | (go_at_call 94; refine (HH _ E2).mono ?_; rintro e W3 ⟨rfl, b3⟩; have z3 := by_block z2 b3; replace kb := kb.trans (b3.mono kb.size)) | (refine wpList_store_row rfl 23 (.tmp 4) (.tmp 46) rfl w.heap.size #[.int .i64 kind, .int .i32 0, .int .i64 0, .int .i64 q] rfl rfl _ _ z3 (by kernel_rfl) rfl (one4 _ _ _ _) ?_))
          (try simp only [Exit.inBlock, Exit.then])
          refine bodyPost_ret (v := .tuple #[.agg #[.int .i64 kind, .int .i32 0, .int .i64 0, .int .i64 q], .bool true]) ?_ rfl ⟨rfl, below_setRow kb (Nat.le_refl _) _⟩
          exact results_key_tmp rfl _ _ w.heap.size _ _ _ _ rfl (setRow_heap _ _ _ _ _ _ z3) Tryd.underlying23 rfl (by kernel_rfl) _ rfl
      · have e : res = none := by rw [← HR.out, if_neg (fun h => h1 (by injection h))]
        subst e
        clear HR
        have i1 : (v != 1) = true := by rw [bne_iff_ne]; exact h1
        have i2 : (v == 1) = false := by rw [beq_eq_false_iff_ne]; exact h1
        generalize (heldN (cutB s.data.toList)).getD 0 = hq at *
        generalize (heldN (cutB s.data.toList)).isSome = ho at *
        go_enter Tryd.func77, Tryd.ntmps77
        go_wp2_with (first | (go_at_call 93; refine (HC _).mono ?_; rintro e W1 ⟨rfl, b1⟩; have z1 := held_block b1; have E1 := Errs.below hE1 b1; replace kb := kb.trans (b1.mono kb.size)) | (go_at_call 53; refine (HA _).mono ?_; rintro e W2 ⟨rfl, b2⟩; have z2 := by_block z1 b2; have E2 := Errs.below E1 b2; replace kb := kb.trans (b2.mono kb.size)) | (go_at_call 94; refine (HH _ E2).mono ?_; rintro e W3 ⟨rfl, b3⟩; have z3 := by_block z2 b3; replace kb := kb.trans (b3.mono kb.size)) | (refine wpList_store_row rfl 23 (.tmp 4) (.tmp 43) rfl w.heap.size #[.int .i64 0, .int .i32 0, .int .i64 0, .int .i64 0] rfl rfl _ _ z3 (by kernel_rfl) rfl (one4 _ _ _ _) ?_))
        (try simp only [Exit.inBlock, Exit.then])
        refine bodyPost_ret (v := .tuple #[.agg #[.int .i64 0, .int .i32 0, .int .i64 0, .int .i64 0], .bool false]) ?_ rfl ⟨rfl, below_setRow kb (Nat.le_refl _) _⟩
        exact results_key_tmp rfl _ _ w.heap.size _ _ _ _ rfl (setRow_heap _ _ _ _ _ _ z3) Tryd.underlying23 rfl (by kernel_rfl) _ rfl
    | false =>
      have e : res = none := by
        rw [← HR.out, if_neg]
        intro h
        unfold okN at hk
        rw [h] at hk
        cases hk
      subst e
      have HA := fun W h => HAn W h hk
      clear HR HAo HAn hk
      generalize bs (cutA s.data.toList) = tA at *
      generalize bs (cutB s.data.toList) = tB at *
      generalize cutF s.data.toList = tF at *
      generalize atoiN (cutA s.data.toList) = va at *
      generalize (heldN (cutB s.data.toList)).getD 0 = hq at *
      generalize (heldN (cutB s.data.toList)).isSome = ho at *
      go_enter Tryd.func77, Tryd.ntmps77
      go_wp2_with (first | (go_at_call 93; refine (HC _).mono ?_; rintro e W1 ⟨rfl, b1⟩; have z1 := held_block b1; have E1 := Errs.below hE1 b1; replace kb := kb.trans (b1.mono kb.size)) | (go_at_call 53; refine (HA _ E1).mono ?_; rintro e W2 ⟨NN, rfl, b2⟩; have z2 := by_block z1 b2; have E2 := Errs.below E1 b2; replace kb := kb.trans (b2.mono kb.size)) | (go_at_call 94; refine (HH _ E2).mono ?_; rintro e W3 ⟨rfl, b3⟩; have z3 := by_block z2 b3; replace kb := kb.trans (b3.mono kb.size)) | (refine wpList_store_row rfl 23 (.tmp 4) (.tmp 43) rfl w.heap.size #[.int .i64 0, .int .i32 0, .int .i64 0, .int .i64 0] rfl rfl _ _ z3 (by kernel_rfl) rfl (one4 _ _ _ _) ?_))
      (try simp only [Exit.inBlock, Exit.then])
      refine bodyPost_ret (v := .tuple #[.agg #[.int .i64 0, .int .i32 0, .int .i64 0, .int .i64 0], .bool false]) ?_ rfl ⟨rfl, below_setRow kb (Nat.le_refl _) _⟩
      exact results_key_tmp rfl _ _ w.heap.size _ _ _ _ rfl (setRow_heap _ _ _ _ _ _ z3) Tryd.underlying23 rfl (by kernel_rfl) _ rfl
end Kys
end Go.Proofs.YtjilgapoioploaaDoor
