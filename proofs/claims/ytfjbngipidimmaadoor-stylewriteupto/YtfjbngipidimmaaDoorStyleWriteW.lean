/- The walk of the law StyleWrite. -/
import Derived.Test.YtfjbngipidimmaaDoorStyleLooked
import Derived.Deep.RegionWith
import Derived.LoopN
namespace Go.Proofs.YtfjbngipidimmaaDoor
open Go.ChangeShapes Go.WideShapes Go.ChangeAt Go.RowKit
namespace Sty
theorem strs0 {wr W1 : World} {p q : Value} {t : TypeId} (b1 : Below ((wr.alloc (.cells #[p, q] t)).drew).heap.size ((wr.alloc (.cells #[p, q] t)).drew) W1) :
    W1.cell? ⟨wr.heap.size, 0, none⟩ = some p ∧ W1.cell? ⟨wr.heap.size, 1, none⟩ = some q := by
  refine ⟨?_, ?_⟩
  · rw [b1.cell (p := ⟨wr.heap.size, 0, none⟩) (by simp)]; simp
  · rw [b1.cell (p := ⟨wr.heap.size, 1, none⟩) (by simp)]; simp
set_option maxHeartbeats 2000000 in
theorem lawWrite_some (b o c : Nat) (xs : List Int) (w : World) (hT : Tab w) (hP : P10 w) (hR : Row w b o xs) (h0 : xs ≠ []) (hc : xs.length ≤ c) (hlen : xs.length ≤ 4398046511104)
    (hw : ∀ x ∈ xs, -9223372036854775808 ≤ x ∧ x ≤ 9223372036854775807) :
    Calls Tryd.prog 5 #[.slice (some ⟨b, o, none⟩) xs.length c] w fun e w' => e = .returned (.bool true) ∧ Below w.heap.size w w' := by
  have hpos : 0 < xs.length := by cases xs; exact absurd rfl h0; simp
  have HT : Hid (Tab w) := hT
  have HP : Hid (P10 w) := hP
  have HR : Hid (Row w b o xs) := hR
  have HW : Hid (∀ x ∈ xs, -9223372036854775808 ≤ x ∧ x ≤ 9223372036854775807) := hw
  have HE : Hid (writeL xs = [27, 91] ++ numsL true xs ++ [109]) := by unfold Hid writeL; rw [if_neg h0]
  have HI : Hid (IntsAt w (.slice (some ⟨b, o, none⟩) xs.length c) xs) := .inr ⟨h0, b, o, c, rfl, hc, hR⟩
  clear hP hR hw h0 hT
  go_enter Tryd.func5, Tryd.ntmps5
  go_wp2_with fail
  go_loopg [3, 8] xs.length (fun g s i wr => ∃ (k : Nat) (acc : List UInt8), k ≤ xs.length ∧ xs.length - k ≤ g ∧ i = .int .i64 k ∧ s = .string (bs acc) ∧ Below w.heap.size w wr ∧ acc ++ (if k = 0 then [27, 91] else []) ++ numsL (k == 0) (xs.drop k) = [27, 91] ++ numsL true xs ∧ acc.length ≤ 24 * k)
  case atStart => exact ⟨0, [], by omega, by omega, rfl, rfl, Below.refl _ _, rfl, by simp⟩
  case round =>
    obtain ⟨k, acc, hk, hg, rfl, rfl, hb, hacc, hal⟩ := hrel
    have HC : Hid (acc ++ (if k = 0 then [27, 91] else []) ++ numsL (k == 0) (xs.drop k) = [27, 91] ++ numsL true xs) := hacc
    clear hacc
    by_cases hlt : k < xs.length
    · have q0 : wr.cell? ⟨b, o + k, none⟩ = some (.int .i64 (xs.getD k 0)) := by
        have h := HR.out k hlt
        exact (hb.cell (cell_lt h)).trans h
      have hy := HW.out (xs.getD k 0) (by simp [List.getD, hlt])
      have HPk : Hid (∀ W', Below wr.heap.size wr W' → P10 W') := fun W' h => HP.out.below (hb.trans (h.mono hb.size))
      have HD : Hid (xs.drop k = xs.getD k 0 :: xs.drop (k + 1)) := drop_cons xs k hlt
      have hil := Lib.itoa_length_le (xs.getD k 0) hy.1 hy.2
      generalize xs.getD k 0 = y at *
      have hbl : (bs acc).size ≤ 24 * k := by rw [bs_size]; exact hal
      have hbi : (bs (Lib.itoa y)).size ≤ 21 := by rw [bs_size]; exact hil
      by_cases hk0 : k = 0
      · subst hk0
        simp only [Nat.add_zero] at q0
        have hmin : min (0 : Int) 1 = 0 := rfl
        go_wp2_with fail
        go_region_with (go_at_call 19; refine (itoa_any y _ hy.1 hy.2 (by first | exact HPk.out _ (Below.refl _ _).drew | exact HPk.out _ ((Below.refl _ _).drew.alloc (Nat.le_refl _) _) | exact HPk.out _ (((Below.refl _ _).alloc (Nat.le_refl _) _).drew))).mono ?_; rintro e W1 ⟨rfl, b1⟩; (try have ⟨l0, l1⟩ := strs0 b1))
        all_goals (
          go_wp2_with fail
          go_roundg (xs.length - (1))
          case measure => omega
          case rel =>
            refine ⟨1, acc ++ ([27, 91] ++ Lib.itoa y), by omega, by omega, rfl, ?_, ?_, ?_, ?_⟩
            · show Value.string (bs acc ++ (bs [27, 91] ++ bs (Lib.itoa y))) = _
              rw [bs_append, bs_append]
            · first
                | exact hb.trans (((((Below.refl _ wr).alloc (Nat.le_refl _) _).drew).trans (b1.mono (by simp))).mono hb.size)
                | exact hb.trans (((((Below.refl _ wr).drew).trans b1).alloc b1.size _).mono hb.size)
            · rw [← HC.out, HD.out]
              simp [numsL]
            · simp
              omega)
      · have hmin : min (k : Int) 1 = 1 := by omega
        have hkb : (k == 0) = false := by simp; omega
        go_wp2_with fail
        go_region_with (go_at_call 19; refine (itoa_any y _ hy.1 hy.2 (by first | exact HPk.out _ (Below.refl _ _).drew | exact HPk.out _ ((Below.refl _ _).drew.alloc (Nat.le_refl _) _) | exact HPk.out _ (((Below.refl _ _).alloc (Nat.le_refl _) _).drew))).mono ?_; rintro e W1 ⟨rfl, b1⟩; (try have ⟨l0, l1⟩ := strs0 b1))
        all_goals (
          go_wp2_with fail
          go_roundg (xs.length - (k + 1))
          case measure => omega
          case rel =>
            refine ⟨k + 1, acc ++ ([59] ++ Lib.itoa y), by omega, by omega, by go_num, ?_, ?_, ?_, ?_⟩
            · show Value.string (bs acc ++ (bs [59] ++ bs (Lib.itoa y))) = _
              rw [bs_append, bs_append]
            · first
                | exact hb.trans (((((Below.refl _ wr).alloc (Nat.le_refl _) _).drew).trans (b1.mono (by simp))).mono hb.size)
                | exact hb.trans (((((Below.refl _ wr).drew).trans b1).alloc b1.size _).mono hb.size)
            · rw [← HC.out, HD.out]
              simp [numsL, hk0, hkb]
            · simp
              omega)
    · have hk2 : k = xs.length := by omega
      have HA : Hid (acc = [27, 91] ++ numsL true xs) := by
        have h := HC.out
        rw [hk2, List.drop_length, if_neg (by omega), show (xs.length == 0) = false by simp only [beq_eq_false_iff_ne, ne_eq]; omega] at h
        unfold Hid
        simpa [numsL] using h
      have hq : ((bs (writeL xs)).toList == (bs acc ++ bs [109]).toList) = true := by
        rw [HE.out, HA.out, bs_append]
        exact beq_self_eq_true _
      have hbl : (bs acc).size ≤ 24 * k := by rw [bs_size]; exact hal
      have hbm : (bs [109]).size = 1 := rfl
      go_wp2_with (first
        | (go_at_call 9; refine (looked_any _ (HT.out.below hb HT.out.pos) (HP.out.below hb)).mono ?_; rintro e W1 ⟨rfl, b1⟩; have k1 : Below w.heap.size w W1 := hb.trans (b1.mono hb.size))
        | (go_at_call 20; refine (write_any _ xs _ (HP.out.below k1) (HI.out.below k1) hlen HW.out).mono ?_; rintro e W2 ⟨rfl, b2⟩))
      go_ret
      exact ⟨ret_bool hq, k1.trans (b2.mono k1.size)⟩
set_option maxHeartbeats 1000000 in
theorem lawWrite_nil (a : Option Addr) (c : Nat) (w : World) (hT : Tab w) (hP : P10 w) :
    Calls Tryd.prog 5 #[.slice a 0 c] w fun e w' => e = .returned (.bool true) ∧ Below w.heap.size w w' := by
  have HT : Hid (Tab w) := hT
  have HP : Hid (P10 w) := hP
  have HI : Hid (IntsAt w (.slice a 0 c) []) := .inl ⟨rfl, a, c, rfl⟩
  clear hT hP
  have hq : ((bs (writeL [])).toList == []) = true := by decide +kernel
  go_enter Tryd.func5, Tryd.ntmps5
  go_wp2_with fail
  refine wp_loop_rounds 1 ?_
  rw [rounds_succ]
  go_wp2_with (first
    | (go_at_call 9; refine (looked_any _ HT.out HP.out).mono ?_; rintro e W1 ⟨rfl, b1⟩)
    | (go_at_call 20; refine (write_any _ [] _ (HP.out.below b1) (HI.out.below b1) (by simp) (by simp)).mono ?_; rintro e W2 ⟨rfl, b2⟩))
  go_ret
  exact ⟨rfl, b1.trans (b2.mono b1.size)⟩
theorem styleWrite_walk (v : Value) (xs : List Int) (w : World) (hT : Tab w) (hP : P10 w) (hI : IntsAt w v xs) (hlen : xs.length ≤ 4398046511104) (hw : ∀ x ∈ xs, -9223372036854775808 ≤ x ∧ x ≤ 9223372036854775807) :
    Calls Tryd.prog 5 #[v] w fun e w' => e = .returned (.bool true) ∧ Below w.heap.size w w' := by
  rcases hI with ⟨rfl, a, c, rfl⟩ | ⟨h0, b, o, c, rfl, hc, hR⟩
  · exact lawWrite_nil a c w hT hP
  · exact lawWrite_some b o c xs w hT hP hR h0 hc hlen hw
theorem bulk_ints {H : Type} : ∀ (l : List (DataW H)), (∀ y ∈ l, ∃ k n, y = .lit (.int k n)) → Rows.uptoBulkAll l = l.length
  | [], _ => rfl
  | y :: l, h => by
    obtain ⟨k, n, rfl⟩ := h y (by simp)
    have := bulk_ints l (fun y hy => h y (by simp [hy]))
    simp only [Rows.uptoBulkAll, Rows.uptoBulk, this, List.length_cons]
    omega
end Sty
end Go.Proofs.YtfjbngipidimmaaDoor
