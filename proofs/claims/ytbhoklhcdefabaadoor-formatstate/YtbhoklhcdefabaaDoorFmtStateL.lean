/- The law FormatState. -/
import Derived.Test.YtbhoklhcdefabaaDoorFmtFact
import Derived.Test.YtbhoklhcdefabaaDoorTextCutOf
import Derived.Test.YtbhoklhcdefabaaDoorTextWideOf
import Derived.Test.YtbhoklhcdefabaaDoorTextCleanOf
import Derived.Test.YtbhoklhcdefabaaDoorFmtCutL
namespace Go.Proofs.YtbhoklhcdefabaaDoor
open Go.ChangeShapes Go.WideShapes Go.ChangeAt Go.RowKit Go.Maps Go.Sort
namespace Fmt
open Txt (bs cutB wideB cleanL runes)
def lcut (l r : ByteArray) (n : Int) : List UInt8 := cutB (cleanL (runes l)) (n - wideB (endB r n))
theorem left_parts (l r : ByteArray) (n : Int) : leftB l r n = lcut l r n ++ List.replicate (n - wideB (endB r n) - wideB (lcut l r n)).toNat 32 := rfl
set_option maxHeartbeats 8000000 in
set_option maxRecDepth 100000 in
theorem formatState_walk (l r : ByteArray) (n : Int) (w : World) (hT : Txt.Tab w) :
    Calls Tryd.prog 4 #[.string l, .string r, .int .i64 n] w fun e w' => e = .returned (.bool true) ∧ Below w.heap.size w w' := by
  have HT : Hid (∀ V, Below w.heap.size w V → Txt.Tab V) := fun V hV => hT.below hV hT.pos
  have HS := state_any l r n w hT
  have HF := fun V (hV : Below w.heap.size w V) => formatted_any V (HT.out V hV)
  unfold stV at HS
  clear hT
  by_cases h1 : 4000 < l.size
  · rw [if_pos (by unfold long; rw [decide_eq_true h1]; rfl)] at HS
    have i1 : (4000 : Int) < (l.size : Int) := by omega
    go_enter Tryd.func4, Tryd.ntmps4
    go_wp2_with fail
    refine HS.mono ?_
    rintro e W1 ⟨rfl, b1⟩
    go_wp2_with fail
    refine (HF _ b1).mono ?_
    rintro e W2 ⟨rfl, b2⟩
    have k2 := b1.trans (b2.mono b1.size)
    go_wp2_with fail
    refine (HF _ k2).mono ?_
    rintro e W3 ⟨rfl, b3⟩
    have k3 := k2.trans (b3.mono k2.size)
    go_wp2_with fail
    go_ret
    exact ⟨rfl, k3⟩
  · have i1 : ¬ (4000 : Int) < (l.size : Int) := by omega
    by_cases h2 : 4000 < r.size
    · rw [if_pos (by unfold long; rw [decide_eq_true h2]; simp)] at HS
      have i2 : (4000 : Int) < (r.size : Int) := by omega
      go_enter Tryd.func4, Tryd.ntmps4
      go_wp2_with fail
      refine HS.mono ?_
      rintro e W1 ⟨rfl, b1⟩
      go_wp2_with fail
      refine (HF _ b1).mono ?_
      rintro e W2 ⟨rfl, b2⟩
      have k2 := b1.trans (b2.mono b1.size)
      go_wp2_with fail
      refine (HF _ k2).mono ?_
      rintro e W3 ⟨rfl, b3⟩
      have k3 := k2.trans (b3.mono k2.size)
      go_wp2_with fail
      go_ret
      exact ⟨rfl, k3⟩
    · have i2 : ¬ (4000 : Int) < (r.size : Int) := by omega
      rw [if_neg (by unfold long; rw [decide_eq_false h1, decide_eq_false h2]; simp)] at HS
      by_cases h3 : n < 1 ∨ 120 < n
      · rw [if_pos h3] at HS
        by_cases h4 : n < 1
        · clear h3
          go_enter Tryd.func4, Tryd.ntmps4
          go_wp2_with fail
          refine HS.mono ?_
          rintro e W1 ⟨rfl, b1⟩
          go_wp2_with fail
          refine (HF _ b1).mono ?_
          rintro e W2 ⟨rfl, b2⟩
          have k2 := b1.trans (b2.mono b1.size)
          go_wp2_with fail
          refine (HF _ k2).mono ?_
          rintro e W3 ⟨rfl, b3⟩
          have k3 := k2.trans (b3.mono k2.size)
          go_wp2_with fail
          go_ret
          exact ⟨rfl, k3⟩
        · have h5 : 120 < n := h3.resolve_left h4
          clear h3
          go_enter Tryd.func4, Tryd.ntmps4
          go_wp2_with fail
          refine HS.mono ?_
          rintro e W1 ⟨rfl, b1⟩
          go_wp2_with fail
          refine (HF _ b1).mono ?_
          rintro e W2 ⟨rfl, b2⟩
          have k2 := b1.trans (b2.mono b1.size)
          go_wp2_with fail
          refine (HF _ k2).mono ?_
          rintro e W3 ⟨rfl, b3⟩
          have k3 := k2.trans (b3.mono k2.size)
          go_wp2_with fail
          go_ret
          exact ⟨rfl, k3⟩
      · rw [if_neg h3] at HS
        obtain ⟨h4, h5⟩ := not_or.1 h3
        obtain ⟨w1, w2⟩ := end_wide r n (by omega)
        have hrl := clean_le r
        have hll := clean_le l
        have hcl : (endB r n).length ≤ (cleanL (runes r)).length := Txt.cutB_length _ _
        have hlc : (lcut l r n).length ≤ (cleanL (runes l)).length := Txt.cutB_length _ _
        obtain ⟨v1, v2⟩ : 0 ≤ wideB (lcut l r n) ∧ wideB (lcut l r n) ≤ n - wideB (endB r n) := Txt.cut_wide (n - wideB (endB r n)) (by omega) _
        have HCR := fun V => Txt.cleanOf_any r V (by omega)
        have HCU := fun V => cutOf_l (cleanL (runes r)) n V (by omega)
        rw [show cutB (cleanL (runes r)) n = endB r n from rfl] at HCU
        have HCL := fun V => Txt.cleanOf_any l V (by omega)
        have HWD := fun V => wideOf_l (endB r n) V (by omega)
        have HCV := fun V => cutOf_l (cleanL (runes l)) (n - wideB (endB r n)) V (by omega)
        rw [show cutB (cleanL (runes l)) (n - wideB (endB r n)) = lcut l r n from rfl] at HCV
        have HWL := fun V => wideOf_l (lcut l r n) V (by omega)
        obtain ⟨cc, hcc⟩ : ∃ cc : Nat, n - wideB (endB r n) - wideB (lcut l r n) = (cc : Int) := ⟨(n - wideB (endB r n) - wideB (lcut l r n)).toNat, by omega⟩
        have HRP := fun V => Txt.repeat_b cc V (by omega)
        have hout : bs (leftB l r n ++ endB r n) = bs (lcut l r n) ++ bs (List.replicate cc 32) ++ bs (endB r n) := by
          rw [left_parts, hcc, Int.toNat_natCast, Txt.bs_append, Txt.bs_append]
        rw [hout] at HS
        have s1 : ¬ 9223372036854775807 < (bs (lcut l r n)).size + (bs (List.replicate cc 32)).size := by
          rw [Txt.bs_size, Txt.bs_size, List.length_replicate]
          omega
        have s2 : ¬ 9223372036854775807 < (bs (lcut l r n) ++ bs (List.replicate cc 32)).size + (bs (endB r n)).size := by
          rw [Txt.bs_append, Txt.bs_size, Txt.bs_size, List.length_append, List.length_replicate]
          omega
        have hw2 : wrap64 (n - wideB (endB r n) - wideB (lcut l r n)) = (cc : Int) := by
          rw [hcc]
          exact w64_s (by omega) (by omega)
        have hw1 : wrap64 (n - wideB (endB r n)) = n - wideB (endB r n) := w64_s (by clear hw2; omega) (by clear hw2; omega)
        clear h1 h2 h3 hrl hll hcl hlc hcc hout w1 w2 v1 v2
        generalize wideB (endB r n) = we at *
        generalize wideB (lcut l r n) = wl at *
        generalize bs (endB r n) = en at *
        generalize bs (lcut l r n) = lf at *
        generalize bs (List.replicate cc 32) = sp at *
        generalize bs (cleanL (runes r)) = cr at *
        generalize bs (cleanL (runes l)) = cl at *
        go_enter Tryd.func4, Tryd.ntmps4
        go_wp2_with fail
        refine HS.mono ?_
        rintro e W1 ⟨rfl, b1⟩
        go_wp2_with fail
        refine (HF _ b1).mono ?_
        rintro e W2 ⟨rfl, b2⟩
        have k2 := b1.trans (b2.mono b1.size)
        go_wp2_with fail
        refine (HCR _).mono ?_
        rintro e W3 ⟨rfl, b3⟩
        have k3 := k2.trans (b3.mono k2.size)
        go_wp2_with fail
        refine (HCU _).mono ?_
        rintro e W4 ⟨rfl, b4⟩
        have k4 := k3.trans (b4.mono k3.size)
        go_wp2_with fail
        refine (HCL _).mono ?_
        rintro e W5 ⟨rfl, b5⟩
        have k5 := k4.trans (b5.mono k4.size)
        go_wp2_with fail
        refine (HWD _).mono ?_
        rintro e W6 ⟨rfl, b6⟩
        have k6 := k5.trans (b6.mono k5.size)
        go_wp2_with fail
        refine (HCV _).mono ?_
        rintro e W7 ⟨rfl, b7⟩
        have k7 := k6.trans (b7.mono k6.size)
        go_wp2_with fail
        refine (HWD _).mono ?_
        rintro e W8 ⟨rfl, b8⟩
        have k8 := k7.trans (b8.mono k7.size)
        go_wp2_with fail
        refine (HWL _).mono ?_
        rintro e W9 ⟨rfl, b9⟩
        have k9 := k8.trans (b9.mono k8.size)
        go_wp2_with fail
        refine (HRP _).mono ?_
        rintro e Wa ⟨rfl, ba⟩
        have ka := k9.trans (ba.mono k9.size)
        clear HS HF HCR HCU HCL HWD HCV HWL HRP
        go_wp2_with fail
        go_ret
        exact ⟨rfl, ka⟩
end Fmt
end Go.Proofs.YtbhoklhcdefabaaDoor
