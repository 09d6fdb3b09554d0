/- Package split: one part of a split is checked. -/
import Derived.Test.YtckkbmgdaplaaaaDoorSplAt
namespace Go.Proofs.YtckkbmgdaplaaaaDoor
open Go.ChangeShapes Go.WideShapes Go.ChangeAt Go.RowKit Go.Maps
namespace Spl
open Fo
section
variable {ops : Array Oper} {rest : List Oper} {o : Oper} {a : Act} {Q : Exit → Act → World → Prop}
theorem wpList_len_met (w : World) (hg : o.guard = none) (m : Operand) (hop : o.op = Op.call { callee := Callee.builtin Builtin.len, args := #[m], argTypes := #[74] }) (M : Nat) (l : List Int) (hm : a.eval m = .map (some M)) (h : MetAt w M l)
    (hK : wpList Tryd.prog ops Q rest (a.put o.dst (.int .i64 l.length)) w) : wpList Tryd.prog ops Q (o :: rest) a w := by
  refine wpList_plain hg fun K' hK' => ?_
  unfold Oper.wp
  simp [execOp, hop, resolve, invoke, builtin, hm, h.len o.type, Result.andThen]
  exact hK' _ _ hK
end
theorem ret_e {a b : Int} (h : a = b) : Ending.returned (.int .i64 a) = Ending.returned (.int .i64 b) := by rw [h]
theorem isParam_any (p : Int) (w : World) : Calls Tryd.prog 51 #[.int .i64 p] w fun e w' => e = .returned (.bool (decide (1 ≤ p ∧ p ≤ 9999))) ∧ w' = w := by
  by_cases h1 : 1 ≤ p
  · by_cases h2 : p ≤ 9999
    · rw [decide_eq_true ⟨h1, h2⟩]
      go_enter Tryd.func51, Tryd.ntmps51
      go_wp2_with fail
      go_ret
      exact ⟨rfl, rfl⟩
    · rw [decide_eq_false (fun h => h2 h.2)]
      go_enter Tryd.func51, Tryd.ntmps51
      go_wp2_with fail
      go_ret
      exact ⟨rfl, rfl⟩
  · rw [decide_eq_false (fun h => h1 h.1)]
    go_enter Tryd.func51, Tryd.ntmps51
    go_wp2_with fail
    go_ret
    exact ⟨rfl, rfl⟩
theorem isWay_any (p : Int) (w : World) : Calls Tryd.prog 50 #[.int .i64 p] w fun e w' => e = .returned (.bool (decide (p = 1 ∨ p = 2))) ∧ w' = w := by
  by_cases h1 : p = 1
  · rw [decide_eq_true (Or.inl h1)]
    subst h1
    go_enter Tryd.func50, Tryd.ntmps50
    go_wp2_with fail
    go_ret
    exact ⟨rfl, rfl⟩
  · have j1 : (p == 1) = false := by rw [beq_eq_false_iff_ne]; exact h1
    by_cases h2 : p = 2
    · rw [decide_eq_true (Or.inr h2)]
      subst h2
      go_enter Tryd.func50, Tryd.ntmps50
      go_wp2_with fail
      go_ret
      exact ⟨rfl, rfl⟩
    · have j2 : (p == 2) = false := by rw [beq_eq_false_iff_ne]; exact h2
      rw [decide_eq_false (fun h => h.elim h1 h2)]
      clear h1 h2
      go_enter Tryd.func50, Tryd.ntmps50
      go_wp2_with fail
      go_ret
      exact ⟨rfl, rfl⟩
def leafP (pn : Int) (n : Nat) (met : List Int) : Int × List Int := if n ≠ 0 then (5, met) else if ¬ (1 ≤ pn ∧ pn ≤ 9999) then (4, met) else if pn ∈ met then (7, met) else if 12 ≤ met.length then (2, met) else (0, met ++ [pn])
set_option maxHeartbeats 4000000 in
set_option maxRecDepth 100000 in
theorem checkLeaf_any (wy pn sz : Int) (ad : Option Addr) (n c M : Nat) (met : List Int) (w : World) (hm : MetAt w M met) (hl : met.length ≤ 12) :
    Calls Tryd.prog 69 #[.agg #[.int .i64 wy, .int .i64 pn, .int .i64 sz, .slice ad n c], .map (some M)] w fun e w' => e = .returned (.int .i64 (leafP pn n met).1) ∧ MetAt w' M (leafP pn n met).2 ∧ But M w w' := by
  have kb : Below w.heap.size w (w.alloc (.cells #[.int .i64 wy, .int .i64 pn, .int .i64 sz, .slice ad n c] 24)) := (Below.refl _ _).alloc (Nat.le_refl _) _
  have hm1 := hm.keep kb
  have HB : Hid (But M w (w.alloc (.cells #[.int .i64 wy, .int .i64 pn, .int .i64 sz, .slice ad n c] 24))) := But.of_below kb
  have HM : Hid (MetAt (w.alloc (.cells #[.int .i64 wy, .int .i64 pn, .int .i64 sz, .slice ad n c] 24)) M met) := hm1
  unfold leafP
  clear hm kb
  by_cases h0 : n = 0
  · subst h0
    rw [if_neg (by simp)]
    have HP := isParam_any pn
    by_cases hp : 1 ≤ pn ∧ pn ≤ 9999
    · rw [if_neg (fun h => h hp)]
      rw [decide_eq_true hp] at HP
      have hlk := hm1.lookup pn hp.1 hp.2
      by_cases hin : pn ∈ met
      · rw [if_pos hin] at hlk ⊢
        clear hm1 hp hin hl
        go_enter Tryd.func69, Tryd.ntmps69
        go_wp2_with fail
        refine (HP _).mono ?_
        rintro e W ⟨rfl, hW⟩
        subst hW
        go_wp2_with fail
        go_ret
        exact ⟨rfl, HM.out, HB.out⟩
      · rw [if_neg hin] at hlk ⊢
        by_cases h12 : 12 ≤ met.length
        · rw [if_pos h12]
          have j12 : ((met.length : Int) == 12) = true := by rw [beq_iff_eq]; omega
          clear hm1 hp hin hl h12
          go_enter Tryd.func69, Tryd.ntmps69
          go_wp2_with fail
          refine (HP _).mono ?_
          rintro e W ⟨rfl, hW⟩
          subst hW
          go_wp2_with (at_len; refine wpList_len_met _ rfl _ rfl M met rfl HM.out ?_)
          go_ret
          exact ⟨rfl, HM.out, HB.out⟩
        · rw [if_neg h12]
          have j12 : ((met.length : Int) == 12) = false := by rw [beq_eq_false_iff_ne]; omega
          obtain ⟨V, rV, mV, gV⟩ := hm1.put pn hp.1 hp.2 hin (by omega)
          clear hm1 hp hin hl h12
          go_enter Tryd.func69, Tryd.ntmps69
          go_wp2_with fail
          refine (HP _).mono ?_
          rintro e W ⟨rfl, hW⟩
          subst hW
          go_wp2_with (at_len; refine wpList_len_met _ rfl _ rfl M met rfl HM.out ?_)

          go_ret
          exact ⟨rfl, mV, HB.out.trans (But.of_grown gV)⟩
    · rw [if_pos hp]
      rw [decide_eq_false hp] at HP
      clear hm1 hp hl
      go_enter Tryd.func69, Tryd.ntmps69
      go_wp2_with fail
      refine (HP _).mono ?_
      rintro e W ⟨rfl, hW⟩
      subst hW
      go_wp2_with fail
      go_ret
      exact ⟨rfl, HM.out, HB.out⟩
  · rw [if_pos h0]
    have j0 : ((n : Int) != 0) = true := by rw [bne_iff_ne]; omega
    clear hm1 h0 hl
    go_enter Tryd.func69, Tryd.ntmps69
    go_wp2_with fail
    go_ret
    exact ⟨rfl, HM.out, HB.out⟩
end Spl
end Go.Proofs.YtckkbmgdaplaaaaDoor
