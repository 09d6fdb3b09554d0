/- The reference's MendRow. -/
import Derived.Test.YtinhmklpnkikgaaDoorGridStore
namespace Go.Proofs.YtinhmklpnkikgaaDoor
open Go.ChangeShapes Go.WideShapes Go.ChangeAt Go.RowKit
namespace Grd
open Txt (wd)
/-- The cells below i are mended, the others not yet. -/
def mendPre (cs : List C) (i : Nat) : List C := (mendM cs).take i ++ cs.drop i
theorem mendPre_len (cs : List C) (i : Nat) (h : i ≤ cs.length) : (mendPre cs i).length = cs.length := by
  unfold mendPre; rw [List.length_append, List.length_take, List.length_drop, mendM_len]; omega
theorem mendPre_at (cs : List C) (i j : Nat) (hi : i ≤ cs.length) (h : i ≤ j) : (mendPre cs i).getD j z0 = cs.getD j z0 := by
  unfold mendPre
  simp only [List.getD]
  rw [List.getElem?_append_right (by rw [List.length_take, mendM_len]; omega), List.length_take, mendM_len, Nat.min_eq_left hi, List.getElem?_drop, show i + (j - i) = j by omega]
theorem mendPre_same (cs : List C) (i : Nat) (h : i < cs.length) (hl : loose cs i = false) : mendPre cs (i + 1) = mendPre cs i := by
  unfold mendPre
  have e1 : (mendM cs).take (i + 1) = (mendM cs).take i ++ [cs.getD i z0] := by
    rw [List.take_add_one]
    congr 1
    have := mendM_at cs i h
    rw [hl] at this
    simp only [List.getD] at this
    have hlt : i < (mendM cs).length := by rw [mendM_len]; exact h
    rw [List.getElem?_eq_getElem hlt] at this ⊢
    simp only [Option.getD_some] at this
    rw [this]
    rfl
  have e2 : cs.drop i = cs.getD i z0 :: cs.drop (i + 1) := by
    have : cs.getD i z0 = cs[i] := by simp [List.getD, h]
    rw [this, List.getElem_cons_drop]
  rw [e1, e2, List.append_assoc]
  rfl
theorem mendPre_set (cs : List C) (i : Nat) (h : i < cs.length) (hl : loose cs i = true) : mendPre cs (i + 1) = setR (mendPre cs i) i := by
  have hle := mendPre_len cs i (by omega)
  have hle2 := mendPre_len cs (i + 1) (by omega)
  refine ext_getD _ _ (by unfold setR; rw [List.length_set, hle, hle2]) fun j hj => ?_
  rw [hle2] at hj
  unfold setR
  rw [getD_set _ _ _ _ (by rw [hle]; exact h), mendPre_at cs i i (by omega) (Nat.le_refl _)]
  by_cases hji : j = i
  · subst hji
    rw [if_pos rfl]
    unfold mendPre
    have hlt : j < (mendM cs).length := by rw [mendM_len]; exact h
    have := mendM_at cs j h
    rw [if_pos hl] at this
    rw [← this]
    simp only [List.getD]
    rw [List.getElem?_append_left (by rw [List.length_take]; omega), List.getElem?_take]
    simp
  · rw [if_neg hji]
    by_cases hlt : i < j
    · rw [mendPre_at cs (i + 1) j (by omega) (by omega), mendPre_at cs i j (by omega) (by omega)]
    · unfold mendPre
      simp only [List.getD]
      rw [List.getElem?_append_left (by rw [List.length_take, mendM_len]; omega), List.getElem?_append_left (by rw [List.length_take, mendM_len]; omega), List.getElem?_take, List.getElem?_take, if_pos (by omega), if_pos (by omega)]
theorem mendPre_zero (cs : List C) : mendPre cs 0 = cs := by simp [mendPre]
theorem mendPre_all (cs : List C) (i : Nat) (h : cs.length ≤ i) : mendPre cs i = mendL cs := by
  unfold mendPre
  rw [mendL_eq, List.take_of_length_le (by rw [mendM_len]; exact h), List.drop_of_length_le h, List.append_nil]
/-- The cell at i is the second half of the rune before it. -/
def second (cs : List C) (i : Nat) : Bool := decide (0 < i ∧ i < cs.length ∧ (cs.getD i z0).1 = 0 ∧ wd (cs.getD (i - 1) z0).1 = 2)
theorem loose_wide (cs : List C) (i : Nat) (hw : wd (cs.getD i z0).1 = 2) : loose cs i = (decide (i + 1 = cs.length) || decide ((cs.getD (i + 1) z0).1 ≠ 0)) := by
  have hn : ¬ (cs.getD i z0).1 = 0 := by intro h; rw [h, wd0] at hw; exact absurd hw (by decide)
  unfold loose
  rw [if_neg hn, hw]
  simp
theorem loose_none (cs : List C) (i : Nat) (hi : i < cs.length) (hr : (cs.getD i z0).1 = 0) (hs : second cs i = false) : loose cs i = true := by
  unfold loose
  unfold second at hs
  rw [if_pos hr]
  rw [decide_eq_false_iff_not] at hs
  by_cases h0 : i = 0
  · simp [h0]
  · have : wd (cs.getD (i - 1) z0).1 ≠ 2 := fun h => hs ⟨by omega, hi, hr, h⟩
    simp [this, -List.getD_eq_getElem?_getD]
theorem loose_narrow (cs : List C) (i : Nat) (hr : ¬ (cs.getD i z0).1 = 0) (hw : ¬ wd (cs.getD i z0).1 = 2) : loose cs i = false := by
  unfold loose
  rw [if_neg hr]
  simp [hw, -List.getD_eq_getElem?_getD]
end Grd
end Go.Proofs.YtinhmklpnkikgaaDoor
