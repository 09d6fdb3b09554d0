/- Package copying: what is pure: the runes of a line that take a cell, and their columns. -/
import Derived.Test.YtlodmffiengnaaaDoorCpyAt
import Derived.Test.YtlodmffiengnaaaDoorTextSpots
import Derived.Test.YtlodmffiengnaaaDoorTextClean
import Derived.Test.YtlodmffiengnaaaDoorTextCleanMath
namespace Go.Proofs.YtlodmffiengnaaaDoor
open Go.ChangeShapes Go.WideShapes Go.ChangeAt Go.RowKit Go.Maps
namespace Cpy
open Txt (runes rn wd spotsL colsL cleanL bs okRune)
/-- The runes of a line that take a cell, each with its column. -/
def sp (s : ByteArray) : List (Int × Int) := spotsL (runes s) 0
/-- The runes of a text. -/
def zs (s : ByteArray) : List Int := (runes s).map (·.1)
theorem rn_clean : ∀ (L : List (Int × Nat)) (c : Int), (∀ x ∈ L, okRune x.1) → (rn (cleanL L)).map (·.1) = (spotsL L c).map (·.1)
  | [], _, _ => rfl
  | x :: t, c, h => by
    unfold cleanL spotsL
    have ht : ∀ y ∈ t, okRune y.1 := fun y hy => h y (List.mem_cons_of_mem _ hy)
    by_cases hw : 0 < wd x.1
    · rw [if_pos hw, if_pos hw, Txt.rn_encode x.1 (h x (List.mem_cons_self ..)), List.map_cons, List.map_cons, rn_clean t (c + wd x.1) ht]
    · rw [if_neg hw, if_neg hw, List.nil_append, rn_clean t c ht]
theorem bs_data (l : List UInt8) : (bs l).data.toList = l := by simp [bs]
theorem runes_ok (s : ByteArray) : ∀ x ∈ runes s, okRune x.1 := by
  rw [Txt.runes_rn]
  exact Txt.rl_ok _ _
theorem zs_clean (s : ByteArray) : zs (bs (cleanL (runes s))) = (sp s).map (·.1) := by
  unfold zs sp
  rw [Txt.runes_rn (bs _), bs_data]
  exact rn_clean _ 0 (runes_ok s)
theorem spots_low : ∀ (L : List (Int × Nat)) (c : Int), (∀ x ∈ spotsL L c, c ≤ x.2)
  | [], _, x, hx => by simp [spotsL] at hx
  | y :: t, c, x, hx => by
    unfold spotsL at hx
    by_cases hw : 0 < wd y.1
    · rw [if_pos hw] at hx
      rcases List.mem_cons.1 hx with rfl | hx
      · exact Int.le_refl _
      · have := spots_low t _ x hx
        omega
    · rw [if_neg hw] at hx
      exact spots_low t c x hx
theorem spots_lt : ∀ (L : List (Int × Nat)) (c : Int), ((spotsL L c).map (·.2)).Pairwise (· < ·)
  | [], _ => by simp [spotsL]
  | y :: t, c => by
    unfold spotsL
    by_cases hw : 0 < wd y.1
    · rw [if_pos hw, List.map_cons, List.pairwise_cons]
      refine ⟨fun a ha => ?_, spots_lt t _⟩
      obtain ⟨x, hx, rfl⟩ := List.mem_map.1 ha
      have := spots_low t _ x hx
      simp only []
      omega
    · rw [if_neg hw]
      exact spots_lt t c
theorem sp_lt (s : ByteArray) : ((sp s).map (·.2)).Pairwise (· < ·) := spots_lt _ _
theorem sp_pos (s : ByteArray) : ∀ x ∈ sp s, 0 ≤ x.2 := spots_low _ _
/-- The rune at a column: its number; -1, if there is none. -/
def atI (cs : List Int) (x : Int) : Int := (cs.countP (· ≤ x) : Nat) - 1
theorem count_le : ∀ (cs : List Int) (x : Int), cs.Pairwise (· < ·) → cs.countP (· ≤ x) = cs.countP (· < x) + (if cs.contains x then 1 else 0)
  | [], _, _ => rfl
  | c :: t, x, h => by
    rw [List.pairwise_cons] at h
    rw [List.countP_cons, List.countP_cons, count_le t x h.2, List.contains_cons]
    by_cases h1 : c < x
    · have h2 : (x == c) = false := by rw [beq_eq_false_iff_ne]; omega
      have h3 : c ≤ x := by omega
      simp only [h1, h2, h3, decide_true, if_true, Bool.false_or]
      omega
    · by_cases h2 : c = x
      · subst h2
        have h4 : ¬ c ∈ t := by
          intro hm
          have := h.1 _ hm
          omega
        have h5 : t.countP (fun y => decide (y < c)) = 0 := by
          rw [List.countP_eq_zero]
          intro a ha
          have := h.1 _ ha
          simp
          omega
        simp [h4, h5]
      · have h3 : ¬ c ≤ x := by omega
        have h4 : (x == c) = false := by rw [beq_eq_false_iff_ne]; omega
        simp only [h1, h3, h4, decide_false, Bool.false_or]
        simp
theorem atI_ge (cs : List Int) (x : Int) : -1 ≤ atI cs x := by unfold atI; omega
theorem atI_lt (cs : List Int) (x : Int) : atI cs x < cs.length := by
  have := List.countP_le_length (p := fun y => decide (y ≤ x)) (l := cs)
  unfold atI
  omega
/-- The column of the last rune; 0 of none. -/
def endI (cs : List Int) : Int := cs.getLastD 0
theorem endI_get (cs : List Int) (h : 0 < cs.length) : endI cs = cs[cs.length - 1] := by
  unfold endI
  rw [List.getLastD_eq_getLast?, List.getLast?_eq_getElem?, List.getElem?_eq_getElem (by omega)]
  rfl
end Cpy
end Go.Proofs.YtlodmffiengnaaaDoor
