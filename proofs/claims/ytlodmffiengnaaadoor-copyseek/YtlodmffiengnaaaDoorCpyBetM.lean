/- Package copying: what is pure: what stands between two places. -/
import Derived.Test.YtlodmffiengnaaaDoorCpyUtf
import Derived.Test.YtlodmffiengnaaaDoorCpyEnd
import Derived.Test.YtlodmffiengnaaaDoorTextWide
import Derived.Lib.Join
namespace Go.Proofs.YtlodmffiengnaaaDoor
open Go.ChangeShapes Go.WideShapes Go.ChangeAt Go.RowKit Go.Maps
namespace Cpy
open Txt (runes rn wd spotsL colsL cleanL bs okRune wideL wideS)
theorem wideL_nonneg : ∀ l : List (Int × Nat), 0 ≤ wideL l
  | [] => by simp [wideL]
  | x :: t => by
    have := wideL_nonneg t
    have := Txt.wd_range x.1
    unfold wideL
    omega
theorem spots_wide : ∀ (l : List (Int × Nat)) (c : Int), ∀ x ∈ spotsL l c, x.2 < c + wideL l
  | [], _, x, hx => by simp [spotsL] at hx
  | y :: t, c, x, hx => by
    have h0 := wideL_nonneg t
    have hr := Txt.wd_range y.1
    unfold spotsL at hx
    unfold wideL
    by_cases hw : 0 < wd y.1
    · rw [if_pos hw] at hx
      rcases List.mem_cons.1 hx with rfl | hx
      · simp only []; omega
      · have := spots_wide t _ x hx
        omega
    · rw [if_neg hw] at hx
      have := spots_wide t c x hx
      omega
theorem spots_first : ∀ (l : List (Int × Nat)) (c : Int), 0 < wideL l → ∃ r t, spotsL l c = (r, c) :: t
  | [], _, h => by simp [wideL] at h
  | y :: t, c, h => by
    have hr := Txt.wd_range y.1
    unfold wideL at h
    unfold spotsL
    by_cases hw : 0 < wd y.1
    · rw [if_pos hw]; exact ⟨_, _, rfl⟩
    · rw [if_neg hw]; exact spots_first t c (by omega)
theorem atI_all (cs : List Int) (x : Int) (h : ∀ c ∈ cs, c ≤ x) : atI cs x = (cs.length : Int) - 1 := by
  unfold atI
  rw [List.countP_eq_length.2 (fun c hc => by simpa using h c hc)]
theorem atI_mono (cs : List Int) {x x' : Int} (h : x ≤ x') : atI cs x ≤ atI cs x' := by
  unfold atI
  have := List.countP_mono_left (l := cs) (p := fun c => decide (c ≤ x)) (q := fun c => decide (c ≤ x')) (fun c _ hc => by simp at hc ⊢; omega)
  omega
theorem atI_zero (s : ByteArray) (x : Int) (h : 0 < wideS s) (hx : 0 ≤ x) : 0 ≤ atI (cols s) x := by
  obtain ⟨r, t, he⟩ := spots_first (runes s) 0 h
  unfold atI cols sp
  rw [he, List.map_cons, List.countP_cons]
  simp [hx]
theorem atI_wide (s : ByteArray) (x : Int) (h : wideS s ≤ x) : atI (cols s) x = ((sp s).length : Int) - 1 := by
  rw [← cols_len]
  refine atI_all _ _ fun c hc => ?_
  obtain ⟨y, hy, rfl⟩ := List.mem_map.1 hc
  have := spots_wide (runes s) 0 y hy
  unfold wideS at h
  omega
/-- From which rune on, and up to which. -/
def frM (s : ByteArray) (first : Bool) (ax : Int) : Nat := if first then (if wideS s ≤ ax then (sp s).length else (atI (cols s) ax).toNat) else 0
def toM (s : ByteArray) (last : Bool) (bx : Int) : Nat := if last then (atI (cols s) bx + 1).toNat else (sp s).length
theorem toM_le (s : ByteArray) (last : Bool) (bx : Int) : toM s last bx ≤ (sp s).length := by
  unfold toM
  have := atI_lt (cols s) bx
  rw [cols_len] at this
  split <;> omega
theorem frM_le (s : ByteArray) (f l : Bool) (ax bx : Int) (h : f = true → l = true → ax ≤ bx) : frM s f ax ≤ toM s l bx := by
  unfold frM toM
  have h1 := atI_lt (cols s) ax
  have h2 := atI_ge (cols s) bx
  rw [cols_len] at h1
  cases f with
  | false => simp
  | true =>
    simp only [if_true]
    cases l with
    | false => simp only [Bool.false_eq_true, if_false]; split <;> omega
    | true =>
      have hm := atI_mono (cols s) (h rfl rfl)
      simp only [if_true]
      by_cases hw : wideS s ≤ ax
      · have := atI_wide s bx (by have := h rfl rfl; omega)
        rw [if_pos hw]
        omega
      · rw [if_neg hw]; omega
def partM (L : List ByteArray) (ax : Int) (ay : Nat) (bx : Int) (by' : Nat) (y : Nat) : List Int :=
  (((sp (ln L y)).map (·.1)).drop (frM (ln L y) (y == ay) ax)).take (toM (ln L y) (y == by') bx - frM (ln L y) (y == ay) ax)
def partsM (L : List ByteArray) (ax : Int) (ay : Nat) (bx : Int) (by' : Nat) (n : Nat) : List ByteArray :=
  (List.range n).map fun i => runesBytes (partM L ax ay bx by' (ay + i))
theorem partsM_len (L : List ByteArray) (ax : Int) (ay : Nat) (bx : Int) (by' : Nat) (n : Nat) : (partsM L ax ay bx by' n).length = n := by unfold partsM; simp
theorem partsM_succ (L : List ByteArray) (ax : Int) (ay : Nat) (bx : Int) (by' : Nat) (n : Nat) : partsM L ax ay bx by' (n + 1) = partsM L ax ay bx by' n ++ [runesBytes (partM L ax ay bx by' (ay + n))] := by
  unfold partsM
  rw [List.range_succ, List.map_append, List.map_singleton]
/-- What stands between. -/
def betM (L : List ByteArray) (ax : Int) (ay : Nat) (bx : Int) (by' : Nat) : ByteArray := bs (Lib.join ((partsM L ax ay bx by' (by' + 1 - ay)).map (·.data.toList)) [10])
end Cpy
end Go.Proofs.YtlodmffiengnaaaDoor
