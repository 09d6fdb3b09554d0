/- The reference's FillGrid. -/
import Derived.Test.YtknpolbnoppofaaDoorGridRefOf
import Derived.Test.YtknpolbnoppofaaDoorGridFill2
import Derived.BigQuiet
namespace Go.Proofs.YtknpolbnoppofaaDoor
open Go.ChangeShapes Go.WideShapes Go.ChangeAt Go.RowKit Go.Maps
namespace Grd
/-- The rows below k as f makes them, the others as they were. -/
def rowsF (n hh : Nat) (cs : List C) (f : Nat → List C → List C) (k : Nat) : List (List C) := (List.range hh).map fun y => if y < k then f y (rowAt n cs y) else rowAt n cs y
theorem rowsF_len (n hh : Nat) (cs : List C) (f : Nat → List C → List C) (k : Nat) : (rowsF n hh cs f k).length = hh := by simp [rowsF]
theorem rowsF_at (n hh : Nat) (cs : List C) (f : Nat → List C → List C) (k i : Nat) (hi : i < hh) : (rowsF n hh cs f k).getD i [] = if i < k then f i (rowAt n cs i) else rowAt n cs i := by
  simp [rowsF, List.getD, hi]
theorem rowsF_zero (n hh : Nat) (cs : List C) (f : Nat → List C → List C) : rowsF n hh cs f 0 = rowsL n cs hh := by simp [rowsF, rowsL]
theorem rowsF_set (n hh : Nat) (cs : List C) (f : Nat → List C → List C) (k : Nat) (_hk : k < hh) : rowsF n hh cs f (k + 1) = (rowsF n hh cs f k).set k (f k (rowAt n cs k)) := by
  refine List.ext_getElem (by simp [rowsF]) fun i h1 h2 => ?_
  rw [List.getElem_set]
  simp only [rowsF, List.getElem_map, List.getElem_range]
  by_cases hik : k = i
  · subst hik; simp
  · rw [if_neg hik]
    by_cases hlt : i < k
    · rw [if_pos hlt, if_pos (by omega)]
    · rw [if_neg hlt, if_neg (by omega)]
theorem rowsF_same (n hh : Nat) (cs : List C) (f : Nat → List C → List C) (k : Nat) (hk : k < hh) (hf : f k (rowAt n cs k) = rowAt n cs k) : rowsF n hh cs f (k + 1) = rowsF n hh cs f k := by
  refine List.ext_getElem (by simp [rowsF]) fun i h1 h2 => ?_
  simp only [rowsF, List.getElem_map, List.getElem_range]
  by_cases hik : i = k
  · subst hik; simp [hf]
  · by_cases hlt : i < k
    · rw [if_pos hlt, if_pos (by omega)]
    · rw [if_neg hlt, if_neg (by omega)]
theorem rowsF_flat (n hh : Nat) (cs : List C) (f : Nat → List C → List C) : (rowsF n hh cs f hh).flatten = preF n cs f hh := by
  have key : ∀ k, ((List.range k).map fun y => f y (rowAt n cs y)).flatten = preF n cs f k := by
    intro k
    induction k with
    | zero => rfl
    | succ k ih =>
      rw [List.range_succ, List.map_append, List.flatten_append, ih]
      simp [preF]
  rw [← key hh]
  congr 1
  unfold rowsF
  refine List.map_congr_left fun y hy => ?_
  rw [if_pos (List.mem_range.1 hy)]
theorem RowsAt.set {w w' : World} {base : Nat} {vs : List Value} {gs : List Nat} {rows : List (List C)} (h : RowsAt w base vs gs rows) (k : Nat) (hk : k < rows.length) (g : Nat) (v : Value) (row : List C)
    (hb : base ≤ g) (hr : RowB w' g v row) (hne : ∀ i, i < rows.length → i ≠ k → gs.getD i 0 ≠ g) (hkeep : ∀ i, i < rows.length → i ≠ k → w'.heap[gs.getD i 0]? = w.heap[gs.getD i 0]?) :
    RowsAt w' base (vs.set k v) (gs.set k g) (rows.set k row) := by
  obtain ⟨h1, h2, h3, h4⟩ := h
  have gset : ∀ {α : Type} (l : List α) (x d : α) (i : Nat), k < l.length → (l.set k x).getD i d = if i = k then x else l.getD i d := fun l x d i hkl => by
    simp only [List.getD, List.getElem?_set]
    by_cases hik : k = i
    · subst hik; simp [hkl]
    · simp [hik, Ne.symm hik]
  refine ⟨by simp [h1], by simp [h2], ?_, fun i hi => ?_⟩
  · rw [List.nodup_iff_pairwise_ne, List.pairwise_iff_getElem]
    intro i j hi hj hij
    rw [List.length_set] at hi hj
    rw [List.nodup_iff_pairwise_ne, List.pairwise_iff_getElem] at h3
    have e : ∀ q (hq : q < gs.length), gs.getD q 0 = gs[q] := fun q hq => by simp [List.getD, hq]
    rw [List.getElem_set, List.getElem_set]
    by_cases hik : k = i
    · rw [if_pos hik, if_neg (by omega), ← e j hj]
      exact fun he => hne j (by omega) (by omega) he.symm
    · rw [if_neg hik]
      by_cases hjk : k = j
      · rw [if_pos hjk, ← e i hi]; exact hne i (by omega) (by omega)
      · rw [if_neg hjk]; exact h3 i j hi hj hij
  · rw [List.length_set] at hi
    rw [gset gs _ _ _ (by omega), gset vs _ _ _ (by omega), gset rows _ _ _ hk]
    by_cases hik : i = k
    · rw [if_pos hik, if_pos hik, if_pos hik]; exact ⟨hb, hr⟩
    · rw [if_neg hik, if_neg hik, if_neg hik]
      obtain ⟨q1, cap, rest, q2, q3, q4, q5⟩ := h4 i hi
      exact ⟨q1, cap, rest, q2, q3, q4, by rw [hkeep i hi hik]; exact q5⟩
theorem RowsAt.ne {w : World} {base : Nat} {vs : List Value} {gs : List Nat} {rows : List (List C)} (h : RowsAt w base vs gs rows) (i k : Nat) (hi : i < rows.length) (hk : k < rows.length) (hne : i ≠ k) : gs.getD i 0 ≠ gs.getD k 0 := by
  obtain ⟨h1, h2, h3, h4⟩ := h
  rw [List.nodup_iff_pairwise_ne, List.pairwise_iff_getElem] at h3
  have e : ∀ q (hq : q < gs.length), gs.getD q 0 = gs[q] := fun q hq => by simp [List.getD, hq]
  rw [e i (by omega), e k (by omega)]
  rcases Nat.lt_or_ge i k with h | h
  · exact h3 i k (by omega) (by omega) h
  · exact fun q => h3 k i (by omega) (by omega) (by omega) q.symm
theorem limit_same (n : Int) (w : World) : Calls Tryd.prog 32 #[.int .i64 n] w fun e w' => e = .returned (.int .i64 (nearI n)) ∧ w' = w := (limit_any n w).mono fun _ _ h => ⟨by rw [h.1, limit_near], h.2.symm⟩
theorem inside_iff (p l : Int) (size x : Nat) (hx : x < size) : inside p l size x = decide (nearI p ≤ (x : Int) ∧ (x : Int) < nearI p + max 0 (nearI l)) := by
  unfold inside; rw [decide_eq_decide]; omega
end Grd
end Go.Proofs.YtknpolbnoppofaaDoor
