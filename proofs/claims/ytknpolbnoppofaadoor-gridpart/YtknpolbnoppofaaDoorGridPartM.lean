/- Plain mathematics: a part of a grid, row by row. -/
import Derived.Test.YtknpolbnoppofaaDoorGridLayMath
namespace Go.Proofs.YtknpolbnoppofaaDoor
namespace Grd
/-- A part of a row. -/
def cutRow (m rx n : Nat) (fs : List C) (y : Nat) : List C := ((rowAt m fs y).drop rx).take n
/-- The first k rows of a part, each mended. -/
def partRows (m rx ry n : Nat) (fs : List C) (k : Nat) : List (List C) := (List.range k).map fun i => mendL (cutRow m rx n fs (ry + i))
theorem partRows_succ (m rx ry n : Nat) (fs : List C) (k : Nat) : partRows m rx ry n fs (k + 1) = partRows m rx ry n fs k ++ [mendL (cutRow m rx n fs (ry + k))] := by simp [partRows, List.range_succ]
theorem partRows_len (m rx ry n : Nat) (fs : List C) (k : Nat) : (partRows m rx ry n fs k).length = k := by simp [partRows]
theorem cutRow_len (m p rx n : Nat) (fs : List C) (y : Nat) (hL : fs.length = m * p) (hy : y < p) (hx : rx + n ≤ m) : (cutRow m rx n fs y).length = n := by
  unfold cutRow
  rw [List.length_take, List.length_drop, row_len m p fs y hL hy]
  omega
theorem partRows_at (m p rx ry n hh : Nat) (fs : List C) (hL : fs.length = m * p) (hx : rx + n ≤ m) (hy : ry + hh ≤ p) (i : Nat) (hi : i < (partRows m rx ry n fs hh).length) : ((partRows m rx ry n fs hh).getD i []).length = n := by
  rw [partRows_len] at hi
  have : (partRows m rx ry n fs hh).getD i [] = mendL (cutRow m rx n fs (ry + i)) := by simp [partRows, List.getD, hi]
  rw [this, mendL_len, cutRow_len m p rx n fs _ hL (by omega) hx]
theorem put_cut (row fr : List C) (m rx n : Nat) (hr : row.length = n) (hf : fr.length = m) (hx : rx + n ≤ m) : putRow row (layP m (-(rx : Int))) (layF fr (-(rx : Int))) = (fr.drop rx).take n := by
  refine List.ext_getElem ?_ fun x h1 h2 => ?_
  · rw [putRow_len, List.length_take, List.length_drop]
    omega
  · rw [putRow_len] at h1
    have e := putRow_at row (layP m (-(rx : Int))) (layF fr (-(rx : Int))) x h1
    have hp : layP m (-(rx : Int)) x = true := by unfold layP; rw [decide_eq_true_eq]; omega
    rw [hp, if_pos rfl] at e
    have hi : ((x : Int) - -(rx : Int)).toNat = rx + x := by omega
    unfold layF at e
    rw [hi] at e
    have hlt : rx + x < fr.length := by omega
    have l2 : (putRow row (layP m (-(rx : Int))) (layF fr (-(rx : Int)))).getD x z0 = (putRow row (layP m (-(rx : Int))) (layF fr (-(rx : Int))))[x]'(by rw [putRow_len]; exact h1) := by
      rw [List.getD, List.getElem?_eq_getElem (by rw [putRow_len]; exact h1)]
      rfl
    have l3 : fr.getD (rx + x) z0 = fr[rx + x] := by
      rw [List.getD, List.getElem?_eq_getElem hlt]
      rfl
    have e2 := l2.symm.trans (e.trans l3)
    refine e2.trans ?_
    rw [List.getElem_take, List.getElem_drop]
theorem part_rows (m p rx ry n hh : Nat) (fs : List C) (hL : fs.length = m * p) (hx : rx + n ≤ m) (hy : ry + hh ≤ p) : layG n hh (newL n hh) m p fs (-(rx : Int)) (-(ry : Int)) = (partRows m rx ry n fs hh).flatten := by
  have key : ∀ k, k ≤ hh → preF n (newL n hh) (layFn m p fs (-(rx : Int)) (-(ry : Int))) k = (partRows m rx ry n fs k).flatten := by
    intro k
    induction k with
    | zero => intro _; simp [preF, partRows]
    | succ k ih =>
      intro hk
      show preF n (newL n hh) (layFn m p fs (-(rx : Int)) (-(ry : Int))) k ++ layFn m p fs (-(rx : Int)) (-(ry : Int)) k (rowAt n (newL n hh) k) = _
      rw [ih (by omega), partRows_succ, List.flatten_append]
      congr 1
      have hi : ((k : Int) - -(ry : Int)).toNat = ry + k := by omega
      unfold layFn
      rw [if_pos (by omega), hi, put_cut _ _ m rx n (row_len n hh _ k (newL_len n hh) (by omega)) (row_len m p fs _ hL (by omega)) hx]
      simp [cutRow]
  exact key hh (Nat.le_refl _)
end Grd
end Go.Proofs.YtknpolbnoppofaaDoor
