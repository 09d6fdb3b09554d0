/- What the reference's CheckGrid says, over lists: the same as grid.Check. -/
import Derived.Test.YtinhmklpnkikgabDoorGridCells
namespace Go.Proofs.YtinhmklpnkikgabDoor
namespace Grd
open Txt (wd)
open Sty (isSt)
/-- What the reference says of the cell i of a grid of width n. -/
def cellR (n : Nat) (cs : List C) (i : Nat) : Int :=
  if ((cs.getD i z0).1 ≠ 0 ∧ wd (cs.getD i z0).1 = 0) ∨ isSt (cs.getD i z0).2 = false then 4
  else if (cs.getD i z0).1 = 0 ∧ (i % n = 0 ∨ wd (cs.getD (i - 1) z0).1 ≠ 2 ∨ (cs.getD (i - 1) z0).2 ≠ (cs.getD i z0).2) then 5
  else if wd (cs.getD i z0).1 = 2 ∧ (i % n + 1 = n ∨ (cs.getD (i + 1) z0).1 ≠ 0) then 5 else 0
theorem first_append (f : Nat → Int) : ∀ (a k b : Nat), firstErr f k (a + b) = if firstErr f k a = 0 then firstErr f (k + a) b else firstErr f k a
  | 0, k, b => by simp [firstErr]
  | a + 1, k, b => by
    rw [show a + 1 + b = (a + b) + 1 by omega]
    show (if f k = 0 then firstErr f (k + 1) (a + b) else f k) = if (if f k = 0 then firstErr f (k + 1) a else f k) = 0 then firstErr f (k + (a + 1)) b else (if f k = 0 then firstErr f (k + 1) a else f k)
    by_cases h : f k = 0
    · simp only [if_pos h]
      rw [first_append f a (k + 1) b, show k + 1 + a = k + (a + 1) by omega]
    · simp only [if_neg h]
theorem first_congr (f g : Nat → Int) : ∀ (m k j : Nat), (∀ i, i < m → f (k + i) = g (j + i)) → firstErr f k m = firstErr g j m
  | 0, _, _, _ => rfl
  | m + 1, k, j, h => by
    have h0 := h 0 (by omega)
    simp only [Nat.add_zero] at h0
    have ih := first_congr f g m (k + 1) (j + 1) (fun i hi => by
      have := h (i + 1) (by omega)
      rwa [show k + (i + 1) = k + 1 + i by omega, show j + (i + 1) = j + 1 + i by omega] at this)
    show (if f k = 0 then firstErr f (k + 1) m else f k) = if g j = 0 then firstErr g (j + 1) m else g j
    rw [h0, ih]
theorem first_flat (f : Nat → Int) (g : Nat → Int) (n : Nat) : ∀ (m : Nat), (∀ y, y < m → f y = firstErr g (y * n) n) → firstErr f 0 m = firstErr g 0 (n * m)
  | 0, _ => rfl
  | m + 1, h => by
    have ih := first_flat f g n m (fun y hy => h y (by omega))
    rw [first_append f m 0 1, Nat.mul_add, first_append g (n * m) 0 (n * 1), ih, Nat.zero_add, Nat.zero_add, Nat.mul_one, Nat.mul_comm n m, ← h m (by omega)]
    have : firstErr f m 1 = f m := by
      show (if f m = 0 then 0 else f m) = f m
      split
      · rename_i h; exact h.symm
      · rfl
    rw [this]
theorem wd0 : wd 0 = 0 := by decide +kernel
theorem cell_same (n hh : Nat) (cs : List C) (hL : cs.length = n * hh) (y x : Nat) (hy : y < hh) (hx : x < n) : cellErr (rowAt n cs y) x = cellR n cs (y * n + x) := by
  have hf : (y + 1) * n ≤ n * hh := by rw [Nat.mul_comm n hh]; exact Nat.mul_le_mul_right _ hy
  rw [Nat.add_mul, Nat.one_mul] at hf
  have hlen : (rowAt n cs y).length = n := by
    unfold rowAt
    rw [List.length_take, List.length_drop, hL]
    omega
  have hg : ∀ j, j < n → (rowAt n cs y).getD j z0 = cs.getD (y * n + j) z0 := fun j hj => by
    unfold rowAt
    rw [getD_take _ _ _ hj, getD_drop]
  have hmod : (y * n + x) % n = x := by
    rw [Nat.mul_comm, Nat.mul_add_mod]
    exact Nat.mod_eq_of_lt hx
  unfold cellErr cellR loose
  rw [hlen, hg x hx, hmod]
  generalize cs.getD (y * n + x) z0 = c at *
  by_cases h4 : (c.1 ≠ 0 ∧ wd c.1 = 0) ∨ isSt c.2 = false
  · rw [if_pos h4, if_pos h4]
  · rw [if_neg h4, if_neg h4]
    by_cases hr : c.1 = 0
    · rw [if_pos hr]
      have w0 : ¬ wd c.1 = 2 := by rw [hr, wd0]; omega
      by_cases hx0 : x = 0
      · rw [if_pos (by simp [hx0]), if_pos ⟨hr, Or.inl hx0⟩]
      · rw [hg (x - 1) (by omega), show y * n + (x - 1) = y * n + x - 1 by omega]
        generalize cs.getD (y * n + x - 1) z0 = p at *
        by_cases hq : wd p.1 ≠ 2 ∨ p.2 ≠ c.2
        · rw [if_pos, if_pos ⟨hr, Or.inr hq⟩]
          rcases hq with hq | hq
          · left; simp [hq]
          · right; exact ⟨hr, fun e => hq e.symm⟩
        · rw [if_neg, if_neg (fun h => hq (h.2.resolve_left hx0)), if_neg (fun h => w0 h.1)]
          rintro (h | h)
          · simp [hx0] at h
            exact hq (Or.inl h)
          · exact hq (Or.inr (fun e => h.2 e.symm))
    · rw [if_neg hr, if_neg (show ¬ (c.1 = 0 ∧ (x = 0 ∨ wd (cs.getD (y * n + x - 1) z0).1 ≠ 2 ∨ (cs.getD (y * n + x - 1) z0).2 ≠ c.2)) from fun h => hr h.1)]
      by_cases hl : x + 1 = n
      · by_cases h2 : wd c.1 = 2
        · rw [if_pos (by left; simp [h2, hl]), if_pos ⟨h2, Or.inl hl⟩]
        · rw [if_neg, if_neg (fun h => h2 h.1)]
          rintro (h | h)
          · simp [h2] at h
          · exact hr h.1
      · rw [hg (x + 1) (by omega), show y * n + (x + 1) = y * n + x + 1 by omega]
        generalize cs.getD (y * n + x + 1) z0 = q at *
        by_cases h2 : wd c.1 = 2 ∧ q.1 ≠ 0
        · rw [if_pos (by left; simp [h2.1, h2.2]), if_pos ⟨h2.1, Or.inr h2.2⟩]
        · rw [if_neg, if_neg (fun h => h2 ⟨h.1, h.2.resolve_left hl⟩)]
          rintro (h | h)
          · simp [hl] at h
            exact h2 h
          · exact hr h.1
/-- grid.Check and the reference's CheckGrid say the same. -/
theorem errs_same (n hh : Nat) (cs : List C) (hL : cs.length = n * hh) : firstErr (fun y => rowErr (rowAt n cs y)) 0 hh = firstErr (cellR n cs) 0 (n * hh) := by
  refine first_flat _ _ n hh (fun y hy => ?_)
  have hf : (y + 1) * n ≤ n * hh := by rw [Nat.mul_comm n hh]; exact Nat.mul_le_mul_right _ hy
  rw [Nat.add_mul, Nat.one_mul] at hf
  have hlen : (rowAt n cs y).length = n := by
    unfold rowAt
    rw [List.length_take, List.length_drop, hL]
    omega
  show rowErr (rowAt n cs y) = _
  unfold rowErr
  rw [hlen]
  exact first_congr _ _ n 0 (y * n) (fun i hi => by rw [Nat.zero_add]; exact cell_same n hh cs hL y i hy hi)
end Grd
end Go.Proofs.YtinhmklpnkikgabDoor
