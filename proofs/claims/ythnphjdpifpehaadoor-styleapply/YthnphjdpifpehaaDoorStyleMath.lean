/- What numbers make of a style keeps it a style. -/
import Derived.Test.YthnphjdpifpehaaDoorStyleWrite
namespace Go.Proofs.YthnphjdpifpehaaDoor
namespace Sty
theorem bits_in : ∀ y : Fin 128, ∀ k ∈ looks, (0 ≤ bits .or .i64 (y.1 : Int) k.2.2 ∧ bits .or .i64 (y.1 : Int) k.2.2 ≤ 127) ∧ (0 ≤ bits .andNot .i64 (y.1 : Int) k.2.2 ∧ bits .andNot .i64 (y.1 : Int) k.2.2 ≤ 127) := by decide +kernel
theorem step_in (n y : Int) (k : Int × Int × Int) (hk : k ∈ looks) (h0 : 0 ≤ y) (h1 : y ≤ 127) : 0 ≤ step n y k ∧ step n y k ≤ 127 := by
  have key : ∀ z : Int, 0 ≤ z → z ≤ 127 → (0 ≤ bits .or .i64 z k.2.2 ∧ bits .or .i64 z k.2.2 ≤ 127) ∧ (0 ≤ bits .andNot .i64 z k.2.2 ∧ bits .andNot .i64 z k.2.2 ≤ 127) := by
    intro z hz0 hz1
    have h := bits_in ⟨z.toNat, by omega⟩ k hk
    simp only [show ((z.toNat : Nat) : Int) = z by omega] at h
    exact h
  unfold step
  split
  · split
    · exact (key _ (key y h0 h1).1.1 (key y h0 h1).1.2).2
    · exact (key y h0 h1).2
  · split
    · exact (key y h0 h1).1
    · exact ⟨h0, h1⟩
theorem fold_in (n : Int) : ∀ (l : List (Int × Int × Int)) (y : Int), (∀ k ∈ l, k ∈ looks) → 0 ≤ y → y ≤ 127 → 0 ≤ l.foldl (step n) y ∧ l.foldl (step n) y ≤ 127
  | [], y, _, h0, h1 => ⟨h0, h1⟩
  | k :: l, y, hl, h0, h1 => by
    have h := step_in n y k (hl k (by simp)) h0 h1
    exact fold_in n l _ (fun k hk => hl k (by simp [hk])) h.1 h.2
theorem sc_in (n : Int) : 0 ≤ (sc n).1 ∧ (sc n).1 ≤ 16 := by
  unfold sc
  repeat' split
  all_goals (constructor <;> simp <;> omega)
theorem isSt_iff (s : Int × Int × Int) : isSt s = true ↔ (0 ≤ s.1 ∧ s.1 ≤ 256 ∧ 0 ≤ s.2.1 ∧ s.2.1 ≤ 256 ∧ 0 ≤ s.2.2 ∧ s.2.2 ≤ 127) := by simp [isSt]
theorem one_keeps (s : Int × Int × Int) (n : Int) (h : isSt s = true) : isSt (one s n) = true := by
  rw [isSt_iff] at h ⊢
  unfold one
  split
  · simp
  · have h1 := sc_in n
    have h2 := sc_in (n - 10)
    have h3 := fold_in n looks s.2.2 (fun _ h => h) h.2.2.2.2.1 h.2.2.2.2.2
    refine ⟨?_, ?_, ?_, ?_, h3.1, h3.2⟩ <;> (dsimp only; split <;> omega)
theorem lng_keeps (s : Int × Int × Int) (a n : Int) (h : isSt s = true) : isSt (lng s a n) = true := by
  rw [isSt_iff] at h ⊢
  unfold lng
  split
  · exact h
  · split
    · exact ⟨by dsimp only; omega, by dsimp only; omega, h.2.2⟩
    · exact ⟨h.1, h.2.1, by dsimp only; omega, by dsimp only; omega, h.2.2.2.2⟩
theorem applyL_keeps : ∀ (m : Nat) (l : List Int) (s : Int × Int × Int), l.length ≤ m → isSt s = true → isSt (applyL s l) = true
  | _, [], s, _, h => h
  | 0, _ :: _, _, hl, _ => by simp at hl
  | m + 1, a :: l, s, hl, h => by
    by_cases hg : isLg (a :: l) = true
    · rw [applyL_long s _ hg]
      exact applyL_keeps m _ _ (by simp at hl ⊢; omega) (lng_keeps _ _ _ h)
    · rw [applyL_one s a l (by simpa using hg)]
      exact applyL_keeps m _ _ (by simp at hl ⊢; omega) (one_keeps _ _ h)
theorem applyT_keeps (l : List Int) (s : Int × Int × Int) (h : isSt s = true) : isSt (applyT s l) = true := by
  unfold applyT
  split
  · rfl
  · exact applyL_keeps _ l s (Nat.le_refl _) h
theorem look_apply : applyT (0, 0, 0) [1, 41] = (0, 2, 1) := by
  have h : isLg [1, 41] = false := rfl
  unfold applyT
  rw [if_neg (by simp), applyL_one _ _ _ h, applyL_one _ _ _ rfl]
  decide +kernel
theorem dig1 : Lib.itoa 1 = [49] := by
  unfold Lib.itoa
  rw [if_neg (by decide), Lib.decDigits, dif_pos (by decide)]
  decide +kernel
theorem dig41 : Lib.itoa 41 = [52, 49] := by
  unfold Lib.itoa
  rw [if_neg (by decide), Lib.decDigits, dif_neg (by decide), Lib.decDigits, dif_pos (by decide)]
  decide +kernel
theorem look_write : writeL [1, 41] = [27, 91, 49, 59, 52, 49, 109] := by
  unfold writeL
  rw [if_neg (by simp)]
  simp [numsL, dig1, dig41]
end Sty
end Go.Proofs.YthnphjdpifpehaaDoor
