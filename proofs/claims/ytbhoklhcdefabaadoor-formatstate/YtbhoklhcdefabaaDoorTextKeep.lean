/- Plain mathematics on cut texts: what is kept, what is left, blanks behind. No program is named. -/
import Derived.Test.YtbhoklhcdefabaaDoorTextList
namespace Go.Proofs.YtbhoklhcdefabaaDoor
namespace Txt

theorem rl_nil (f : Nat) : rl f [] = [] := by cases f <;> rfl
theorem rl_cons (f : Nat) (l : List UInt8) (h : l ≠ []) : rl (f + 1) l = (((dec l).1 : Int), (dec l).2) :: rl f (l.drop (dec l).2) := by
  simp [rl, h]
theorem length_pos_of_ne {l : List UInt8} (h : l ≠ []) : 1 ≤ l.length := by cases l <;> simp_all
/-- How many rounds one allows makes no difference, if they are enough. -/
theorem rl_fuel : ∀ (f g : Nat) (l : List UInt8), l.length ≤ f → l.length ≤ g → rl f l = rl g l
  | f, g, [], _, _ => by rw [rl_nil, rl_nil]
  | 0, _, x :: t, hf, _ => by simp at hf
  | _ + 1, 0, x :: t, _, hg => by simp at hg
  | f + 1, g + 1, x :: t, hf, hg => by
    rw [rl_cons f _ (by simp), rl_cons g _ (by simp)]
    have hp := dec_pos (x :: t)
    rw [rl_fuel f g _ (by simp only [List.length_drop]; simp at hf ⊢; omega) (by simp only [List.length_drop]; simp at hg ⊢; omega)]
theorem rn_nil : rn [] = [] := rfl
theorem rn_cons (l : List UInt8) (h : l ≠ []) : rn l = (((dec l).1 : Int), (dec l).2) :: rn (l.drop (dec l).2) := by
  unfold rn
  have h1 := length_pos_of_ne h
  have hp := dec_pos l
  rw [show l.length = (l.length - 1) + 1 from by omega, rl_cons _ _ h]
  rw [rl_fuel (l.length - 1) (l.drop (dec l).2).length _ (by simp only [List.length_drop]; omega) (Nat.le_refl _)]

theorem wideL_append : ∀ a b : List (Int × Nat), wideL (a ++ b) = wideL a + wideL b
  | [], b => by simp [wideL]
  | x :: t, b => by simp only [List.cons_append, wideL, wideL_append t b]; omega

/-- The runes that are kept by a cut, and those that are left. -/
def keepL (n : Int) : List (Int × Nat) → Int → List (Int × Nat)
  | [], _ => []
  | x :: t, w => if n < w + wd x.1 then [] else x :: keepL n t (w + wd x.1)
def leftL (n : Int) : List (Int × Nat) → Int → List (Int × Nat)
  | [], _ => []
  | x :: t, w => if n < w + wd x.1 then x :: t else leftL n t (w + wd x.1)
theorem keep_left (n : Int) : ∀ (l : List (Int × Nat)) (w : Int), keepL n l w ++ leftL n l w = l
  | [], _ => rfl
  | x :: t, w => by
    unfold keepL leftL
    split
    · rfl
    · simp [keep_left n t]
theorem keep_wide (n : Int) : ∀ (l : List (Int × Nat)) (w : Int), w ≤ n → w + wideL (keepL n l w) ≤ n
  | [], w, h => by simpa [keepL, wideL] using h
  | x :: t, w, h => by
    unfold keepL
    split
    · simpa [wideL] using h
    · have := keep_wide n t (w + wd x.1) (by omega)
      simp only [wideL]
      omega
theorem keep_neg (n : Int) (h : n < 0) (l : List (Int × Nat)) : keepL n l 0 = [] ∧ cutL n l 0 = 0 := by
  cases l with
  | nil => exact ⟨rfl, rfl⟩
  | cons x t =>
    have := wd_range x.1
    unfold keepL cutL
    rw [if_pos (by omega), if_pos (by omega)]
    exact ⟨rfl, rfl⟩
theorem keep_again (n : Int) : ∀ (l : List (Int × Nat)) (w : Int), cutL n (keepL n l w) w = cutL n l w
  | [], _ => rfl
  | x :: t, w => by
    unfold keepL
    by_cases h : n < w + wd x.1
    · simp [cutL, h]
    · simp [cutL, h, keep_again n t]
theorem cut_le (n : Int) : ∀ (l : List UInt8) (w : Int), cutL n (rn l) w ≤ l.length := by
  intro l
  generalize hk : l.length = k
  induction k using Nat.strongRecOn generalizing l with
  | ind k ih =>
    intro w
    by_cases hl : l = []
    · subst hl; simp [rn_nil, cutL]
    · have h1 := dec_le l hl
      have h2 := dec_pos l
      rw [rn_cons l hl]
      unfold cutL
      split
      · omega
      · have := ih (l.drop (dec l).2).length (by simp only [List.length_drop]; omega) (l.drop (dec l).2) rfl (w + wd (dec l).1)
        simp only [List.length_drop] at this
        simp only
        omega
/-- A text that is cut has the runes that are kept; the rest has those that are left. -/
theorem cut_runes (n : Int) : ∀ (l : List UInt8) (w : Int), rn (l.take (cutL n (rn l) w)) = keepL n (rn l) w ∧ rn (l.drop (cutL n (rn l) w)) = leftL n (rn l) w := by
  intro l
  generalize hk : l.length = k
  induction k using Nat.strongRecOn generalizing l with
  | ind k ih =>
    intro w
    by_cases hl : l = []
    · subst hl; exact ⟨rfl, rfl⟩
    · have h1 := dec_le l hl
      have h2 := dec_pos l
      rw [rn_cons l hl]
      unfold cutL keepL leftL
      by_cases hn : n < w + wd (dec l).1
      · simp only [hn, if_true]
        refine ⟨by simp [rn_nil], ?_⟩
        rw [List.drop_zero, rn_cons l hl]
      · simp only [hn, if_false]
        have hi := ih (l.drop (dec l).2).length (by simp only [List.length_drop]; omega) (l.drop (dec l).2) rfl (w + wd (dec l).1)
        have hc := cut_le n (l.drop (dec l).2) (w + wd (dec l).1)
        generalize hq : cutL n (rn (l.drop (dec l).2)) (w + wd (dec l).1) = q at *
        have hd : dec (l.take ((dec l).2 + q)) = dec l := by
          have := dec_prefix (l.take ((dec l).2 + q)) (l.drop ((dec l).2 + q)) (by
            intro e
            have := congrArg List.length e
            simp only [List.length_take, List.length_nil] at this
            have := length_pos_of_ne hl
            omega) (by rw [List.take_append_drop]; simp only [List.length_take]; omega)
          rwa [List.take_append_drop] at this
        have hne : l.take ((dec l).2 + q) ≠ [] := by
          intro e
          have := congrArg List.length e
          simp only [List.length_take, List.length_nil] at this
          have := length_pos_of_ne hl
          omega
        constructor
        · rw [rn_cons _ hne, hd, ← hi.1, List.drop_take]
          rw [show (dec l).2 + q - (dec l).2 = q from by omega]
        · rw [← hi.2, List.drop_drop]

/-- Cutting twice is cutting once. -/
theorem cut_again (n : Int) (l : List UInt8) : (l.take (cutL n (rn l) 0)).take (cutL n (rn (l.take (cutL n (rn l) 0))) 0) = l.take (cutL n (rn l) 0) := by
  rw [(cut_runes n l 0).1, keep_again, List.take_take, Nat.min_self]

/-- Bytes below 128 behind a text: its last rune stays as it is. -/
theorem decN_behind (n m b0 b1 b2 b3 c1 c2 c3 : Nat) (hn : n ≤ m) (hp : 1 ≤ n) (h1 : 1 < n → c1 = b1) (h2 : 2 < n → c2 = b2) (h3 : 3 < n → c3 = b3)
    (g1 : ¬ 1 < n → c1 < 128) (g2 : ¬ 2 < n → c2 < 128) (g3 : ¬ 3 < n → c3 < 128) : Lib.decodeN m b0 c1 c2 c3 = Lib.decodeN n b0 b1 b2 b3 := by
  unfold Lib.decodeN
  by_cases a : b0 < 128
  · simp [a]
  · simp only [if_neg a]
    by_cases k1 : 1 < n
    · rw [h1 k1]
      by_cases k2 : 2 < n
      · rw [h2 k2]
        by_cases k3 : 3 < n
        · rw [h3 k3]
          simp only [k1, k2, k3, show 1 < m by omega, show 2 < m by omega, show 3 < m by omega]
        · have e3 : ¬ c3 / 64 = 2 := by have := g3 k3; omega
          simp only [k1, k2, k3, show 1 < m by omega, show 2 < m by omega, e3, false_and, and_false, if_false]
      · have e2 : ¬ c2 / 64 = 2 := by have := g2 k2; omega
        have k3 : ¬ 3 < n := by omega
        simp only [k1, k2, k3, show 1 < m by omega, e2, false_and, and_false, if_false]
    · have e1 : ¬ c1 / 64 = 2 := by have := g1 k1; omega
      have k2 : ¬ 2 < n := by omega
      have k3 : ¬ 3 < n := by omega
      simp only [k1, k2, k3, e1, false_and, and_false, if_false]
theorem dec_behind (a b : List UInt8) (ha : a ≠ []) (hb : ∀ x ∈ b, x.toNat < 128) : dec (a ++ b) = dec a := by
  have hl := length_pos_of_ne ha
  have hg : ∀ k, k < a.length → (a ++ b).getD k 0 = a.getD k 0 := by
    intro k hk
    rw [List.getD_eq_getElem?_getD, List.getD_eq_getElem?_getD, List.getElem?_append_left hk]
  have hs : ∀ k, ¬ k < a.length → ((a ++ b).getD k 0).toNat < 128 := by
    intro k hk
    rw [List.getD_eq_getElem?_getD, List.getElem?_append_right (by omega)]
    cases hq : b[k - a.length]? with
    | none => simp
    | some x => exact hb x (List.mem_of_getElem? hq)
  unfold dec
  rw [hg 0 (by omega)]
  exact decN_behind _ _ _ _ _ _ _ _ _ (by simp) hl (fun k => by rw [hg 1 k]) (fun k => by rw [hg 2 k]) (fun k => by rw [hg 3 k]) (hs 1) (hs 2) (hs 3)
theorem rn_behind : ∀ (a b : List UInt8), (∀ x ∈ b, x.toNat < 128) → rn (a ++ b) = rn a ++ rn b := by
  intro a
  generalize hk : a.length = k
  induction k using Nat.strongRecOn generalizing a with
  | ind k ih =>
    intro b hb
    by_cases ha : a = []
    · subst ha; simp [rn_nil]
    · have h1 := dec_le a ha
      have h2 := dec_pos a
      rw [rn_cons (a ++ b) (by simp [ha]), dec_behind a b ha hb, List.drop_append_of_le_length h1, rn_cons a ha]
      rw [ih (a.drop (dec a).2).length (by simp only [List.length_drop]; omega) (a.drop (dec a).2) rfl b hb]
      rfl
theorem rn_blank (k : Nat) : rn (List.replicate k 32) = List.replicate k (32, 1) := by
  induction k with
  | zero => rfl
  | succ k ih =>
    rw [List.replicate_succ, rn_cons _ (by simp)]
    have hd : dec (32 :: List.replicate k 32) = (32, 1) := by
      unfold dec
      rw [decN_ascii _ _ _ _ _ (by simp)]
      rfl
    rw [hd, List.replicate_succ]
    simp only [List.drop_succ_cons, List.drop_zero, ih]
    rfl
theorem wide_blank : ∀ k : Nat, wideL (List.replicate k ((32 : Int), 1)) = k
  | 0 => rfl
  | k + 1 => by
    rw [List.replicate_succ]
    simp only [wideL, wide_blank k]
    rw [show wd 32 = 1 from by decide]
    omega

/-- A text that is cut, then filled with blanks. -/
def fitL (l : List UInt8) (n : Int) : List UInt8 := l.take (cutL n (rn l) 0) ++ List.replicate (n - wideL (rn (l.take (cutL n (rn l) 0)))).toNat 32
theorem cut_wide (n : Int) (h : 0 ≤ n) (l : List UInt8) : 0 ≤ wideL (rn (l.take (cutL n (rn l) 0))) ∧ wideL (rn (l.take (cutL n (rn l) 0))) ≤ n := by
  rw [(cut_runes n l 0).1]
  have := keep_wide n (rn l) 0 h
  have := wideL_range (keepL n (rn l) 0)
  omega
theorem fit_wide (n : Int) (h : 0 ≤ n) (l : List UInt8) : wideL (rn (fitL l n)) = n := by
  unfold fitL
  rw [rn_behind _ _ (by intro x hx; rw [List.eq_of_mem_replicate hx]; decide), wideL_append, rn_blank, wide_blank]
  have := cut_wide n h l
  omega
/-- What fits wholly is not cut. -/
theorem cut_all (n : Int) : ∀ (l : List UInt8) (w : Int), w + wideL (rn l) ≤ n → cutL n (rn l) w = l.length := by
  intro l
  generalize hk : l.length = k
  induction k using Nat.strongRecOn generalizing l with
  | ind k ih =>
    intro w hw
    by_cases hl : l = []
    · subst hl; simp at hk; simp [rn_nil, cutL, hk]
    · have h1 := dec_le l hl
      have h2 := dec_pos l
      rw [rn_cons l hl] at hw ⊢
      simp only [wideL] at hw
      have hr := wideL_range (rn (l.drop (dec l).2))
      unfold cutL
      rw [if_neg (by simp only; omega)]
      have := ih (l.drop (dec l).2).length (by simp only [List.length_drop]; omega) (l.drop (dec l).2) rfl (w + wd (dec l).1) (by omega)
      simp only [List.length_drop] at this
      simp only
      omega
theorem fit_again (n : Int) (h : 0 ≤ n) (l : List UInt8) : (fitL l n).take (cutL n (rn (fitL l n)) 0) = fitL l n := by
  rw [cut_all n (fitL l n) 0 (by rw [fit_wide n h l]; omega), List.take_length]
theorem cut_parts (n : Int) (l : List UInt8) : wideL (rn (l.take (cutL n (rn l) 0))) + wideL (rn (l.drop (cutL n (rn l) 0))) = wideL (rn l) := by
  rw [(cut_runes n l 0).1, (cut_runes n l 0).2, ← wideL_append, keep_left]
theorem cut_small (n : Int) (l : List UInt8) : n < 0 ∨ wideL (rn (l.take (cutL n (rn l) 0))) ≤ n := by
  by_cases h : n < 0
  · exact Or.inl h
  · exact Or.inr (cut_wide n (by omega) l).2
end Txt
end Go.Proofs.YtbhoklhcdefabaaDoor
