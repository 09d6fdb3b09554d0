/- Plain mathematics: splits as forests; which are right ones, and what panes they have. -/
import Derived.WalkKit
namespace Go.Proofs.YtckkbmgdaplaaaaDoor
namespace Spl
/-- Trees beside each other: the first one's way, pane and size, its kids, and the trees behind it. -/
inductive Fo where
  | nil : Fo
  | cons (wy pn sz : Int) (ks rs : Fo) : Fo
  deriving DecidableEq
namespace Fo
def len : Fo → Nat
  | nil => 0
  | cons _ _ _ _ rs => rs.len + 1
def cnt : Fo → Nat
  | nil => 0
  | cons _ _ _ ks rs => ks.cnt + rs.cnt + 1
def app : Fo → Fo → Fo
  | nil, g => g
  | cons a b c ks rs, g => cons a b c ks (rs.app g)
end Fo
open Fo
theorem len_nil {f : Fo} (h : f.len = 0) : f = nil := by
  cases f with
  | nil => rfl
  | cons => simp [len] at h
theorem len_le_cnt : ∀ f : Fo, f.len ≤ f.cnt
  | nil => Nat.le_refl _
  | cons _ _ _ ks rs => by
    have := len_le_cnt rs
    simp only [len, cnt]
    omega
/-- One tree but for its kids: the error (0: none), and the panes met behind it. -/
def part (way wy pn sz : Int) (n : Nat) (met : List Int) : Int × List Int :=
  if ¬ (1 ≤ sz ∧ sz ≤ 9999) then (4, met)
  else if wy = 0 then
    if n ≠ 0 then (5, met) else if ¬ (1 ≤ pn ∧ pn ≤ 9999) then (4, met) else if pn ∈ met then (7, met) else if 12 ≤ met.length then (2, met) else (0, met ++ [pn])
  else if ¬ (wy = 1 ∨ wy = 2) then (5, met) else if wy = way then (5, met) else if n < 2 then (5, met) else if pn ≠ 0 then (5, met) else (0, met)
def chkF (way : Int) : Fo → List Int → Int × List Int
  | nil, met => (0, met)
  | cons wy pn sz ks rs, met =>
    if (part way wy pn sz ks.len met).1 ≠ 0 then part way wy pn sz ks.len met
    else if (chkF wy ks (part way wy pn sz ks.len met).2).1 ≠ 0 then chkF wy ks (part way wy pn sz ks.len met).2
    else chkF way rs (chkF wy ks (part way wy pn sz ks.len met).2).2
/-- What was not gone through yet: the way and the trees of each thing, the innermost first. -/
def chkS : List (Int × Fo) → List Int → Int × List Int
  | [], met => (0, met)
  | (way, f) :: st, met => if (chkF way f met).1 ≠ 0 then chkF way f met else chkS st (chkF way f met).2
def cntS : List (Int × Fo) → Nat
  | [] => 0
  | (_, f) :: st => 2 * f.cnt + 1 + cntS st
theorem chkS_pop (way : Int) (st : List (Int × Fo)) (met : List Int) : chkS ((way, nil) :: st) met = chkS st met := by
  simp [chkS, chkF]
theorem chkS_bad (way wy pn sz : Int) (ks rs : Fo) (st : List (Int × Fo)) (met : List Int) (h : (part way wy pn sz ks.len met).1 ≠ 0) : chkS ((way, cons wy pn sz ks rs) :: st) met = part way wy pn sz ks.len met := by
  have e : chkF way (cons wy pn sz ks rs) met = part way wy pn sz ks.len met := by rw [chkF, if_pos h]
  rw [chkS, e, if_pos h]
theorem chkS_go (way wy pn sz : Int) (ks rs : Fo) (st : List (Int × Fo)) (met : List Int) (h : (part way wy pn sz ks.len met).1 = 0) : chkS ((way, cons wy pn sz ks rs) :: st) met = chkS ((wy, ks) :: (way, rs) :: st) (part way wy pn sz ks.len met).2 := by
  have e : chkF way (cons wy pn sz ks rs) met = if (chkF wy ks (part way wy pn sz ks.len met).2).1 ≠ 0 then chkF wy ks (part way wy pn sz ks.len met).2 else chkF way rs (chkF wy ks (part way wy pn sz ks.len met).2).2 := by rw [chkF, if_neg (by simp [h])]
  rw [chkS, e, chkS]
  by_cases h2 : (chkF wy ks (part way wy pn sz ks.len met).2).1 ≠ 0
  · rw [if_pos h2, if_pos h2, if_pos h2]
  · rw [if_neg h2, if_neg h2, chkS]
theorem part_len (way wy pn sz : Int) (n : Nat) (met : List Int) (h : met.length ≤ 12) : (part way wy pn sz n met).2.length ≤ 12 := by
  unfold part
  repeat' split
  all_goals (try simp) <;> omega
theorem part_nodup (way wy pn sz : Int) (n : Nat) (met : List Int) (h : met.Nodup) : (part way wy pn sz n met).2.Nodup := by
  unfold part
  repeat' split
  all_goals (try exact h)
  rename_i h1 _
  rw [List.nodup_append]
  refine ⟨h, by simp, ?_⟩
  intro a ha b hb
  rw [List.mem_singleton] at hb
  subst hb
  intro e
  subst e
  exact h1 ha
def szS : List (Int × Fo) → Nat
  | [] => 0
  | (_, f) :: st => f.cnt + 1 + szS st
theorem szS_len : ∀ st : List (Int × Fo), st.length ≤ szS st
  | [] => Nat.le_refl _
  | (_, f) :: st => by
    have := szS_len st
    simp only [szS, List.length_cons]
    omega
/-- A tree, alone. -/
def chk (t : Fo) : Int × List Int := chkF (-1) t []
end Spl
end Go.Proofs.YtckkbmgdaplaaaaDoor
