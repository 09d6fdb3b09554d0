/- Plain mathematics: the panes of splits. -/
import Derived.Test.YtckkbmgdaplaaaaDoorSplM
namespace Go.Proofs.YtckkbmgdaplaaaaDoor
namespace Spl
open Fo
def pnF : Fo → List Int
  | nil => []
  | cons wy pn _ ks rs => (if wy = 0 then [pn] else pnF ks) ++ pnF rs
/-- Each that goes some way has parts. -/
def Rt : Fo → Prop
  | nil => True
  | cons wy _ _ ks rs => (wy = 0 ∨ ks ≠ nil) ∧ Rt ks ∧ Rt rs
theorem pnF_cons (wy pn sz : Int) (ks rs : Fo) : pnF (cons wy pn sz ks rs) = (if wy = 0 then [pn] else pnF ks) ++ pnF rs := rfl
theorem pnF_len : ∀ f : Fo, (pnF f).length ≤ f.cnt
  | nil => Nat.le_refl _
  | cons wy pn sz ks rs => by
    have h1 := pnF_len ks
    have h2 := pnF_len rs
    unfold pnF
    rw [List.length_append]
    split
    · simp [cnt]; omega
    · simp only [cnt]; omega
theorem pnF_ne : ∀ f : Fo, Rt f → f ≠ nil → pnF f ≠ []
  | nil, _, h => absurd rfl h
  | cons wy pn sz ks rs, hr, _ => by
    unfold pnF
    obtain ⟨h1, h2, _⟩ := hr
    by_cases h0 : wy = 0
    · rw [if_pos h0]; simp
    · rw [if_neg h0]
      have := pnF_ne ks h2 (h1.resolve_left h0)
      intro e
      exact this (List.append_eq_nil_iff.1 e).1
theorem part_ok {way wy pn sz : Int} {n : Nat} {met : List Int} (h : (part way wy pn sz n met).1 = 0) : (part way wy pn sz n met).2 = met ++ (if wy = 0 then [pn] else []) ∧ (1 ≤ sz ∧ sz ≤ 9999) ∧ (wy = 0 ∧ n = 0 ∧ 1 ≤ pn ∧ pn ≤ 9999 ∨ (wy = 1 ∨ wy = 2) ∧ wy ≠ way ∧ 2 ≤ n ∧ pn = 0) := by
  unfold part at h ⊢
  by_cases h1 : 1 ≤ sz ∧ sz ≤ 9999
  · rw [if_neg (fun hh => hh h1)] at h ⊢
    by_cases h2 : wy = 0
    · rw [if_pos h2] at h ⊢
      by_cases h3 : n ≠ 0
      · rw [if_pos h3] at h; simp at h
      · rw [if_neg h3] at h ⊢
        by_cases h4 : 1 ≤ pn ∧ pn ≤ 9999
        · rw [if_neg (fun hh => hh h4)] at h ⊢
          by_cases h5 : pn ∈ met
          · rw [if_pos h5] at h; simp at h
          · rw [if_neg h5] at h ⊢
            by_cases h6 : 12 ≤ met.length
            · rw [if_pos h6] at h; simp at h
            · rw [if_neg h6, if_pos h2]
              exact ⟨rfl, h1, .inl ⟨h2, by omega, h4.1, h4.2⟩⟩
        · rw [if_pos h4] at h; simp at h
    · rw [if_neg h2] at h ⊢
      by_cases h3 : wy = 1 ∨ wy = 2
      · rw [if_neg (fun hh => hh h3)] at h ⊢
        by_cases h4 : wy = way
        · rw [if_pos h4] at h; simp at h
        · rw [if_neg h4] at h ⊢
          by_cases h5 : n < 2
          · rw [if_pos h5] at h; simp at h
          · rw [if_neg h5] at h ⊢
            by_cases h6 : pn = 0
            · rw [if_neg (fun hh => hh h6), if_neg h2, List.append_nil]
              exact ⟨rfl, h1, .inr ⟨h3, h4, by omega, h6⟩⟩
            · rw [if_pos h6] at h; simp at h
      · rw [if_pos h3] at h; simp at h
  · rw [if_pos h1] at h; simp at h
theorem chkF_ok : ∀ (f : Fo) (way : Int) (met : List Int), (chkF way f met).1 = 0 → (chkF way f met).2 = met ++ pnF f ∧ Rt f
  | nil, _, met, _ => by simp [chkF, pnF, Rt]
  | cons wy pn sz ks rs, way, met, h => by
    unfold chkF at h ⊢
    by_cases h1 : (part way wy pn sz ks.len met).1 ≠ 0
    · rw [if_pos h1] at h; exact absurd h h1
    · rw [if_neg h1] at h ⊢
      have h1 : (part way wy pn sz ks.len met).1 = 0 := by simpa using h1
      obtain ⟨e1, _, e3⟩ := part_ok h1
      by_cases h2 : (chkF wy ks (part way wy pn sz ks.len met).2).1 ≠ 0
      · rw [if_pos h2] at h; exact absurd h h2
      · rw [if_neg h2] at h ⊢
        have h2 : (chkF wy ks (part way wy pn sz ks.len met).2).1 = 0 := by simpa using h2
        obtain ⟨f1, f2⟩ := chkF_ok ks wy _ h2
        obtain ⟨g1, g2⟩ := chkF_ok rs way _ h
        rw [g1, f1, e1, pnF_cons]
        rcases e3 with ⟨e3, e4, _⟩ | ⟨e3, _, e5, _⟩
        · have hk : ks = nil := len_nil e4
          subst hk
          rw [if_pos e3, if_pos e3, show pnF nil = [] from rfl]
          exact ⟨by simp, .inl e3, f2, g2⟩
        · have hw : wy ≠ 0 := by omega
          rw [if_neg hw, if_neg hw]
          refine ⟨by simp, .inr ?_, f2, g2⟩
          intro hk
          rw [hk] at e5
          simp [len] at e5
end Spl
end Go.Proofs.YtckkbmgdaplaaaaDoor
