/- Plain mathematics: how a split is laid out. -/
import Derived.Test.YtckkbmgdaplaaaaDoorSplLs
namespace Go.Proofs.YtckkbmgdaplaaaaDoor
namespace Spl
open Fo
/-- A pane's place: the pane, x, y, w, h. -/
abbrev Pl := Int × Int × Int × Int × Int
def szF : Fo → Int
  | nil => 0
  | cons _ _ sz _ rs => sz + szF rs
def gv (left all S : Int) : Int := left * S / all
/-- How much more each part gets. -/
def shF (left all : Int) : Int → Fo → List Int
  | _, nil => []
  | S, cons _ _ sz _ rs => (gv left all (S + sz) - gv left all S) :: shF left all (S + sz) rs
def leftT (wy : Int) (l : Nat × Nat) (w h : Int) : Int := if wy = 2 then h - l.2 else w - l.1
def layF : Fo → Int → Int → Int → Int → Int → Int → Int → Int → List Pl
  | nil, _, _, _, _, _, _, _, _ => []
  | cons wy' pn' sz' ks' rs', wy, left, all, S, x, y, w, h =>
    if wy = 1 then
      (if wy' = 0 then [(pn', x, y, (ls wy' ks').1 + (gv left all (S + sz') - gv left all S), h)]
       else layF ks' wy' (leftT wy' (ls wy' ks') ((ls wy' ks').1 + (gv left all (S + sz') - gv left all S)) h) (szF ks') 0 x y ((ls wy' ks').1 + (gv left all (S + sz') - gv left all S)) h)
      ++ layF rs' wy left all (S + sz') (x + ((ls wy' ks').1 + (gv left all (S + sz') - gv left all S) + 1)) y w h
    else
      (if wy' = 0 then [(pn', x, y, w, (ls wy' ks').2 + (gv left all (S + sz') - gv left all S))]
       else layF ks' wy' (leftT wy' (ls wy' ks') w ((ls wy' ks').2 + (gv left all (S + sz') - gv left all S))) (szF ks') 0 x y w ((ls wy' ks').2 + (gv left all (S + sz') - gv left all S)))
      ++ layF rs' wy left all (S + sz') x (y + ((ls wy' ks').2 + (gv left all (S + sz') - gv left all S) + 1)) w h
/-- A tree, laid into a rectangle. -/
def layT (wy pn : Int) (ks : Fo) (x y w h : Int) : List Pl := if wy = 0 then [(pn, x, y, w, h)] else layF ks wy (leftT wy (ls wy ks) w h) (szF ks) 0 x y w h
theorem layF_cons (wy' pn' sz' : Int) (ks' rs' : Fo) (wy left all S x y w h : Int) : layF (cons wy' pn' sz' ks' rs') wy left all S x y w h =
    if wy = 1 then layT wy' pn' ks' x y ((ls wy' ks').1 + (gv left all (S + sz') - gv left all S)) h ++ layF rs' wy left all (S + sz') (x + ((ls wy' ks').1 + (gv left all (S + sz') - gv left all S) + 1)) y w h
    else layT wy' pn' ks' x y w ((ls wy' ks').2 + (gv left all (S + sz') - gv left all S)) ++ layF rs' wy left all (S + sz') x (y + ((ls wy' ks').2 + (gv left all (S + sz') - gv left all S) + 1)) w h := rfl
/-- Each Size is one, each that goes some way has parts. -/
def Ok : Fo → Prop
  | nil => True
  | cons wy _ sz ks rs => (1 ≤ sz ∧ sz ≤ 9999) ∧ (wy = 0 ∨ ((wy = 1 ∨ wy = 2) ∧ ks ≠ nil)) ∧ Ok ks ∧ Ok rs
theorem Ok.rt : ∀ f : Fo, Ok f → Rt f
  | nil, _ => trivial
  | cons _ _ _ ks rs, h => ⟨h.2.1.imp id And.right, Ok.rt ks h.2.2.1, Ok.rt rs h.2.2.2⟩
theorem chkF_sz : ∀ (f : Fo) (way : Int) (met : List Int), (chkF way f met).1 = 0 → Ok f
  | nil, _, _, _ => trivial
  | cons wy pn sz ks rs, way, met, h => by
    unfold chkF at h
    by_cases h1 : (part way wy pn sz ks.len met).1 ≠ 0
    · rw [if_pos h1] at h; exact absurd h h1
    · rw [if_neg h1] at h
      have hp := part_ok (Decidable.not_not.1 h1)
      by_cases h2 : (chkF wy ks (part way wy pn sz ks.len met).2).1 ≠ 0
      · rw [if_pos h2] at h; exact absurd h h2
      · rw [if_neg h2] at h
        refine ⟨hp.2.1, ?_, chkF_sz ks _ _ (Decidable.not_not.1 h2), chkF_sz rs _ _ h⟩
        rcases hp.2.2 with ⟨h0, _⟩ | ⟨hw, _, hn, _⟩
        · exact .inl h0
        · refine .inr ⟨hw, fun e => ?_⟩
          rw [e] at hn
          simp [len] at hn
theorem szF_le : ∀ f : Fo, Ok f → (f.len : Int) ≤ szF f ∧ szF f ≤ 9999 * (f.len : Int)
  | nil, _ => by simp [szF, len]
  | cons _ _ sz _ rs, h => by
    have h1 := szF_le rs h.2.2.2
    have h2 := h.1
    simp only [szF, len]
    omega
theorem mul_small {a b : Int} (ha : 0 ≤ a) (ha2 : a ≤ 1000) (hb : 0 ≤ b) (hb2 : b ≤ 20000000000) : 0 ≤ a * b ∧ a * b ≤ 20000000000000 := by
  refine ⟨Int.mul_nonneg ha hb, ?_⟩
  have := Int.mul_le_mul ha2 hb2 hb (by omega : (0 : Int) ≤ 1000)
  omega
theorem gv_le {left all S T : Int} (hl : 0 ≤ left) (h0 : 0 ≤ S) (hS : S ≤ T) (hT : T ≤ all) (ha : 0 < all) : 0 ≤ gv left all S ∧ gv left all S ≤ gv left all T ∧ gv left all T ≤ left := by
  unfold gv
  refine ⟨Int.ediv_nonneg (Int.mul_nonneg hl h0) (by omega), Int.ediv_le_ediv ha (Int.mul_le_mul_of_nonneg_left hS hl), ?_⟩
  refine Int.ediv_le_of_le_mul ha ?_
  exact Int.mul_le_mul_of_nonneg_left hT hl
theorem gv_zero (left all : Int) : gv left all 0 = 0 := by simp [gv]
theorem shF_len (left all : Int) : ∀ (f : Fo) (S : Int), (shF left all S f).length = f.len
  | nil, _ => rfl
  | cons _ _ _ _ rs, S => by simp [shF, len, shF_len left all rs]
theorem szF_pos : ∀ f : Fo, Ok f → 0 ≤ szF f := fun f h => by have := szF_le f h; omega
end Spl
end Go.Proofs.YtckkbmgdaplaaaaDoor
