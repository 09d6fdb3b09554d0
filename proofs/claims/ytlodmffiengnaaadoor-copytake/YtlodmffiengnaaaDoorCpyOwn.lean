/- Texts in a row of one's own. -/
import Derived.Test.YtlodmffiengnaaaDoorCpyBet
namespace Go.Proofs.YtlodmffiengnaaaDoor
open Go.ChangeShapes Go.WideShapes Go.ChangeAt Go.RowKit Go.Maps Go.Sort
namespace Cpy
/-- Texts in a row of one's own. -/
def Own (w : World) (base : Nat) (v : Value) (L : List ByteArray) : Prop := w.ownsRow base 9 1 v L.length (L.map Value.string)
theorem Own.below {w w' : World} {base : Nat} {v : Value} {L : List ByteArray} (h : Own w base v L) (hb : Below w.heap.size w w') : Own w' base v L := Txt.own_below h hb
theorem own_one (w : World) (base : Nat) (hb : base ≤ w.heap.size) (s : ByteArray) : Own (w.alloc (.cells #[.string s] 9)) base (.slice (some ⟨w.heap.size, 0, none⟩) 1 1) [s] :=
  ⟨rfl, .inr ⟨w.heap.size, 1, _, rfl, hb, heap_alloc_new w _, Nat.le_refl _, by unfold maxLen; omega, rfl, rfl⟩⟩
theorem Own.open {w : World} {base : Nat} {v : Value} {L : List ByteArray} (h : Own w base v L) : ∃ a c, v = .slice a L.length c ∧ L.length ≤ c ∧ (L = [] ∨ ∃ b o, a = some ⟨b, o, none⟩ ∧ ∀ j x, L[j]? = some x → w.cell? ⟨b, o + j, none⟩ = some (.string x)) := by
  rcases h.2 with ⟨hv, hn⟩ | ⟨g, cap, cur, hv, hg, hh, hcap, _, _, ht⟩
  · have : L = [] := List.length_eq_zero_iff.1 (by simpa using hn)
    subst this
    exact ⟨none, 0, hv, Nat.le_refl _, .inl rfl⟩
  · refine ⟨_, _, hv, hcap, .inr ⟨g, 0, rfl, fun j x hx => ?_⟩⟩
    rw [Nat.mul_one] at ht
    obtain ⟨hj, _⟩ := List.getElem?_eq_some_iff.1 hx
    have h1 : (cur.toList.take L.length)[j]? = some (.string x) := by rw [ht, List.getElem?_map, hx]; rfl
    rw [List.getElem?_take_of_lt hj, Array.getElem?_toList] at h1
    unfold World.cell?
    rw [hh, Nat.zero_add]
    exact h1
end Cpy
end Go.Proofs.YtlodmffiengnaaaDoor
