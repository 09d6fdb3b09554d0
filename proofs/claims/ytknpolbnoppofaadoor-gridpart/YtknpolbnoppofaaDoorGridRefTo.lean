/- The reference's CheckGrid, its answer named. -/
import Derived.Test.YtknpolbnoppofaaDoorGridRef
import Derived.Test.YtknpolbnoppofaaDoorGridRows
import Derived.Test.YtknpolbnoppofaaDoorGridRepeat
namespace Go.Proofs.YtknpolbnoppofaaDoor
open Go.ChangeShapes Go.WideShapes Go.ChangeAt Go.RowKit
namespace Grd
theorem ref_to (a h : Int) (v : Value) (cs : List C) (q : Int) (hq : gridErr a h cs = q) (w : World) (hS : SliceAt w v cs) :
    Calls Tryd.prog 7 #[.agg #[.int .i64 a, .int .i64 h, v]] w fun e w' => e = .returned (.int .i64 q) ∧ Below w.heap.size w w' := by
  have := ref_any a h v cs w hS
  rwa [hq] at this
theorem pos_of_ok (n hh : Nat) (cs : List C) (hok : gridErr n hh cs = 0) : cs ≠ [] ∧ cs.length ≤ 7200 := by
  obtain ⟨hsize, hL, _⟩ := (gridErr_zero n hh cs).1 hok
  have ⟨_, p1, p2, _, p4, _⟩ := prod_in n hh hsize
  refine ⟨fun h => ?_, ?_⟩
  · rw [h, List.length_nil] at hL
    have : 0 < n * hh := Nat.mul_pos (by omega) (by omega)
    omega
  · have : ((n * hh : Nat) : Int) ≤ 7200 := by rw [Int.natCast_mul]; exact p1
    omega
theorem SliceAt.open {w : World} {v : Value} {cs : List C} (h : SliceAt w v cs) (hne : cs ≠ []) : ∃ b o c, v = .slice (some ⟨b, o, none⟩) cs.length c ∧ cs.length ≤ c ∧ c ≤ 9223372036854775807 ∧ CellsAt w b o cs := by
  rcases h with ⟨h, _⟩ | ⟨_, h⟩
  · exact absurd h hne
  · exact h
theorem size_of_ok (a h : Int) (cs : List C) (hok : gridErr a h cs = 0) : ∃ n hh : Nat, a = (n : Int) ∧ h = (hh : Int) := by
  unfold gridErr at hok
  by_cases hs : isSize a h = false ∨ (cs.length : Int) ≠ a * h
  · rw [if_pos hs] at hok; exact absurd hok (by decide)
  · have h1 : isSize a h = true := by simpa using (not_or.1 hs).1
    have ⟨_, _, p2, _, p4, _⟩ := prod_in a h h1
    exact ⟨a.toNat, h.toNat, by omega, by omega⟩
end Grd
end Go.Proofs.YtknpolbnoppofaaDoor
