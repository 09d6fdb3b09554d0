/- The reference's TurnOf tells turnOf; slices.Equal of two slices that read alike. -/
import Derived.Test.YthnphjdpifpehaaDoorStyleRef3
namespace Go.Proofs.YthnphjdpifpehaaDoor
open Go.ChangeShapes Go.WideShapes Go.ChangeAt Go.RowKit
namespace Sty
theorem tref_own (af ab ax bf bb bx : Int) (w : World) :
    Calls Tryd.prog 15 #[.agg #[.int .i64 af, .int .i64 ab, .int .i64 ax], .agg #[.int .i64 bf, .int .i64 bb, .int .i64 bx]] w fun e w' => ∃ v', e = .returned v' ∧ w'.ownsRow w.heap.size 3 1 v' (turnOf (af, ab, ax) (bf, bb, bx)).length (vals (turnOf (af, ab, ax) (bf, bb, bx))) ∧ Below w.heap.size w w' := by
  have nil : ∀ e w', e = Ending.returned (.slice none 0 0) ∧ Below w.heap.size w w' → turnOf (af, ab, ax) (bf, bb, bx) = [] → ∃ v', e = .returned v' ∧ w'.ownsRow w.heap.size 3 1 v' (turnOf (af, ab, ax) (bf, bb, bx)).length (vals (turnOf (af, ab, ax) (bf, bb, bx))) ∧ Below w.heap.size w w' := fun e w' ⟨he, hb⟩ h0 => ⟨_, he, by rw [h0]; exact ⟨rfl, .inl ⟨rfl, rfl⟩⟩, hb⟩
  by_cases hne : (af, ab, ax) = (bf, bb, bx)
  · exact (tref_same af ab ax bf bb bx w hne).mono fun e w' h => nil e w' h (by unfold turnOf; rw [if_pos (Or.inl hne)])
  · cases ha : isSt (af, ab, ax) with
    | false => exact (tref_bad1 af ab ax bf bb bx w hne ha).mono fun e w' h => nil e w' h (by unfold turnOf; rw [if_pos (Or.inr (Or.inl ha))])
    | true =>
      cases hb : isSt (bf, bb, bx) with
      | false => exact (tref_bad2 af ab ax bf bb bx w hne ha hb).mono fun e w' h => nil e w' h (by unfold turnOf; rw [if_pos (Or.inr (Or.inr hb))])
      | true =>
        have h1 : ¬ ((af, ab, ax) = (bf, bb, bx) ∨ isSt (af, ab, ax) = false ∨ isSt (bf, bb, bx) = false) := by
          rintro (h | h | h)
          · exact hne h
          · rw [ha] at h; cases h
          · rw [hb] at h; cases h
        unfold turnOf
        rw [if_neg h1]
        cases hbt : (bits .andNot .i64 ax bx != 0) with
        | true =>
          rw [if_pos (Or.inr (by simpa using hbt))]
          by_cases hz : (bf, bb, bx) = (0, 0, 0)
          · exact tref_none1 af ab ax bf bb bx w hne ha hb hz hbt
          · exact tref_bits af ab ax bf bb bx w hne ha hb hz hbt
        | false =>
          by_cases hz : (bf, bb, bx) = (0, 0, 0)
          · rw [if_pos (Or.inl hz)]
            exact tref_none0 af ab ax bf bb bx w hne ha hb hz hbt
          · rw [if_neg (by rintro (h | h); exact hz h; exact h (by simpa using hbt))]
            unfold addsL
            dsimp only
            by_cases ef : bf = af
            · subst ef
              by_cases eb : bb = ab
              · subst eb
                simpa using tref_00 bf bb ax bx w hne ha hb hz hbt
              · simpa [eb] using tref_0b bf ab ax bb bx w hne ha hb hz hbt eb
            · by_cases eb : bb = ab
              · subst eb
                simpa [ef] using tref_f0 af bb ax bf bx w hne ha hb hz hbt ef
              · simpa [ef, eb] using tref_fb af ab ax bf bb bx w hne ha hb hz hbt ef eb
theorem equal_same (v1 v2 : Value) (xs : List Int) (w : World) (h1 : IntsAt w v1 xs) (h2 : IntsAt w v2 xs) (hl : xs.length ≤ 1000000) :
    Calls Tryd.prog 11 #[v1, v2] w fun e w' => e = .returned (.bool true) ∧ Below w.heap.size w w' := by
  rcases h1 with ⟨rfl, a, c, rfl⟩ | ⟨h0, b, o, c, rfl, hc, hR⟩
  · rcases h2 with ⟨_, a2, c2, rfl⟩ | ⟨h0, _⟩
    · exact (Tryd.slices_Equal_int_empty a a2 c 0 c2 w (by omega)).mono fun e w' ⟨he, hw⟩ => ⟨he, by rw [hw]; exact Below.refl _ _⟩
    · exact absurd rfl h0
  · rcases h2 with ⟨rfl, _⟩ | ⟨_, b2, o2, c2, rfl, hc2, hR2⟩
    · exact absurd rfl h0
    · refine (Tryd.slices_Equal_int b o xs.length c b2 o2 xs.length c2 xs xs w (Nat.le_refl _) (Nat.le_refl _) (by omega) (by omega) hR hR2).mono fun e w' ⟨he, q, hw⟩ => ⟨by rw [he]; simp, by rw [hw]; exact below_drewN (Below.refl _ _) q⟩
end Sty
end Go.Proofs.YthnphjdpifpehaaDoor
