/- The closed fact 'gridded'. -/
import Derived.Test.YtinhmklpnkikgabDoorGridLines2
import Derived.Test.YtinhmklpnkikgabDoorGridFill3
namespace Go.Proofs.YtinhmklpnkikgabDoor
open Go.ChangeShapes Go.WideShapes Go.ChangeAt Go.RowKit
namespace Grd
theorem var_new (W : World) (T : TypeId) (z cs : Array Value) : ((W.alloc (.cells z T)).setRow W.heap.size cs).heap[W.heap.size]? = some (.cells cs T (0, 0)) ∧ Below W.heap.size W ((W.alloc (.cells z T)).setRow W.heap.size cs) :=
  ⟨setRow_heap _ _ _ _ _ _ (heap_alloc_new _ _), below_setRow ((Below.refl _ _).alloc (Nat.le_refl _) _) (Nat.le_refl _) _⟩
def gA : List C := [blank, blank, blank]
def gB : List C := [(26085, 0, 0, 0), (0, 0, 0, 0), (120, 0, 0, 0)]
def gC : List C := [(32, 0, 0, 0), (122, 0, 0, 0), (120, 0, 0, 0)]
def sunx : ByteArray := ⟨#[230, 151, 165, 120]⟩
theorem gA_ok : gridErr (3 : Nat) (1 : Nat) gA = 0 := by decide +kernel
theorem gB_ok : gridErr (3 : Nat) (1 : Nat) gB = 0 := by decide +kernel
theorem gC_ok : gridErr (3 : Nat) (1 : Nat) gC = 0 := by decide +kernel
theorem gB_is : writeG 3 1 gA 0 0 (Txt.runes sunx) (0, 0, 0) = gB := by decide +kernel
theorem gC_is : fillG 3 1 gB 1 0 1 1 (122, 0, 0, 0) = gC := by decide +kernel
theorem gL_is : linesL 3 1 gC = [⟨#[32, 122, 120]⟩] := by decide +kernel
theorem gNew (w : World) : Calls Tryd.prog 14 #[.int .i64 3, .int .i64 1] w fun e w' => ∃ (g cap : Nat) (rest : List Value) (t : TypeId), e = .returned (.tuple #[.agg #[.int .i64 3, .int .i64 1, .slice (some ⟨g, 0, none⟩) 3 cap], .int .i64 0]) ∧ 3 ≤ cap ∧ cap ≤ 9223372036854775807 ∧ w'.heap[g]? = some (.cells (flat gA ++ rest).toArray t (0, 0)) ∧ Below w.heap.size w w' :=
  (new_good 3 1 w (by decide)).mono fun e w' ⟨v, he, ⟨g, cap, rest, t, hv, _, hc, hm, hh⟩, hb⟩ => ⟨g, cap, rest, t, by rw [he, hv]; rfl, hc, hm, hh, hb⟩
theorem gWrite (g cap : Nat) (rest : List Value) (t : TypeId) (w : World) (hT : Txt.Tab w) (hc : 3 ≤ cap) (hm : cap ≤ 9223372036854775807) (hh : w.heap[g]? = some (.cells (flat gA ++ rest).toArray t (0, 0))) :
    Calls Tryd.prog 9 #[.agg #[.int .i64 3, .int .i64 1, .slice (some ⟨g, 0, none⟩) 3 cap], .int .i64 0, .int .i64 0, .string sunx, .agg #[.int .i64 0, .int .i64 0, .int .i64 0]] w fun e w' => ∃ (g cap : Nat) (rest : List Value) (t : TypeId), e = .returned (.tuple #[.agg #[.int .i64 3, .int .i64 1, .slice (some ⟨g, 0, none⟩) 3 cap], .int .i64 0]) ∧ 3 ≤ cap ∧ cap ≤ 9223372036854775807 ∧ w'.heap[g]? = some (.cells (flat gB ++ rest).toArray t (0, 0)) ∧ Below w.heap.size w w' := by
  have := write_good 3 1 g 0 cap 0 0 gA 0 0 0 sunx w hT (cellsAt_flat hh) gA_ok hc hm (by decide) (by decide) (by decide)
  rw [gB_is] at this
  exact this.mono fun e w' ⟨v, he, ⟨g, cap, rest, t, hv, _, hc, hm, hh⟩, hb⟩ => ⟨g, cap, rest, t, by rw [he, hv]; rfl, hc, hm, hh, hb⟩
theorem gFill (g cap : Nat) (rest : List Value) (t : TypeId) (w : World) (hT : Txt.Tab w) (hc : 3 ≤ cap) (hm : cap ≤ 9223372036854775807) (hh : w.heap[g]? = some (.cells (flat gB ++ rest).toArray t (0, 0))) :
    Calls Tryd.prog 8 #[.agg #[.int .i64 3, .int .i64 1, .slice (some ⟨g, 0, none⟩) 3 cap], .agg #[.int .i64 1, .int .i64 0, .int .i64 1, .int .i64 1], .agg #[.int .i32 122, .int .i64 0, .int .i64 0, .int .i64 0]] w fun e w' => ∃ (g cap : Nat) (rest : List Value) (t : TypeId), e = .returned (.tuple #[.agg #[.int .i64 3, .int .i64 1, .slice (some ⟨g, 0, none⟩) 3 cap], .int .i64 0]) ∧ 3 ≤ cap ∧ cap ≤ 9223372036854775807 ∧ w'.heap[g]? = some (.cells (flat gC ++ rest).toArray t (0, 0)) ∧ Below w.heap.size w w' := by
  have := fill_good 3 1 g 0 cap gB 1 0 1 1 122 0 0 0 w hT (cellsAt_flat hh) gB_ok hc hm (by decide +kernel) (by decide)
  rw [gC_is] at this
  exact this.mono fun e w' ⟨v, he, ⟨g, cap, rest, t, hv, _, hc, hm, hh⟩, hb⟩ => ⟨g, cap, rest, t, by rw [he, hv]; rfl, hc, hm, hh, hb⟩
theorem gLines (g cap : Nat) (rest : List Value) (t : TypeId) (w : World) (hT : Txt.Tab w) (hc : 3 ≤ cap) (hm : cap ≤ 9223372036854775807) (hh : w.heap[g]? = some (.cells (flat gC ++ rest).toArray t (0, 0))) :
    Calls Tryd.prog 15 #[.agg #[.int .i64 3, .int .i64 1, .slice (some ⟨g, 0, none⟩) 3 cap]] w fun e w' => ∃ (g : Nat), e = .returned (.tuple #[.slice (some ⟨g, 0, none⟩) 1 1, .int .i64 0]) ∧ w'.cell? ⟨g, 0, none⟩ = some (.string ⟨#[32, 122, 120]⟩) ∧ Below w.heap.size w w' := by
  have := lines_good 3 1 g 0 cap gC w hT (cellsAt_flat hh) gC_ok hc hm
  rw [gL_is] at this
  exact this.mono fun e w' ⟨v, he, ⟨g, t, hv, _, hh⟩, hb⟩ => ⟨g, by rw [he, hv]; rfl, by simp [World.cell?, hh], hb⟩
theorem gEqual (b1 b2 : Nat) (w : World) (h1 : w.cell? ⟨b1, 0, none⟩ = some (.string ⟨#[32, 122, 120]⟩)) (h2 : w.cell? ⟨b2, 0, none⟩ = some (.string ⟨#[32, 122, 120]⟩)) :
    Calls Tryd.prog 16 #[.slice (some ⟨b1, 0, none⟩) 1 1, .slice (some ⟨b2, 0, none⟩) 1 1] w fun e w' => e = .returned (.bool true) ∧ Below w.heap.size w w' := by
  have h := Tryd.slices_Equal_string b1 0 1 1 b2 0 1 1 [⟨#[32, 122, 120]⟩] [⟨#[32, 122, 120]⟩] w (by decide) (by decide) (by decide) (by decide)
    (fun j hj => by obtain rfl : j = 0 := by simp at hj; omega
                    exact h1) (fun j hj => by obtain rfl : j = 0 := by simp at hj; omega
                                              exact h2)
  exact h.mono fun e w' ⟨he, q, hw⟩ => ⟨he, by rw [hw]; exact ⟨rfl, rfl, rfl, Nat.le_refl _, fun _ _ => rfl⟩⟩
end Grd
end Go.Proofs.YtinhmklpnkikgabDoor
