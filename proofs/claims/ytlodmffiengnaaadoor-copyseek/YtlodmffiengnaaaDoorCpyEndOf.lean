/- The reference's EndOf. -/
import Derived.Test.YtlodmffiengnaaaDoorCpyBetM
namespace Go.Proofs.YtlodmffiengnaaaDoor
open Go.ChangeShapes Go.WideShapes Go.ChangeAt Go.RowKit Go.Maps
namespace Cpy
open Txt (runes wd spotsL)
theorem own_slice2 {w : World} {base : Nat} {e : TypeId} {v : Value} {n : Nat} {xs : List Value} (h : w.ownsRow base e 2 v n xs) :
    ∃ ao cap, v = .slice ao n cap ∧ (0 < n → ∃ g, ao = some ⟨g, 0, none⟩ ∧ g < w.heap.size ∧ ∀ j, j < n * 2 → w.cell? ⟨g, j, none⟩ = xs[j]?) := by
  rcases h.2 with ⟨rfl, rfl⟩ | ⟨g, cap, cur, rfl, hb, hh, hr⟩
  · exact ⟨none, 0, rfl, fun h => absurd h (Nat.lt_irrefl _)⟩
  · exact ⟨some ⟨g, 0, none⟩, cap, rfl, fun _ => ⟨g, rfl, (Array.getElem?_eq_some_iff.1 hh).1, fun j hj => h.cellAt j hj⟩⟩
theorem flat_spot : ∀ (l : List (Int × Int)) (k : Nat) (h : k < l.length), (l.flatMap Txt.spot2)[k * 2]? = some (.int .i32 l[k].1) ∧ (l.flatMap Txt.spot2)[k * 2 + 1]? = some (.int .i64 l[k].2)
  | y :: t, 0, _ => ⟨rfl, rfl⟩
  | y :: t, k + 1, h => by
    have := flat_spot t k (by simpa using h)
    rw [show (k + 1) * 2 = k * 2 + 1 + 1 from by omega]
    simpa [List.flatMap_cons, Txt.spot2] using this
/-- Spots in memory. -/
theorem spot_cells {w : World} {base : Nat} {v : Value} {S : List (Int × Int)} (h : w.ownsRow base 42 2 v S.length (S.flatMap Txt.spot2)) :
    ∃ a c, v = .slice a S.length c ∧ (S = [] ∨ ∃ g, a = some ⟨g, 0, none⟩ ∧ ∀ (i : Nat) (hi : i < S.length), w.cell? ⟨g, i * 2, none⟩ = some (.int .i32 S[i].1) ∧ w.cell? ⟨g, i * 2 + 1, none⟩ = some (.int .i64 S[i].2)) := by
  obtain ⟨a, c, rfl, hc⟩ := own_slice2 h
  refine ⟨a, c, rfl, ?_⟩
  by_cases h0 : S = []
  · exact .inl h0
  · right
    obtain ⟨g, rfl, _, hg⟩ := hc (List.length_pos_iff.2 h0)
    refine ⟨g, rfl, fun i hi => ?_⟩
    obtain ⟨f1, f2⟩ := flat_spot S i hi
    exact ⟨(hg (i * 2) (by omega)).trans f1, (hg (i * 2 + 1) (by omega)).trans f2⟩
theorem w64_last {n : Nat} (h : n ≤ 1000000) (h0 : 0 < n) : wrap64 ((n : Int) - 1) = ((n - 1 : Nat) : Int) := by unfold wrap64; omega
set_option maxHeartbeats 4000000 in
set_option maxRecDepth 100000 in
theorem endOf_any (s : ByteArray) (w : World) (hs : s.size ≤ 4000) :
    Calls Tryd.prog 32 #[.string s] w fun e w' => e = .returned (.int .i64 (endI (cols s))) ∧ Below w.heap.size w w' := by
  have HS := Txt.spots_any s w (by omega)
  have hl := sp_len s
  rw [show spotsL (runes s) 0 = sp s from rfl] at HS
  by_cases h0 : (sp s).length = 0
  · have e0 : sp s = [] := List.length_eq_zero_iff.1 h0
    have e1 : endI (cols s) = 0 := by unfold cols; rw [e0]; rfl
    rw [e1]
    rw [e0] at HS
    clear hl h0 e0 e1
    go_enter Tryd.func32, Tryd.ntmps32
    go_wp2_with fail
    refine HS.mono ?_
    rintro e W ⟨v, rfl, hown, bW⟩
    obtain ⟨a, c, rfl, _⟩ := spot_cells (S := []) hown
    go_wp2_with fail
    go_ret
    exact ⟨rfl, bW⟩
  · have hpos : 0 < (sp s).length := by omega
    have hlt : (sp s).length - 1 < (sp s).length := by omega
    have hE : endI (cols s) = ((sp s)[(sp s).length - 1]).2 := by
      rw [endI_get (cols s) (by rw [cols_len]; exact hpos)]
      unfold cols
      simp only [List.length_map, List.getElem_map]
    rw [hE]
    have HE : Hid (∀ S : List (Int × Int), S = sp s → S.length = (sp s).length) := fun S e => by rw [e]
    have i0 : (0 : Int) < ((sp s).length : Int) := by omega
    have il : (((sp s).length - 1 : Nat) : Int) < ((sp s).length : Int) := by omega
    have hw := w64_last (Nat.le_trans hl (Nat.le_trans hs (by decide))) hpos
    clear hE
    go_enter Tryd.func32, Tryd.ntmps32
    go_wp2_with fail
    refine HS.mono ?_
    rintro e W ⟨v, rfl, hown, bW⟩
    obtain ⟨a, c, rfl, hc⟩ := spot_cells hown
    obtain ⟨g, rfl, hg⟩ := hc.resolve_left (by intro e; rw [e] at hpos; simp at hpos)
    have q := (hg _ hlt).2
    clear hc hg hown HS
    go_wp2_with fail
    go_ret
    exact ⟨rfl, bW⟩
end Cpy
end Go.Proofs.YtlodmffiengnaaaDoor
