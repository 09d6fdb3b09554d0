/- slices.Equal of places that read alike. (Made from KeysEq.) -/
import Derived.Test.YtckkbmgdaplaaaaDoorSplLayP
import Derived.BigQuiet
namespace Go.Proofs.YtckkbmgdaplaaaaDoor
open Go.ChangeShapes Go.WideShapes Go.ChangeAt Go.RowKit Go.Maps Go.Sort
namespace Spl
open Fo
def pz : Pl := (0, 0, 0, 0, 0)
def PlAt (w : World) (b o : Nat) (ps : List Pl) : Prop := ∀ j, j < ps.length →
  w.cell? ⟨b, o + j * 5, none⟩ = some (.int .i64 (ps.getD j pz).1) ∧ w.cell? ⟨b, o + j * 5 + 1, none⟩ = some (.int .i64 (ps.getD j pz).2.1) ∧
  w.cell? ⟨b, o + j * 5 + 2, none⟩ = some (.int .i64 (ps.getD j pz).2.2.1) ∧ w.cell? ⟨b, o + j * 5 + 3, none⟩ = some (.int .i64 (ps.getD j pz).2.2.2.1) ∧ w.cell? ⟨b, o + j * 5 + 4, none⟩ = some (.int .i64 (ps.getD j pz).2.2.2.2)
theorem PlAt.below {w w' : World} {b o : Nat} {ps : List Pl} (h : PlAt w b o ps) (hb : Below w.heap.size w w') : PlAt w' b o ps := fun j hj => by
  obtain ⟨a, b1, c, d, e⟩ := h j hj
  have hl := lt_of_cell a
  exact ⟨by rw [hb.cell hl]; exact a, by rw [hb.cell hl]; exact b1, by rw [hb.cell hl]; exact c, by rw [hb.cell hl]; exact d, by rw [hb.cell hl]; exact e⟩
def PSl (w : World) (v : Value) (ps : List Pl) : Prop := (ps = [] ∧ ∃ a c, v = .slice a 0 c) ∨ (ps ≠ [] ∧ ∃ b o c, v = .slice (some ⟨b, o, none⟩) ps.length c ∧ PlAt w b o ps)
theorem PSl.below {w w' : World} {v : Value} {ps : List Pl} (h : PSl w v ps) (hb : Below w.heap.size w w') : PSl w' v ps := by
  rcases h with h | ⟨h0, b, o, c, hv, hC⟩
  · exact .inl h
  · exact .inr ⟨h0, b, o, c, hv, hC.below hb⟩
theorem plc_get : ∀ (ps : List Pl) (j : Nat), j < ps.length → (ps.flatMap plc)[j * 5]? = some (.int .i64 (ps.getD j pz).1) ∧ (ps.flatMap plc)[j * 5 + 1]? = some (.int .i64 (ps.getD j pz).2.1) ∧ (ps.flatMap plc)[j * 5 + 2]? = some (.int .i64 (ps.getD j pz).2.2.1) ∧ (ps.flatMap plc)[j * 5 + 3]? = some (.int .i64 (ps.getD j pz).2.2.2.1) ∧ (ps.flatMap plc)[j * 5 + 4]? = some (.int .i64 (ps.getD j pz).2.2.2.2)
  | [], _, h => absurd h (Nat.not_lt_zero _)
  | _ :: _, 0, _ => ⟨rfl, rfl, rfl, rfl, rfl⟩
  | _ :: ps, j + 1, h => by
    have ih := plc_get ps j (by simpa using h)
    rw [show (j + 1) * 5 = j * 5 + 5 by omega]
    exact ih
theorem OwnP.sl {w : World} {base : Nat} {v : Value} {ps : List Pl} (h : OwnP w base v ps) : PSl w v ps := by
  obtain ⟨hl, h1 | ⟨g, cap, cur, hv, hg, hh, hn, hc, hs, ht⟩⟩ := h
  · exact .inl ⟨List.length_eq_zero_iff.1 h1.2, none, 0, h1.1⟩
  · by_cases h0 : ps = []
    · subst h0
      exact .inl ⟨rfl, _, _, hv⟩
    · refine .inr ⟨h0, g, 0, cap, hv, fun j hj => ?_⟩
      have key : ∀ i u, i < ps.length * 5 → (ps.flatMap plc)[i]? = some u → w.cell? ⟨g, i, none⟩ = some u := fun i u hi hu => by
        have : cur[i]? = some u := by
          rw [← ht, List.getElem?_take_of_lt hi] at hu
          simpa using hu
        unfold World.cell?
        rw [hh]
        exact this
      obtain ⟨a, b, c, d, e⟩ := plc_get ps j hj
      simp only [Nat.zero_add]
      exact ⟨key _ _ (by omega) a, key _ _ (by omega) b, key _ _ (by omega) c, key _ _ (by omega) d, key _ _ (by omega) e⟩
theorem neq_place (r f b x z : Int) (w : World) : (binOp .neq 46 (.agg #[.int .i64 r, .int .i64 f, .int .i64 b, .int .i64 x, .int .i64 z]) (.agg #[.int .i64 r, .int .i64 f, .int .i64 b, .int .i64 x, .int .i64 z])).run Tryd.prog w = .ok (.bool false) w := by
  go_simp
set_option maxHeartbeats 1000000 in
theorem equal_places (b1 o1 c1 b2 o2 c2 : Nat) (ps : List Pl) (w : World) (h1 : PlAt w b1 o1 ps) (h2 : PlAt w b2 o2 ps) (hn : ps.length ≤ 2000000) :
    Calls Tryd.prog 20 #[.slice (some ⟨b1, o1, none⟩) ps.length c1, .slice (some ⟨b2, o2, none⟩) ps.length c2] w fun e w' => e = .returned (.bool true) ∧ Below w.heap.size w w' := by
  have H1 : Hid (PlAt w b1 o1 ps) := h1
  have H2 : Hid (PlAt w b2 o2 ps) := h2
  clear h1 h2
  generalize hl : ps.length = L at *
  have HL : Hid (ps.length = L) := hl
  clear hl
  have ne : ((L : Int) != (L : Int)) = false := by simp
  go_enter Tryd.func20, Tryd.ntmps20
  go_wp2_with fail
  go_loopg [13] L (fun g i wr => ∃ k : Nat, i = .int .i64 (k : Int) ∧ k ≤ L ∧ L - k ≤ g ∧ Below w.heap.size w wr)
  case atStart => exact ⟨0, rfl, by omega, by omega, Below.refl _ _⟩
  case round =>
    obtain ⟨k, rfl, hk, hg, hb⟩ := hrel
    by_cases hlt : k < L
    · have lt1 : ((k : Int) < (L : Int)) := by omega
      obtain ⟨p0, p1, p2, p3, p4⟩ := H1.out.below hb k (by rw [HL.out]; exact hlt)
      obtain ⟨q0, q1, q2, q3, q4⟩ := H2.out.below hb k (by rw [HL.out]; exact hlt)
      rcases hc : ps.getD k pz with ⟨r, f, bk, x, z⟩
      rw [hc] at p0 p1 p2 p3 p4 q0 q1 q2 q3 q4
      dsimp only at p0 p1 p2 p3 p4 q0 q1 q2 q3 q4
      clear hc
      have nq := neq_place r f bk x z
      go_wp2_with fail
      go_region
      go_wp2_with fail
      go_roundg (L - (k + 1))
      case measure => omega
      case rel => exact ⟨k + 1, rfl, by omega, by omega, hb.drew⟩
    · have lt1 : ¬ ((k : Int) < (L : Int)) := by omega
      go_wp2_with fail
      go_ret
      exact ⟨rfl, hb⟩
set_option maxHeartbeats 1000000 in
theorem equalp_empty (a1 a2 : Option Addr) (c1 c2 : Nat) (w : World) :
    Calls Tryd.prog 20 #[.slice a1 0 c1, .slice a2 0 c2] w fun e w' => e = .returned (.bool true) ∧ Below w.heap.size w w' := by
  go_enter Tryd.func20, Tryd.ntmps20
  go_wp2_with fail
  go_loopg [13] 1 (fun g i wr => i = .int .i64 0 ∧ wr = w)
  case atStart => exact ⟨rfl, rfl⟩
  case round =>
    obtain ⟨rfl, rfl⟩ := hrel
    go_wp2_with fail
    go_ret
    exact ⟨rfl, Below.refl _ _⟩
theorem equalp_any (v1 v2 : Value) (ps : List Pl) (w : World) (h1 : PSl w v1 ps) (h2 : PSl w v2 ps) (hn : ps.length ≤ 2000000) :
    Calls Tryd.prog 20 #[v1, v2] w fun e w' => e = .returned (.bool true) ∧ Below w.heap.size w w' := by
  rcases h1 with ⟨rfl, a1, c1, rfl⟩ | ⟨h0, b1, o1, c1, rfl, hC1⟩
  · rcases h2 with ⟨_, a2, c2, rfl⟩ | ⟨h0, _⟩
    · exact equalp_empty a1 a2 c1 c2 w
    · exact absurd rfl h0
  · rcases h2 with ⟨rfl, _⟩ | ⟨_, b2, o2, c2, rfl, hC2⟩
    · exact absurd rfl h0
    · exact equal_places b1 o1 c1 b2 o2 c2 ps w hC1 hC2 hn
end Spl
end Go.Proofs.YtckkbmgdaplaaaaDoor
