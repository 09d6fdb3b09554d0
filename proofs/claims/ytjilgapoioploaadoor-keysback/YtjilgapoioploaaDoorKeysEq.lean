/- slices.Equal of keys that read alike; Read of too many bytes. -/
import Derived.Test.YtjilgapoioploaaDoorKeysRd10
import Derived.BigQuiet
namespace Go.Proofs.YtjilgapoioploaaDoor
open Go.ChangeShapes Go.WideShapes Go.ChangeAt Go.RowKit
namespace Kys
open Txt (wd bs dec)
def KAt (w : World) (b o : Nat) (ks : List Ky) : Prop := ∀ j, j < ks.length →
  w.cell? ⟨b, o + j * 4, none⟩ = some (.int .i64 (ks.getD j zk).kind) ∧ w.cell? ⟨b, o + j * 4 + 1, none⟩ = some (.int .i32 (ks.getD j zk).r) ∧
  w.cell? ⟨b, o + j * 4 + 2, none⟩ = some (.int .i64 (ks.getD j zk).n) ∧ w.cell? ⟨b, o + j * 4 + 3, none⟩ = some (.int .i64 (ks.getD j zk).held)
theorem KAt.below {w w' : World} {b o : Nat} {ks : List Ky} (h : KAt w b o ks) (hb : Below w.heap.size w w') : KAt w' b o ks := fun j hj => by
  obtain ⟨a, b1, c, d⟩ := h j hj
  have hl := Txt.lt_of_cell a
  exact ⟨by rw [hb.cell hl]; exact a, by rw [hb.cell hl]; exact b1, by rw [hb.cell hl]; exact c, by rw [hb.cell hl]; exact d⟩
def KSl (w : World) (v : Value) (ks : List Ky) : Prop := (ks = [] ∧ ∃ a c, v = .slice a 0 c) ∨ (ks ≠ [] ∧ ∃ b o c, v = .slice (some ⟨b, o, none⟩) ks.length c ∧ KAt w b o ks)
theorem KSl.below {w w' : World} {v : Value} {ks : List Ky} (h : KSl w v ks) (hb : Below w.heap.size w w') : KSl w' v ks := by
  rcases h with h | ⟨h0, b, o, c, hv, hC⟩
  · exact .inl h
  · exact .inr ⟨h0, b, o, c, hv, hC.below hb⟩
theorem flatK_get : ∀ (ks : List Ky) (j : Nat), j < ks.length → (flatK ks)[j * 4]? = some (.int .i64 (ks.getD j zk).kind) ∧ (flatK ks)[j * 4 + 1]? = some (.int .i32 (ks.getD j zk).r) ∧ (flatK ks)[j * 4 + 2]? = some (.int .i64 (ks.getD j zk).n) ∧ (flatK ks)[j * 4 + 3]? = some (.int .i64 (ks.getD j zk).held)
  | [], j, h => absurd h (Nat.not_lt_zero _)
  | k :: ks, 0, _ => ⟨rfl, rfl, rfl, rfl⟩
  | k :: ks, j + 1, h => by
    have ih := flatK_get ks j (by simpa using h)
    rw [show (j + 1) * 4 = j * 4 + 4 by omega]
    exact ih
theorem OwnK.sl {w : World} {base : Nat} {v : Value} {ks : List Ky} (h : OwnK w base v ks) : KSl w v ks := by
  obtain ⟨hl, h1 | ⟨g, cap, cur, hv, hg, hh, hn, hc, hs, ht⟩⟩ := h
  · exact .inl ⟨List.length_eq_zero_iff.1 h1.2, none, 0, h1.1⟩
  · by_cases h0 : ks = []
    · subst h0
      exact .inl ⟨rfl, _, _, hv⟩
    · refine .inr ⟨h0, g, 0, cap, hv, fun j hj => ?_⟩
      have key : ∀ i u, i < ks.length * 4 → (flatK ks)[i]? = some u → w.cell? ⟨g, i, none⟩ = some u := fun i u hi hu => by
        have : cur[i]? = some u := by
          rw [← ht, List.getElem?_take_of_lt hi] at hu
          simpa using hu
        unfold World.cell?
        rw [hh]
        exact this
      obtain ⟨a, b, c, d⟩ := flatK_get ks j hj
      simp only [Nat.zero_add]
      exact ⟨key _ _ (by omega) a, key _ _ (by omega) b, key _ _ (by omega) c, key _ _ (by omega) d⟩
theorem neq_key (r f b x : Int) (w : World) : (binOp .neq 23 (.agg #[.int .i64 r, .int .i32 f, .int .i64 b, .int .i64 x]) (.agg #[.int .i64 r, .int .i32 f, .int .i64 b, .int .i64 x])).run Tryd.prog w = .ok (.bool false) w := by
  go_simp
set_option maxHeartbeats 1000000 in
theorem equal_keys (b1 o1 c1 b2 o2 c2 : Nat) (ks : List Ky) (w : World) (h1 : KAt w b1 o1 ks) (h2 : KAt w b2 o2 ks) (hn : ks.length ≤ 1000000) :
    Calls Tryd.prog 15 #[.slice (some ⟨b1, o1, none⟩) ks.length c1, .slice (some ⟨b2, o2, none⟩) ks.length c2] w fun e w' => e = .returned (.bool true) ∧ Below w.heap.size w w' := by
  have H1 : Hid (KAt w b1 o1 ks) := h1
  have H2 : Hid (KAt w b2 o2 ks) := h2
  clear h1 h2
  generalize hl : ks.length = L at *
  have HL : Hid (ks.length = L) := hl
  clear hl
  have ne : ((L : Int) != (L : Int)) = false := by simp
  go_enter Tryd.func15, Tryd.ntmps15
  go_wp2_with fail
  go_loopg [13] L (fun g i wr => ∃ k : Nat, i = .int .i64 (k : Int) ∧ k ≤ L ∧ L - k ≤ g ∧ Below w.heap.size w wr)
  case atStart => exact ⟨0, rfl, by omega, by omega, Below.refl _ _⟩
  case round =>
    obtain ⟨k, rfl, hk, hg, hb⟩ := hrel
    by_cases hlt : k < L
    · have lt1 : ((k : Int) < (L : Int)) := by omega
      obtain ⟨p0, p1, p2, p3⟩ := H1.out.below hb k (by rw [HL.out]; exact hlt)
      obtain ⟨q0, q1, q2, q3⟩ := H2.out.below hb k (by rw [HL.out]; exact hlt)
      rcases hc : ks.getD k zk with ⟨r, f, bk, x⟩
      rw [hc] at p0 p1 p2 p3 q0 q1 q2 q3
      dsimp only at p0 p1 p2 p3 q0 q1 q2 q3
      clear hc
      have nq := neq_key r f bk x
      go_wp2_with fail
      go_region
      go_wp2_with fail
      go_roundg (L - (k + 1))
      case measure => omega
      case rel => exact ⟨k + 1, rfl, by omega, by omega, hb.drew⟩
    · have lt1 : ¬ ((k : Int) < (L : Int)) := by omega
      go_wp2_with fail
      go_ret
      exact ⟨rfl, hb⟩
set_option maxHeartbeats 1000000 in
theorem equal_empty (a1 a2 : Option Addr) (c1 c2 : Nat) (w : World) :
    Calls Tryd.prog 15 #[.slice a1 0 c1, .slice a2 0 c2] w fun e w' => e = .returned (.bool true) ∧ Below w.heap.size w w' := by
  go_enter Tryd.func15, Tryd.ntmps15
  go_wp2_with fail
  go_loopg [13] 1 (fun g i wr => i = .int .i64 0 ∧ wr = w)
  case atStart => exact ⟨rfl, rfl⟩
  case round =>
    obtain ⟨rfl, rfl⟩ := hrel
    go_wp2_with fail
    go_ret
    exact ⟨rfl, Below.refl _ _⟩
theorem equal_any (v1 v2 : Value) (ks : List Ky) (w : World) (h1 : KSl w v1 ks) (h2 : KSl w v2 ks) (hn : ks.length ≤ 1000000) :
    Calls Tryd.prog 15 #[v1, v2] w fun e w' => e = .returned (.bool true) ∧ Below w.heap.size w w' := by
  rcases h1 with ⟨rfl, a1, c1, rfl⟩ | ⟨h0, b1, o1, c1, rfl, hC1⟩
  · rcases h2 with ⟨_, a2, c2, rfl⟩ | ⟨h0, _⟩
    · exact equal_empty a1 a2 c1 c2 w
    · exact absurd rfl h0
  · rcases h2 with ⟨rfl, _⟩ | ⟨_, b2, o2, c2, rfl, hC2⟩
    · exact absurd rfl h0
    · exact equal_keys b1 o1 c1 b2 o2 c2 ks w hC1 hC2 hn
set_option maxHeartbeats 1000000 in
theorem read_many (s : ByteArray) (last : Bool) (hs : 4000 < s.size) (w : World) : Calls Tryd.prog 13 #[.string s, .bool last] w fun e w' => e = .returned (.tuple #[.slice none 0 0, .string ⟨#[]⟩, .int .i64 2]) ∧ Below w.heap.size w w' := by
  have i4 : (4000 : Int) < (s.size : Int) := by omega
  go_enter Tryd.func13, Tryd.ntmps13
  go_wp2_with fail
  go_ret3
  exact ⟨rfl, Below.refl _ _⟩
end Kys
end Go.Proofs.YtjilgapoioploaaDoor
