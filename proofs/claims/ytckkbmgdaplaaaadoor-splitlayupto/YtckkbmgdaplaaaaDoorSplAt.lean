/- Splits in memory. -/
import Derived.Test.YtckkbmgdaplaaaaDoorSplM
import Derived.Test.YtckkbmgdaplaaaaDoorShelf
import Derived.Test.YtckkbmgdaplaaaaDoorRows
import Derived.WalkKit
import Derived.ProofKit
import Derived.OpenShut
import Derived.Deep.Draws
import Derived.Carry
import Derived.Maps.OwnOps
import Derived.Maps.OwnSet
import Derived.Maps.Views
import Derived.Maps.Keyed
import Derived.Laws.AppendOwn
import Derived.Laws.OwnMore
import Derived.Laws.ResultCell
import Derived.Laws.Rows
import Derived.Deep.LoopGhost
namespace Go.Proofs.YtckkbmgdaplaaaaDoor
open Go.ChangeShapes Go.WideShapes Go.ChangeAt Go.RowKit Go.Maps
namespace Spl
open Fo
theorem lt_of_cell {w : World} {b o : Nat} {v : Value} (h : w.cell? ⟨b, o, none⟩ = some v) : b < w.heap.size := by
  unfold World.cell? at h
  split at h
  · rename_i hh
    exact (Array.getElem?_eq_some_iff.1 hh).1
  all_goals cases h
/-- The trees f lie at block b from o on. -/
def FoAt (w : World) : Fo → Nat → Nat → Prop
  | .nil, _, _ => True
  | .cons wy pn sz ks rs, b, o => (∃ a c, w.cell? ⟨b, o, none⟩ = some (.int .i64 wy) ∧ w.cell? ⟨b, o + 1, none⟩ = some (.int .i64 pn) ∧ w.cell? ⟨b, o + 2, none⟩ = some (.int .i64 sz) ∧ w.cell? ⟨b, o + 3, none⟩ = some (.slice a ks.len c) ∧ ks.len ≤ c ∧
      (ks = .nil ∨ ∃ b' o', a = some ⟨b', o', none⟩ ∧ FoAt w ks b' o')) ∧ FoAt w rs b (o + 4)
/-- The value of a slice of the trees f. -/
def KAt (w : World) (v : Value) (f : Fo) : Prop := ∃ a c, v = .slice a f.len c ∧ f.len ≤ c ∧ (f = .nil ∨ ∃ b o, a = some ⟨b, o, none⟩ ∧ FoAt w f b o)
/-- All cells stand as they stood. -/
def CK (w w' : World) : Prop := ∀ b o v, w.cell? ⟨b, o, none⟩ = some v → w'.cell? ⟨b, o, none⟩ = some v
theorem CK.refl (w : World) : CK w w := fun _ _ _ h => h
theorem CK.trans {a b c : World} (h : CK a b) (g : CK b c) : CK a c := fun x y v hv => g x y v (h x y v hv)
theorem CK.below {w w' : World} (h : Below w.heap.size w w') : CK w w' := fun b o v hv => by rw [h.cell (lt_of_cell hv)]; exact hv
theorem FoAt.ck {w w' : World} (h : CK w w') : ∀ (f : Fo) (b o : Nat), FoAt w f b o → FoAt w' f b o
  | .nil, _, _, _ => trivial
  | .cons wy pn sz ks rs, b, o, hf => by
    obtain ⟨⟨a, c, h0, h1, h2, h3, hc, hk⟩, hr⟩ := hf
    refine ⟨⟨a, c, h _ _ _ h0, h _ _ _ h1, h _ _ _ h2, h _ _ _ h3, hc, ?_⟩, FoAt.ck h rs b (o + 4) hr⟩
    rcases hk with hk | ⟨b', o', ha, hk⟩
    · exact .inl hk
    · exact .inr ⟨b', o', ha, FoAt.ck h ks b' o' hk⟩
theorem KAt.ck {w w' : World} (h : CK w w') {v : Value} {f : Fo} (hf : KAt w v f) : KAt w' v f := by
  obtain ⟨a, c, hv, hc, hk⟩ := hf
  refine ⟨a, c, hv, hc, ?_⟩
  rcases hk with hk | ⟨b, o, ha, hk⟩
  · exact .inl hk
  · exact .inr ⟨b, o, ha, FoAt.ck h f b o hk⟩
theorem KAt.nil (w : World) : KAt w (.slice none 0 0) .nil := ⟨none, 0, rfl, Nat.le_refl _, .inl rfl⟩
/-- What stands at the first of the trees. -/
theorem FoAt.head {w : World} {wy pn sz : Int} {ks rs : Fo} {b o : Nat} (h : FoAt w (.cons wy pn sz ks rs) b o) : ∃ kv, w.cell? ⟨b, o, none⟩ = some (.int .i64 wy) ∧ w.cell? ⟨b, o + 1, none⟩ = some (.int .i64 pn) ∧ w.cell? ⟨b, o + 2, none⟩ = some (.int .i64 sz) ∧ w.cell? ⟨b, o + 3, none⟩ = some kv ∧ KAt w kv ks ∧ FoAt w rs b (o + 4) := by
  obtain ⟨⟨a, c, h0, h1, h2, h3, hc, hk⟩, hr⟩ := h
  exact ⟨_, h0, h1, h2, h3, ⟨a, c, rfl, hc, hk⟩, hr⟩
/-- A map of panes met. -/
theorem int_law : Keyed Tryd.prog 3 := int_keyed Tryd.underlying3
theorem int_und : Tryd.prog.underlying 3 = some (.int .i64) := by kernel_rfl
theorem map_und : Tryd.prog.underlying 74 = some (.map 3 3) := by kernel_rfl
theorem int_zero (w : World) : (zeroValue 3).run Tryd.prog w = .ok (.int .i64 0) w := by kernel_rfl
def MetAt (w : World) (M : Nat) (l : List Int) : Prop := ∃ D n, n ≤ l.length ∧ w.ownsMap Tryd.prog 3 (plainElem (H := Unit) Tryd.prog 3) M n D ∧ Tidy D ∧ Maps.size D = l.length ∧ (∀ p, D.atKey (.int .i64 p) (.lit (.int .i64 0)) = .lit (.int .i64 (if p ∈ l then 1 else 0))) ∧ ∀ p, Maps.has D (.int .i64 p) = decide (p ∈ l)
theorem met_made (w : World) : MetAt (w.alloc (.map #[] 0)) w.heap.size [] :=
  ⟨.map [], 0, Nat.le_refl _, World.ownsMap_made _ _ _ _, tidy_empty, rfl, fun _ => rfl, fun _ => rfl⟩
theorem key_int {p : Int} (h1 : 1 ≤ p) (h2 : p ≤ 9999) : keyOf Tryd.prog 3 (.int .i64 p) = some (.int .i64 p) := keyOf_int_mk int_und (WalkArith.wf_i64 ⟨by omega, by omega⟩)
theorem MetAt.lookup {w : World} {M : Nat} {l : List Int} (h : MetAt w M l) (p : Int) (h1 : 1 ≤ p) (h2 : p ≤ 9999) : (Instr.lookup 74 (.map (some M)) (.int .i64 p) false).run Tryd.prog w = .ok (.int .i64 (if p ∈ l then 1 else 0)) w := by
  obtain ⟨D, n, _, ho, _, _, hat, _⟩ := h
  obtain ⟨c, hrun, hc, _⟩ := ho.lookup_int int_law map_und int_und (int_zero w) (key_int h1 h2)
  rw [hat] at hc
  simp only [DataW.lit.injEq, Lit.int.injEq, true_and] at hc
  rw [hrun, ← hc]
theorem MetAt.len {w : World} {M : Nat} {l : List Int} (h : MetAt w M l) (ty : TypeId) : (Builtin.len_ #[74] ty #[.map (some M)]).run Tryd.prog w = .ok (.int .i64 l.length) w := by
  obtain ⟨D, n, _, ho, _, hs, _, _⟩ := h
  rw [ho.len map_und ty, hs]
theorem MetAt.put {w : World} {M : Nat} {l : List Int} (h : MetAt w M l) (p : Int) (h1 : 1 ≤ p) (h2 : p ≤ 9999) (hp : p ∉ l) (hl : l.length ≤ 100) :
    ∃ w', Sem.run Tryd.prog (Instr.mapUpdate 74 (.map (some M)) (.int .i64 p) (.int .i64 1)) w = .ok () w' ∧ MetAt w' M (l ++ [p]) ∧ w.grownBy w' (some M) := by
  obtain ⟨D, n, hn, ho, ht, hs, hat, hh⟩ := h
  obtain ⟨w', hrun, r1, r2⟩ := ho.update int_law map_und (by unfold maxLen; omega) (key_int h1 h2) (plainElem_int (a := 1) int_und (by decide))
  refine ⟨w', hrun, ⟨_, n + 1, by simp; omega, r1, ht.put (by trivial) _, ?_, ?_, ?_⟩, r2⟩
  · rw [size_put ht, hh p, hs]
    simp [hp]
  · intro q
    by_cases e : q = p
    · subst e
      rw [atKey_put_same ht.isMap (by trivial)]
      simp
    · rw [atKey_put_other (fun h => e (by injection h)), hat q]
      simp [e]
  · intro q
    by_cases e : q = p
    · subst e
      rw [has_put_same ht.isMap (by trivial)]
      simp
    · rw [has_put_other (fun h => e (by injection h)), hh q]
      simp [e]
/-- Nothing that was there has turned but the map. -/
structure But (M : Nat) (w w' : World) : Prop where
  os : w'.os = w.os
  tape : w'.tape = w.tape
  output : w'.output = w.output
  size : w.heap.size ≤ w'.heap.size
  block : ∀ i, i < w.heap.size → i ≠ M → w'.heap[i]? = w.heap[i]?
theorem But.refl (M : Nat) (w : World) : But M w w := ⟨rfl, rfl, rfl, Nat.le_refl _, fun _ _ _ => rfl⟩
theorem But.trans {M : Nat} {a b c : World} (h : But M a b) (g : But M b c) : But M a c :=
  ⟨g.os.trans h.os, g.tape.trans h.tape, g.output.trans h.output, Nat.le_trans h.size g.size, fun i hi hne => (g.block i (Nat.lt_of_lt_of_le hi h.size) hne).trans (h.block i hi hne)⟩
theorem But.of_below {M : Nat} {w w' : World} (h : Below w.heap.size w w') : But M w w' := ⟨h.os, h.tape, h.output, h.size, fun i hi _ => h.block i hi⟩
theorem But.of_grown {M : Nat} {w w' : World} (h : w.grownBy w' (some M)) : But M w w' := ⟨h.os, h.tape, h.output, h.size, fun i hi hne => h.block i hi (by simpa using hne)⟩
theorem But.below {M N : Nat} {w w' : World} (h : But M w w') (hM : N ≤ M) (hN : N ≤ w.heap.size) : Below N w w' := ⟨h.os, h.tape, h.output, h.size, fun i hi => h.block i (by omega) (by omega)⟩
theorem But.heap {M : Nat} {w w' : World} {j : Nat} {o : Obj} (h : But M w w') (hj : w.heap[j]? = some o) (hne : j ≠ M) : w'.heap[j]? = some o :=
  (h.block j (Array.getElem?_eq_some_iff.1 hj).1 hne).trans hj
theorem MetAt.map {w : World} {M : Nat} {l : List Int} (h : MetAt w M l) : ∃ es cl, w.heap[M]? = some (.map es cl) := by
  obtain ⟨D, n, _, ⟨es, cl, hh, _⟩, _⟩ := h
  exact ⟨es, cl, hh⟩
theorem MetAt.lt {w : World} {M : Nat} {l : List Int} (h : MetAt w M l) : M < w.heap.size := by
  obtain ⟨es, cl, hh⟩ := h.map
  exact (Array.getElem?_eq_some_iff.1 hh).1
theorem MetAt.keep {w w' : World} {M : Nat} {l : List Int} (h : MetAt w M l) (hb : Below w.heap.size w w') : MetAt w' M l := by
  obtain ⟨D, n, hn, ⟨es, cl, hh, r⟩, q⟩ := h
  exact ⟨D, n, hn, ⟨es, cl, by rw [hb.block M (Array.getElem?_eq_some_iff.1 hh).1]; exact hh, r⟩, q⟩
/-- So no cell turns. -/
theorem CK.of_but {M : Nat} {w w' : World} {l : List Int} (h : But M w w') (hm : MetAt w M l) : CK w w' := by
  intro b o v hv
  have hb : b ≠ M := by
    rintro rfl
    obtain ⟨es, cl, hh⟩ := hm.map
    unfold World.cell? at hv
    simp only [hh] at hv
    cases hv
  have hlt := lt_of_cell hv
  have e := h.block b hlt hb
  unfold World.cell? at hv ⊢
  simp only [e]
  exact hv
end Spl
end Go.Proofs.YtckkbmgdaplaaaaDoor
