/- How a reader lies in memory. -/
import Derived.Test.YtmgmdijhiplalaaDoorRows
import Derived.Test.YtmgmdijhiplalaaDoorParseMath
import Derived.WalkKit
import Derived.ProofKit
import Derived.OpenShut
import Derived.Deep.LoopGhost
import Derived.Deep.Draws
import Derived.Laws.Rows
import Derived.Laws.Tables
import Derived.Laws.CopyOwn
import Derived.Laws.OwnMore
import Derived.WalkSmall
import Derived.Maps.AppendAt
import Derived.Deep.MidRow
import Derived.Deep.RegionHeld3
import Derived.Deep.CutRange
namespace Go.Proofs.YtmgmdijhiplalaaDoor
open Go.ChangeShapes Go.WideShapes Go.ChangeAt Go.RowKit
namespace Prs
def tellV (T : Nat) : Value := .func (.func 18) #[] #[.pointer (some ⟨T, 0, none⟩)]
def rdCells (s : St) (pv : Value) (T : Nat) : Array Value := #[.int .i64 s.at', .int .u8 s.mark, .string s.mid, pv, .string s.txt, .string s.left, .bool s.late, tellV T]
def ints (l : List Int) : List Value := l.map (Value.int .i64 ·)
theorem ints_len (l : List Int) : (ints l).length = l.length := by simp [ints]
def evCells (e : Ev) (q : Value) : List Value := [.int .i64 e.kind, .int .i32 e.r, .int .u8 e.fin, .int .u8 e.mark, .string e.mid, q, .string e.txt]
def evFlat (l : List (Ev × Value)) : List Value := l.flatMap fun p => evCells p.1 p.2
theorem evFlat_snoc (l : List (Ev × Value)) (e : Ev) (q : Value) : evFlat (l ++ [(e, q)]) = evFlat l ++ evCells e q := by simp [evFlat]
/-- Numbers in a row of their own, in a block from base on and below N. -/
def PsAt (W : World) (base N : Nat) (q : Value) (l : List Int) : Prop := W.ownsRow base 3 1 q l.length (ints l) ∧ ∀ k, q.ownBlock = some k → k < N
structure Rd (w0 : World) (R T : Nat) (s : St) (es : List Ev) (W : World) (N : Nat) (pv tv : Value) (eqs : List (Ev × Value)) : Prop where
  low : Below w0.heap.size w0 W
  rb : w0.heap.size ≤ R
  tb : w0.heap.size ≤ T
  r : W.heap[R]? = some (.cells (rdCells s pv T) 46 (0, 0))
  t : W.heap[T]? = some (.cells #[tv] 26 (0, 0))
  p : W.ownsRow N 3 1 pv s.ps.length (ints s.ps)
  e : W.ownsRow w0.heap.size 37 7 tv es.length (evFlat eqs)
  es : eqs.map (·.1) = es
  q : ∀ x, x ∈ eqs → PsAt W w0.heap.size N x.2 x.1.ps
  n0 : w0.heap.size ≤ N
  n1 : N ≤ W.heap.size
def RdE (w0 : World) (R T : Nat) (s : St) (es : List Ev) (W : World) : Prop := ∃ N pv tv eqs, Rd w0 R T s es W N pv tv eqs
theorem blk_lt {w : World} {p : Nat} {o : Obj} (h : w.heap[p]? = some o) : p < w.heap.size := (Array.getElem?_eq_some_iff.1 h).1
/-- A row of one type lies in no block of another. -/
theorem row_ne {w : World} {base : Nat} {e e' : TypeId} {size : Nat} {v : Value} {n : Nat} {xs : List Value} (h : w.ownsRow base e size v n xs) {g : Nat} {A : Array Value} (hg : w.heap[g]? = some (.cells A e' (0, 0))) (hne : e ≠ e') : v.ownBlock ≠ some g := by
  obtain ⟨_, h | ⟨q, cap, cur, rfl, _, hq, _⟩⟩ := h
  · rw [h.1]; simp [Value.ownBlock]
  · intro e
    simp only [Value.ownBlock, Option.some.injEq] at e
    subst e
    rw [hq] at hg
    injection hg with hg
    injection hg with _ hg
    exact hne hg
theorem row_block {w : World} {base : Nat} {e : TypeId} {size : Nat} {v : Value} {n : Nat} {xs : List Value} (h : w.ownsRow base e size v n xs) {g : Nat} (hg : v.ownBlock = some g) : ∃ A, w.heap[g]? = some (.cells A e (0, 0)) := by
  obtain ⟨_, h | ⟨q, cap, cur, rfl, _, hq, _⟩⟩ := h
  · rw [h.1] at hg; simp [Value.ownBlock] at hg
  · simp only [Value.ownBlock, Option.some.injEq] at hg
    subst hg
    exact ⟨_, hq⟩
theorem row_same {w w' : World} {base : Nat} {e : TypeId} {size : Nat} {v : Value} {n : Nat} {xs : List Value} (h : w.ownsRow base e size v n xs) (hk : ∀ g, v.ownBlock = some g → w'.heap[g]? = w.heap[g]?) : w'.ownsRow base e size v n xs := by
  refine ⟨h.1, ?_⟩
  rcases h.2 with h2 | ⟨g, cap, cur, hv, hg, hh, r⟩
  · exact .inl h2
  · exact .inr ⟨g, cap, cur, hv, hg, by rw [hk g (by rw [hv]; rfl)]; exact hh, r⟩
/-- The reader's own fields, or what was told, changed; all else as it was. -/
theorem Rd.turn {w0 : World} {R T : Nat} {s s' : St} {es : List Ev} {W W' : World} {N : Nat} {pv pv' tv : Value} {eqs : List (Ev × Value)} (h : Rd w0 R T s es W N pv tv eqs) (hl : Below w0.heap.size w0 W')
    (hr : W'.heap[R]? = some (.cells (rdCells s' pv' T) 46 (0, 0))) (hk : ∀ k, k < W.heap.size → k ≠ R → W'.heap[k]? = W.heap[k]?) (hs : W.heap.size ≤ W'.heap.size) (hp : (pv' = pv ∧ s'.ps = s.ps) ∨ (pv' = .slice none 0 0 ∧ s'.ps = [])) : Rd w0 R T s' es W' N pv' tv eqs := by
  have hRT : R ≠ T := by
    intro e
    have h1 := h.r
    rw [e, h.t] at h1
    simp at h1
  have ne : ∀ {base : Nat} {e : TypeId} {size : Nat} {v : Value} {n : Nat} {xs : List Value}, W.ownsRow base e size v n xs → e ≠ 46 → ∀ g, v.ownBlock = some g → W'.heap[g]? = W.heap[g]? := fun ho hne g hg => by
    obtain ⟨A, hA⟩ := row_block ho hg
    refine hk g (blk_lt hA) fun e => ?_
    rw [e, h.r] at hA
    injection hA with hA
    injection hA with _ hA
    exact hne hA.symm
  refine ⟨hl, h.rb, h.tb, hr, ?_, ?_, row_same h.e (ne h.e (by decide)), h.es, fun x hx => ⟨row_same (h.q x hx).1 (ne (h.q x hx).1 (by decide)), (h.q x hx).2⟩, h.n0, by have := h.n1; omega⟩
  · rw [hk T (blk_lt h.t) (Ne.symm hRT)]
    exact h.t
  · rcases hp with ⟨rfl, h2⟩ | ⟨rfl, h2⟩
    · rw [h2]
      exact row_same h.p (ne h.p (by decide))
    · rw [h2]
      exact World.ownsRow_nil _ _ _ _
/-- A world in which only new blocks were laid. -/
theorem Rd.below {w0 : World} {R T : Nat} {s : St} {es : List Ev} {W W' : World} {N : Nat} {pv tv : Value} {eqs : List (Ev × Value)} (h : Rd w0 R T s es W N pv tv eqs) (hb : Below W.heap.size W W') : Rd w0 R T s es W' N pv tv eqs :=
  h.turn (h.low.trans (hb.mono h.low.size)) (by rw [hb.block _ (blk_lt h.r)]; exact h.r) (fun k hk _ => hb.block k hk) hb.size (.inl ⟨rfl, rfl⟩)
/-- With no numbers of its own, all blocks may be another's. -/
theorem Rd.raise {w0 : World} {R T : Nat} {s : St} {es : List Ev} {W : World} {N : Nat} {tv : Value} {eqs : List (Ev × Value)} (h : Rd w0 R T s es W N (.slice none 0 0) tv eqs) : Rd w0 R T s es W W.heap.size (.slice none 0 0) tv eqs := by
  refine ⟨h.low, h.rb, h.tb, h.r, h.t, ?_, h.e, h.es, fun x hx => ⟨(h.q x hx).1, fun k hk => Nat.lt_of_lt_of_le ((h.q x hx).2 k hk) h.n1⟩, h.low.size, Nat.le_refl _⟩
  have := h.p
  refine ⟨this.1, ?_⟩
  rcases this.2 with h2 | ⟨g, cap, cur, hv, _⟩
  · exact .inl h2
  · simp at hv
theorem cells8 {W : World} {R : Nat} {a b c d e f g h : Value} {t : TypeId} (hR : W.heap[R]? = some (.cells #[a, b, c, d, e, f, g, h] t (0, 0))) : W.cell? ⟨R, 0, none⟩ = some a ∧ W.cell? ⟨R, 1, none⟩ = some b ∧ W.cell? ⟨R, 2, none⟩ = some c ∧ W.cell? ⟨R, 3, none⟩ = some d ∧ W.cell? ⟨R, 4, none⟩ = some e ∧ W.cell? ⟨R, 5, none⟩ = some f ∧ W.cell? ⟨R, 6, none⟩ = some g ∧ W.cell? ⟨R, 7, none⟩ = some h ∧ ∀ i, W.frozen? ⟨R, i, none⟩ = false := by
  refine ⟨?_, ?_, ?_, ?_, ?_, ?_, ?_, ?_, fun i => ?_⟩
  all_goals first | (unfold World.cell?; rw [hR]; rfl) | (unfold World.frozen?; rw [hR]; simp)
theorem set_take (L : List Value) (o : Nat) (v : Value) (h : o < L.length) : (L.set o v).take (o + 1) = L.take o ++ [v] := by
  rw [List.set_eq_take_append_cons_drop, if_pos h, List.take_append, List.length_take, Nat.min_eq_left (by omega), Nat.add_sub_cancel_left, List.take_of_length_le (by rw [List.length_take]; omega)]
  rfl
theorem set_drop (L : List Value) (o k : Nat) (v : Value) (h : o < k) : (L.set o v).drop k = L.drop k := by
  rw [List.drop_set, if_pos h]
theorem heap_setCells (g : Nat) (t : TypeId) : ∀ (vs : List Value) (o : Nat) (w : World) (L : List Value), w.heap[g]? = some (.cells L.toArray t (0, 0)) → o + vs.length ≤ L.length → (w.setCells g o vs).heap[g]? = some (.cells (L.take o ++ (vs ++ L.drop (o + vs.length))).toArray t (0, 0))
  | [], o, w, L, h, _ => by
    show w.heap[g]? = _
    rw [h]; simp
  | v :: r, o, w, L, h, hl => by
    rw [List.length_cons] at hl
    have h1 := heap_setCell_same w g o _ t v h
    have h2 := heap_setCells g t r (o + 1) (w.setCell ⟨g, o, none⟩ v) (L.set o v) (by rw [h1]; simp) (by rw [List.length_set]; omega)
    show ((w.setCell ⟨g, o, none⟩ v).setCells g (o + 1) r).heap[g]? = _
    rw [h2, set_take L o v (by omega), set_drop L o _ v (by omega), List.append_assoc, List.length_cons, show o + 1 + r.length = o + (r.length + 1) by omega]
    rfl
theorem heap_setCells_ne (g k : Nat) (hne : k ≠ g) : ∀ (vs : List Value) (o : Nat) (w : World), (w.setCells g o vs).heap[k]? = w.heap[k]?
  | [], _, _ => rfl
  | v :: r, o, w => by
    show ((w.setCell ⟨g, o, none⟩ v).setCells g (o + 1) r).heap[k]? = _
    rw [heap_setCells_ne g k hne r (o + 1) _, heap_setCell_other _ _ _ _ hne]
theorem size_setCells (g : Nat) : ∀ (vs : List Value) (o : Nat) (w : World), (w.setCells g o vs).heap.size = w.heap.size
  | [], _, _ => rfl
  | v :: r, o, w => by
    show ((w.setCell ⟨g, o, none⟩ v).setCells g (o + 1) r).heap.size = _
    rw [size_setCells g r (o + 1) _]; simp
theorem below_cells {B g : Nat} {a : World} (hb : B ≤ g) : ∀ (vs : List Value) (o : Nat) (w : World), Below B a w → Below B a (w.setCells g o vs)
  | [], _, _, h => h
  | v :: r, o, _, h => below_cells hb r (o + 1) _ (h.setCell hb v)
theorem there8 {W : World} {R : Nat} {a b c d e f g h : Value} {t : TypeId} (hR : W.heap[R]? = some (.cells #[a, b, c, d, e, f, g, h] t (0, 0))) : W.there R 0 7 := by
  obtain ⟨c0, c1, c2, c3, c4, c5, c6, c7, cf⟩ := cells8 hR
  intro j hj
  refine ⟨?_, cf _⟩
  rw [Nat.zero_add]
  match j, hj with
  | 0, _ => rw [c0]; rfl
  | 1, _ => rw [c1]; rfl
  | 2, _ => rw [c2]; rfl
  | 3, _ => rw [c3]; rfl
  | 4, _ => rw [c4]; rfl
  | 5, _ => rw [c5]; rfl
  | 6, _ => rw [c6]; rfl
theorem cells_of_block {W : World} {g : Nat} {L : List Value} {t : TypeId} (h : W.heap[g]? = some (.cells L.toArray t (0, 0))) : ∀ j u, L[j]? = some u → W.cell? ((⟨g, 0, none⟩ : Addr).add j) = some u := fun j u hj => by
  rw [Addr.add_mid, Nat.zero_add]
  unfold World.cell?
  rw [h]
  simpa using hj
theorem cell1 {W : World} {g : Nat} {v : Value} {t : TypeId} (h : W.heap[g]? = some (.cells #[v] t (0, 0))) : W.cell? ⟨g, 0, none⟩ = some v ∧ W.frozen? ⟨g, 0, none⟩ = false := by
  constructor
  · unfold World.cell?; rw [h]; rfl
  · unfold World.frozen?; rw [h]; simp
theorem new_two (w : World) (o0 o1 : Obj) : ((w.alloc o0).alloc o1).heap[w.heap.size + 1]? = some o1 := by
  have s1 : (w.alloc o0).heap.size = w.heap.size + 1 := by simp
  rw [← s1, heap_alloc_new]
theorem below_two (w : World) (o0 o1 : Obj) : Below w.heap.size w ((w.alloc o0).alloc o1) := ((Below.refl _ _).alloc (Nat.le_refl _) _).alloc (by simp) _
end Prs
end Go.Proofs.YtmgmdijhiplalaaDoor
