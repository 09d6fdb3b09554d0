/- How the reference's reader lies in memory: its state, what it told, and its two closures. -/
import Derived.Test.YtmgmdijhiplalaaDoorParseJoin
namespace Go.Proofs.YtmgmdijhiplalaaDoor
open Go.ChangeShapes Go.WideShapes Go.ChangeAt Go.RowKit
namespace Prs
def stCells (s : St) (pv : Value) : Array Value := #[.int .i64 s.at', .int .u8 s.mark, .string s.mid, pv, .string s.txt, .string s.left, .bool s.late]
def groundV (R : Nat) : Value := .func (.func 27) #[] #[.pointer (some ⟨R, 0, none⟩)]
def oneV (R T G O : Nat) : Value := .func (.func 28) #[] #[.pointer (some ⟨R, 0, none⟩), .pointer (some ⟨T, 0, none⟩), .pointer (some ⟨G, 0, none⟩), .pointer (some ⟨O, 0, none⟩)]
structure Rf (w0 : World) (R T G O : Nat) (s : St) (es : List Ev) (W : World) (N : Nat) (pv tv : Value) (eqs : List (Ev × Value)) : Prop where
  low : Below w0.heap.size w0 W
  rb : w0.heap.size ≤ R
  tb : w0.heap.size ≤ T
  r : W.heap[R]? = some (.cells (stCells s pv) 24 (0, 0))
  t : W.heap[T]? = some (.cells #[tv] 26 (0, 0))
  g : W.heap[G]? = some (.cells #[groundV R] 1 (0, 0))
  o : W.heap[O]? = some (.cells #[oneV R T G O] 47 (0, 0))
  z : W.heap[R + 1]? = some (.cells #[.int .i64 0, .int .u8 0, .string ⟨#[]⟩, .slice none 0 0, .string ⟨#[]⟩, .string ⟨#[]⟩, .bool false] 24 (0, 0))
  p : W.ownsRow N 3 1 pv s.ps.length (ints s.ps)
  e : W.ownsRow w0.heap.size 37 7 tv es.length (evFlat eqs)
  es : eqs.map (·.1) = es
  q : ∀ x, x ∈ eqs → PsAt W w0.heap.size N x.2 x.1.ps
  n0 : w0.heap.size ≤ N
  n1 : N ≤ W.heap.size
def RfE (w0 : World) (R T G O : Nat) (s : St) (es : List Ev) (W : World) : Prop := ∃ N pv tv eqs, Rf w0 R T G O s es W N pv tv eqs
theorem blk_type {W : World} {a b : Nat} {A B : Array Value} {t u : TypeId} (ha : W.heap[a]? = some (.cells A t (0, 0))) (hb : W.heap[b]? = some (.cells B u (0, 0))) (hne : t ≠ u) : a ≠ b := by
  intro e
  rw [e, hb] at ha
  injection ha with ha
  injection ha with _ ha
  exact hne ha.symm
/-- The state's own cells changed; all else as it was. -/
theorem Rf.turn {w0 : World} {R T G O : Nat} {s s' : St} {es : List Ev} {W W' : World} {N N' : Nat} {pv pv' tv : Value} {eqs : List (Ev × Value)} (h : Rf w0 R T G O s es W N pv tv eqs) (hl : Below w0.heap.size w0 W')
    (hr : W'.heap[R]? = some (.cells (stCells s' pv') 24 (0, 0))) (hk : ∀ (k : Nat) (A : Array Value) (u : TypeId), W.heap[k]? = some (.cells A u (0, 0)) → u ≠ 24 → u ≠ 3 → W'.heap[k]? = some (.cells A u (0, 0))) (hi : ∀ {v : Value} {l : List Int}, PsAt W w0.heap.size N v l → PsAt W' w0.heap.size N' v l) (hp : W'.ownsRow N' 3 1 pv' s'.ps.length (ints s'.ps)) (h0 : w0.heap.size ≤ N') (h1 : N' ≤ W'.heap.size) (hz : W'.heap[R + 1]? = some (.cells #[.int .i64 0, .int .u8 0, .string ⟨#[]⟩, .slice none 0 0, .string ⟨#[]⟩, .string ⟨#[]⟩, .bool false] 24 (0, 0))) : Rf w0 R T G O s' es W' N' pv' tv eqs := by
  refine ⟨hl, h.rb, h.tb, hr, hk _ _ _ h.t (by decide) (by decide), hk _ _ _ h.g (by decide) (by decide), hk _ _ _ h.o (by decide) (by decide), hz, hp, row_same h.e fun g hg => ?_, h.es, fun x hx => hi (h.q x hx), h0, h1⟩
  obtain ⟨A, hA⟩ := row_block h.e hg
  rw [hk g A _ hA (by decide) (by decide), hA]
theorem PsAt.same {W W' : World} {b N N' : Nat} {v : Value} {l : List Int} (h : PsAt W b N v l) (hk : ∀ (k : Nat) (A : Array Value), W.heap[k]? = some (.cells A 3 (0, 0)) → W'.heap[k]? = some (.cells A 3 (0, 0))) (hN : N ≤ N') : PsAt W' b N' v l :=
  ⟨row_same h.1 fun g hg => by
    obtain ⟨A, hA⟩ := row_block h.1 hg
    rw [hk g A hA, hA], fun k hk => Nat.lt_of_lt_of_le (h.2 k hk) hN⟩
theorem Rf.below {w0 : World} {R T G O : Nat} {s : St} {es : List Ev} {W W' : World} {N : Nat} {pv tv : Value} {eqs : List (Ev × Value)} (h : Rf w0 R T G O s es W N pv tv eqs) (hb : Below W.heap.size W W') : Rf w0 R T G O s es W' N pv tv eqs := by
  have hs : ∀ (k : Nat) (o : Obj), W.heap[k]? = some o → W'.heap[k]? = some o := fun k o hk => stay hk hb
  refine h.turn (h.low.trans (hb.mono h.low.size)) (hs _ _ h.r) (fun k A u hk _ _ => hs _ _ hk) (fun hq => hq.same (fun k A hk => hs _ _ hk) (Nat.le_refl _)) (row_same h.p fun g hg => ?_) h.n0 (Nat.le_trans h.n1 hb.size) (hs _ _ h.z)
  obtain ⟨A, hA⟩ := row_block h.p hg
  rw [hs _ _ hA, hA]
/-- New cells in the state's block, the numbers as they were or none. -/
theorem Rf.put {w0 : World} {R T G O : Nat} {s s' : St} {es : List Ev} {W W' : World} {N : Nat} {pv pv' tv : Value} {eqs : List (Ev × Value)} (h : Rf w0 R T G O s es W N pv tv eqs) (hl : Below w0.heap.size w0 W') (hr : W'.heap[R]? = some (.cells (stCells s' pv') 24 (0, 0)))
    (hk : ∀ k, k < W.heap.size → k ≠ R → W'.heap[k]? = W.heap[k]?) (hs : W.heap.size ≤ W'.heap.size) (hp : (pv' = pv ∧ s'.ps = s.ps) ∨ (pv' = .slice none 0 0 ∧ s'.ps = [])) : Rf w0 R T G O s' es W' N pv' tv eqs := by
  have hb : ∀ (k : Nat) (A : Array Value) (u : TypeId), W.heap[k]? = some (.cells A u (0, 0)) → u ≠ 24 → W'.heap[k]? = some (.cells A u (0, 0)) := fun k A u hA hu => by
    rw [hk k (blk_lt hA) (blk_type hA h.r hu)]
    exact hA
  refine h.turn hl hr (fun k A u hA hu _ => hb k A u hA hu) (fun hq => hq.same (fun k A hA => hb k A _ hA (by decide)) (Nat.le_refl _)) ?_ h.n0 (Nat.le_trans h.n1 hs) (by rw [hk _ (blk_lt h.z) (by omega)]; exact h.z)
  rcases hp with ⟨rfl, h2⟩ | ⟨rfl, h2⟩
  · rw [h2]
    refine row_same h.p fun g hg => ?_
    obtain ⟨A, hA⟩ := row_block h.p hg
    rw [hb g A _ hA (by decide), hA]
  · rw [h2]
    exact World.ownsRow_nil _ _ _ _
theorem Rf.cell {w0 : World} {R T G O : Nat} {s s' : St} {es : List Ev} {W : World} {N : Nat} {pv tv : Value} {eqs : List (Ev × Value)} (h : Rf w0 R T G O s es W N pv tv eqs) (i : Nat) (v : Value) (hc : (stCells s pv).setIfInBounds i v = stCells s' pv) (hp : s'.ps = s.ps) : Rf w0 R T G O s' es (W.setCell ⟨R, i, none⟩ v) N pv tv eqs := by
  refine h.put (h.low.setCell h.rb _) ?_ (fun k _ hk => heap_setCell_other _ _ _ _ hk) (by simp) (.inl ⟨rfl, hp⟩)
  have := heap_setCell_same W R i _ _ v h.r
  rw [hc] at this
  exact this
theorem Rf.bared {w0 : World} {R T G O : Nat} {s : St} {es : List Ev} {W : World} {N : Nat} {pv tv : Value} {eqs : List (Ev × Value)} (h : Rf w0 R T G O s es W N pv tv eqs) (a : Int) : Rf w0 R T G O (bare a) es (W.setRow R (stCells (bare a) (.slice none 0 0))) N (.slice none 0 0) tv eqs :=
  h.put (below_setRow h.low h.rb _) (setRow_heap W R _ _ _ _ h.r) (fun k _ hk => setRow_other W R k _ hk) (by simp) (.inr ⟨rfl, rfl⟩)
theorem Rf.raise {w0 : World} {R T G O : Nat} {s : St} {es : List Ev} {W : World} {N : Nat} {tv : Value} {eqs : List (Ev × Value)} (h : Rf w0 R T G O s es W N (.slice none 0 0) tv eqs) : Rf w0 R T G O s es W W.heap.size (.slice none 0 0) tv eqs := by
  refine ⟨h.low, h.rb, h.tb, h.r, h.t, h.g, h.o, h.z, ?_, h.e, h.es, fun x hx => ⟨(h.q x hx).1, fun k hk => Nat.lt_of_lt_of_le ((h.q x hx).2 k hk) h.n1⟩, h.low.size, Nat.le_refl _⟩
  have := h.p
  refine ⟨this.1, ?_⟩
  rcases this.2 with h2 | ⟨g, cap, cur, hv, _⟩
  · exact .inl h2
  · simp at hv
/-- One event more is told. -/
theorem Rf.told {w0 : World} {R T G O : Nat} {s : St} {es : List Ev} {W W3 : World} {N : Nat} {pv tv v3 : Value} {eqs : List (Ev × Value)} (h : Rf w0 R T G O s es W N pv tv eqs) (ev : Ev) (q : Value) (hq : PsAt W w0.heap.size N q ev.ps)
    (hown3 : W3.ownsRow w0.heap.size 37 7 v3 (es.length + 1) (evFlat eqs ++ evCells ev q)) (hgrow : W.grownBy W3 tv.ownBlock) : Rf w0 R T G O s (es ++ [ev]) (W3.setCell ⟨T, 0, none⟩ v3) N pv v3 (eqs ++ [(ev, q)]) := by
  have hT3 : W3.heap[T]? = some (.cells #[tv] 26 (0, 0)) := (hgrow.block T (blk_lt h.t) (fun e => row_ne h.e h.t (by decide) e.symm)).trans h.t
  have hW3 : ∀ (k : Nat) (A : Array Value) (u : TypeId), W.heap[k]? = some (.cells A u (0, 0)) → 37 ≠ u → u ≠ 26 → (W3.setCell ⟨T, 0, none⟩ v3).heap[k]? = some (.cells A u (0, 0)) := fun k A u hk hne hu => by
    rw [heap_setCell_other _ _ _ _ (blk_type hk h.t hu), hgrow.block k (blk_lt hk) (fun e1 => row_ne h.e hk hne e1.symm)]
    exact hk
  have hps : ∀ {v : Value} {l : List Int}, PsAt W w0.heap.size N v l → PsAt (W3.setCell ⟨T, 0, none⟩ v3) w0.heap.size N v l := fun ho => ho.same (fun k A hA => hW3 k A _ hA (by decide) (by decide)) (Nat.le_refl _)
  refine ⟨(h.low.grown hgrow h.low.size (fun k hk => (h.e.lt k hk).1)).setCell h.tb _, h.rb, h.tb, hW3 _ _ _ h.r (by decide) (by decide), ?_, hW3 _ _ _ h.g (by decide) (by decide), hW3 _ _ _ h.o (by decide) (by decide), hW3 _ _ _ h.z (by decide) (by decide), ?_, ?_, by rw [List.map_append, h.es]; rfl, ?_, h.n0, ?_⟩
  · have := heap_setCell_same W3 T 0 _ _ v3 hT3
    simpa using this
  · refine row_same h.p fun g hg => ?_
    obtain ⟨A, hA⟩ := row_block h.p hg
    rw [hW3 g A _ hA (by decide) (by decide), hA]
  · rw [evFlat_snoc, List.length_append, List.length_singleton]
    refine row_same hown3 fun g hg => ?_
    obtain ⟨A, hA⟩ := row_block hown3 hg
    exact heap_setCell_other _ _ _ _ (blk_type hA hT3 (by decide))
  · intro x hx
    rw [List.mem_append, List.mem_singleton] at hx
    rcases hx with hx | rfl
    · exact hps (h.q x hx)
    · exact hps hq
  · have := h.n1
    have h5 := hgrow.size
    simp
    omega
theorem Rf.cells {w0 : World} {R T G O : Nat} {s : St} {es : List Ev} {W : World} {N : Nat} {pv tv : Value} {eqs : List (Ev × Value)} (h : Rf w0 R T G O s es W N pv tv eqs) : (W.cell? ⟨R, 0, none⟩ = some (.int .i64 s.at') ∧ W.cell? ⟨R, 1, none⟩ = some (.int .u8 s.mark) ∧ W.cell? ⟨R, 2, none⟩ = some (.string s.mid) ∧ W.cell? ⟨R, 3, none⟩ = some pv ∧ W.cell? ⟨R, 4, none⟩ = some (.string s.txt) ∧ W.cell? ⟨R, 5, none⟩ = some (.string s.left) ∧ W.cell? ⟨R, 6, none⟩ = some (.bool s.late) ∧ ∀ i, W.frozen? ⟨R, i, none⟩ = false) ∧ (W.cell? ⟨T, 0, none⟩ = some tv ∧ W.frozen? ⟨T, 0, none⟩ = false) ∧ W.cell? ⟨G, 0, none⟩ = some (groundV R) ∧ W.cell? ⟨O, 0, none⟩ = some (oneV R T G O) :=
  ⟨cells7 (show W.heap[R]? = some (.cells #[.int .i64 s.at', .int .u8 s.mark, .string s.mid, pv, .string s.txt, .string s.left, .bool s.late] 24 (0, 0)) from h.r), cell1 h.t, (cell1 h.g).1, (cell1 h.o).1⟩
set_option maxHeartbeats 2000000 in
set_option maxRecDepth 100000 in
theorem ground_any {w0 : World} {R T G O : Nat} {s : St} {es : List Ev} {W : World} {N : Nat} {pv tv : Value} {eqs : List (Ev × Value)} (h : Rf w0 R T G O s es W N pv tv eqs) :
    Calls Tryd.prog 27 #[.pointer (some ⟨R, 0, none⟩)] W fun e W' => e = .returned (.tuple #[]) ∧ Rf w0 R T G O (bare 0) es W' N (.slice none 0 0) tv eqs := by
  have hr := h.r
  unfold stCells at hr
  have HR : Hid (Rf w0 R T G O s es W N pv tv eqs) := h
  clear h
  go_enter Tryd.func27, Tryd.ntmps27
  go_wp2_with (refine wpList_store_row rfl 24 (.tmp 0) _ rfl R #[.int .i64 0, .int .u8 0, .string ⟨#[]⟩, .slice none 0 0, .string ⟨#[]⟩, .string ⟨#[]⟩, .bool false] rfl rfl _ _ hr (by kernel_rfl) rfl (by simp [Value.oneCell']) ?_)
  go_end0
  exact ⟨rfl, HR.out.bared 0⟩
end Prs
end Go.Proofs.YtmgmdijhiplalaaDoor
