/- Package split: read, of a text that is one. -/
import Derived.Test.YtckkbmgdaplaaaaDoorSplCatch
namespace Go.Proofs.YtckkbmgdaplaaaaDoor
open Go.ChangeShapes Go.WideShapes Go.ChangeAt Go.RowKit Go.Maps Go.Sort
namespace Spl
open Fo
theorem kept {w w' : World} {b : Nat} {o : Obj} (h : w.heap[b]? = some o) (hb : Below w.heap.size w w') : w'.heap[b]? = some o := (hb.block b (Array.getElem?_eq_some_iff.1 h).1).trans h
theorem But.kept {w w' : World} {R b : Nat} {o : Obj} (hb : But R w w') (h : w.heap[b]? = some o) (hR : b ≠ R) : w'.heap[b]? = some o := (hb.block b (Array.getElem?_eq_some_iff.1 h).1 hR).trans h
theorem one_at {w : World} {b : Nat} {v : Value} {t : TypeId} {fr : Nat × Nat} (h : w.heap[b]? = some (.cells #[v] t fr)) : w.cell? ⟨b, 0, none⟩ = some v := by
  unfold World.cell?
  rw [h]
  rfl
/-- A tree stored in a row of four cells. -/
def set4 (w : World) (g : Nat) (a b c d : Value) : World := (((w.setCell ⟨g, 0, none⟩ a).setCell ⟨g, 1, none⟩ b).setCell ⟨g, 2, none⟩ c).setCell ⟨g, 3, none⟩ d
theorem set4_same {w : World} {g : Nat} {x0 x1 x2 x3 : Value} {t : TypeId} (a b c d : Value) (h : w.heap[g]? = some (.cells #[x0, x1, x2, x3] t (0, 0))) : (set4 w g a b c d).heap[g]? = some (.cells #[a, b, c, d] t (0, 0)) :=
  heap_setCell_same _ _ 3 _ _ _ (heap_setCell_same _ _ 2 _ _ _ (heap_setCell_same _ _ 1 _ _ _ (heap_setCell_same _ _ 0 _ _ _ h)))
theorem set4_other {w : World} {g k : Nat} (a b c d : Value) (h : k ≠ g) : (set4 w g a b c d).heap[k]? = w.heap[k]? :=
  (RowKit.Below.heap_setCell _ _ _ _ h).trans ((RowKit.Below.heap_setCell _ _ _ _ h).trans ((RowKit.Below.heap_setCell _ _ _ _ h).trans (RowKit.Below.heap_setCell _ _ _ _ h)))
theorem set4_below {N g : Nat} {w w' : World} (a b c d : Value) (h : Below N w w') (hg : N ≤ g) : Below N w (set4 w' g a b c d) :=
  (((h.setCell (p := ⟨g, 0, none⟩) hg a).setCell (p := ⟨g, 1, none⟩) hg b).setCell (p := ⟨g, 2, none⟩) hg c).setCell (p := ⟨g, 3, none⟩) hg d
theorem set4_kat {w : World} {N g : Nat} {v : Value} {f : Fo} (a b c d : Value) (h : KAt (low w N) v f) (hg : g < N) : KAt (low (set4 w g a b c d) N) v f :=
  (((h.set a hg).set b hg).set c hg).set d hg
set_option maxHeartbeats 4000000 in
set_option maxRecDepth 100000 in
theorem read_good (t b0 b1 b2 : ByteArray) (wy pn sz : Int) (ks : Fo) (w : World) (hts : t.size ≤ 100000) (hB : BrTab w b0 b1 b2) (hb : Br b1 b2) (hT : TsAt t 0 (cons wy pn sz ks nil) 0 t.size) :
    Calls Tryd.prog 60 #[.string t] w fun e w' => ∃ kv, e = .returned (.tuple #[.agg #[.int .i64 wy, .int .i64 pn, .int .i64 sz, kv], .int .i64 0, .int .i64 0]) ∧ KAt (low w' w.heap.size) kv ks ∧ Below w.heap.size w w' := by
  have hmf : ∀ (fn : Fn) (first cap : Array Value) (w : World), (Instr.makeFunc fn first cap).run Tryd.prog w = .ok (.func fn first cap) w := fun _ _ _ _ => rfl
  obtain ⟨W3, hW3⟩ : ∃ W3, ((w.alloc (.cells #[.int .i64 0, .int .i64 0, .int .i64 0, .slice none 0 0] 24)).alloc (.cells #[.int .i64 0] 3)).alloc (.cells #[.int .i64 0] 26) = W3 := ⟨_, rfl⟩
  have h3 : W3.heap.size = w.heap.size + 1 + 1 + 1 := by
    rw [← hW3]
    simp only [World.size_alloc]
  have kb3 : Below w.heap.size w W3 := by
    rw [← hW3]
    exact (((Below.refl _ _).alloc (Nat.le_refl _) _).alloc (by simp only [World.size_alloc]; omega) _).alloc (by simp only [World.size_alloc]; omega) _
  have z0 : W3.heap[w.heap.size]? = some (.cells #[.int .i64 0, .int .i64 0, .int .i64 0, .slice none 0 0] 24 (0, 0)) := by
    rw [← hW3]
    exact (old_at _ _ _ (by simp only [World.size_alloc]; omega)).trans ((old_at _ _ _ (by simp only [World.size_alloc]; omega)).trans (heap_alloc_new w _))
  have z1 : W3.heap[w.heap.size + 1]? = some (.cells #[.int .i64 0] 3 (0, 0)) := by
    rw [← hW3]
    have := heap_alloc_new (w.alloc (.cells #[.int .i64 0, .int .i64 0, .int .i64 0, .slice none 0 0] 24)) (.cells #[.int .i64 0] 3)
    simp only [World.size_alloc] at this
    exact (old_at _ _ _ (by simp only [World.size_alloc]; omega)).trans this
  have z2 : W3.heap[w.heap.size + 1 + 1]? = some (.cells #[.int .i64 0] 26 (0, 0)) := by
    rw [← hW3]
    have := heap_alloc_new ((w.alloc (.cells #[.int .i64 0, .int .i64 0, .int .i64 0, .slice none 0 0] 24)).alloc (.cells #[.int .i64 0] 3)) (.cells #[.int .i64 0] 26)
    simp only [World.size_alloc] at this
    exact this
  have Z := heap_alloc_new W3 (.cells #[.string ⟨#[]⟩, .int .i64 0, .int .i64 0] 101)
  have k4 : Below W3.heap.size W3 (W3.alloc (.cells #[.string t, .int .i64 0, .int .i64 0] 101)) := (Below.refl _ _).alloc (Nat.le_refl _) _
  have hR : RdAt (W3.alloc (.cells #[.string t, .int .i64 0, .int .i64 0] 101)) W3.heap.size t 0 0 := heap_alloc_new W3 _
  have o0 := kept z0 k4
  have o1 := kept z1 k4
  have o2 := kept z2 k4
  have kb := kb3.trans (k4.mono kb3.size)
  obtain ⟨W4, hW4⟩ : ∃ W4, W3.alloc (.cells #[.string t, .int .i64 0, .int .i64 0] 101) = W4 := ⟨_, rfl⟩
  rw [hW4] at hR o0 o1 o2 kb k4
  rw [h3] at hR
  have HW4 : Hid (W3.alloc (.cells #[.string t, .int .i64 0, .int .i64 0] 101) = W4) := hW4
  clear hW4
  obtain ⟨m, hm, hP, hrest⟩ := row_of_ts (w.heap.size + 1 + 1 + 1) t b0 b1 b2 hts hb _ 0 0 t.size hT
  obtain rfl : m = t.size := by
    rcases hrest with ⟨_, h, _⟩ | ⟨_, h⟩
    · exact h.symm
    · exact absurd h id
  have HC := hP W4 hR (hB.below kb)
  clear hrest hP hT hm hB hb hts
  go_enter_defers Tryd.func60, Tryd.ntmps60
  go_wp2_with ((try rw [hW3]); refine wpList_store_row rfl 101 (.tmp 5) (.tmp 7) rfl W3.heap.size #[.string t, .int .i64 0, .int .i64 0] (by rw [h3]; rfl) rfl _ _ Z (by kernel_rfl) rfl (by simp [Value.oneCell']) ?_)
  rw [← h3, World.setRow_alloc_new, HW4.out]
  simp only [h3]
  refine HC.mono ?_
  rintro e W ⟨kv, rfl, hk, r, b⟩
  obtain ⟨ka, kc, rfl, _⟩ := id hk
  have p0 := b.kept o0 (by omega)
  have p1 := b.kept o1 (by omega)
  have p2 := b.kept o2 (by omega)
  obtain ⟨⟨c0, c1, c2, c3⟩, _⟩ := four_at p0
  have d1 := one_at p1
  have d2 : W.cell? ⟨w.heap.size + 1 + 1, 0, none⟩ = _ := one_at p2
  have f0 : ∀ i, W.frozen? ⟨w.heap.size, i, none⟩ = false := fun i => by simp only [World.frozen?, p0]; rfl
  have f1 : ∀ i, W.frozen? ⟨w.heap.size + 1, i, none⟩ = false := fun i => by simp only [World.frozen?, p1]; rfl
  have f2 : ∀ i, W.frozen? ⟨w.heap.size + 1 + 1, i, none⟩ = false := fun i => by simp only [World.frozen?, p2]; rfl
  obtain ⟨⟨y0, y1, y2⟩, _⟩ := r.cells
  have n01 : w.heap.size ≠ w.heap.size + 1 := by omega
  have n02 : w.heap.size ≠ w.heap.size + 1 + 1 := by omega
  have n12 : w.heap.size + 1 ≠ w.heap.size + 1 + 1 := by omega
  have n03 : w.heap.size + 1 + 1 + 1 ≠ w.heap.size := by omega
  have n10 := n01.symm
  have n20 := n02.symm
  have n21 := n12.symm
  have hsz4 : w.heap.size < W4.heap.size := (Array.getElem?_eq_some_iff.1 o0).1
  go_wp2_with fail
  have q0 := set4_same (.int .i64 wy) (.int .i64 pn) (.int .i64 sz) (.slice ka ks.len kc) (set4_same (.int .i64 wy) (.int .i64 pn) (.int .i64 sz) (.slice ka ks.len kc) p0)
  have q1 := (set4_other (.int .i64 wy) (.int .i64 pn) (.int .i64 sz) (.slice ka ks.len kc) n10).trans ((set4_other (.int .i64 wy) (.int .i64 pn) (.int .i64 sz) (.slice ka ks.len kc) n10).trans p1)
  have q2 := (set4_other (.int .i64 wy) (.int .i64 pn) (.int .i64 sz) (.slice ka ks.len kc) n20).trans ((set4_other (.int .i64 wy) (.int .i64 pn) (.int .i64 sz) (.slice ka ks.len kc) n20).trans p2)
  have q3 := set4_below (.int .i64 wy) (.int .i64 pn) (.int .i64 sz) (.slice ka ks.len kc) (set4_below (.int .i64 wy) (.int .i64 pn) (.int .i64 sz) (.slice ka ks.len kc) (kb.trans (b.below (N := w.heap.size) (by omega) kb.size)) (Nat.le_refl _)) (Nat.le_refl _)
  have q4 := set4_kat (.int .i64 wy) (.int .i64 pn) (.int .i64 sz) (.slice ka ks.len kc) (set4_kat (.int .i64 wy) (.int .i64 pn) (.int .i64 sz) (.slice ka ks.len kc) hk hsz4) hsz4
  unfold set4 at q0 q1 q2 q3 q4
  clear c0 c1 c2 c3 d1 d2 f0 f1 f2 y0 y1 y2 p0 p1 p2 hk r b
  generalize (((((((W.setCell ⟨w.heap.size, 0, none⟩ (.int .i64 wy)).setCell ⟨w.heap.size, 1, none⟩ (.int .i64 pn)).setCell ⟨w.heap.size, 2, none⟩ (.int .i64 sz)).setCell ⟨w.heap.size, 3, none⟩ (.slice ka ks.len kc)).setCell ⟨w.heap.size, 0, none⟩ (.int .i64 wy)).setCell ⟨w.heap.size, 1, none⟩ (.int .i64 pn)).setCell ⟨w.heap.size, 2, none⟩ (.int .i64 sz)).setCell ⟨w.heap.size, 3, none⟩ (.slice ka ks.len kc) = V at *
  have r0 : ((V.setCell ⟨w.heap.size + 1, 0, none⟩ (.int .i64 0)).setCell ⟨w.heap.size + 1 + 1, 0, none⟩ (.int .i64 0)).heap[w.heap.size]? = _ := (RowKit.Below.heap_setCell _ _ _ _ n02).trans ((RowKit.Below.heap_setCell _ _ _ _ n01).trans q0)
  have r1 : ((V.setCell ⟨w.heap.size + 1, 0, none⟩ (.int .i64 0)).setCell ⟨w.heap.size + 1 + 1, 0, none⟩ (.int .i64 0)).heap[w.heap.size + 1]? = some (.cells #[.int .i64 0] 3 (0, 0)) := (RowKit.Below.heap_setCell _ _ _ _ n12).trans (heap_setCell_same _ _ _ _ _ _ q1)
  have r2 : ((V.setCell ⟨w.heap.size + 1, 0, none⟩ (.int .i64 0)).setCell ⟨w.heap.size + 1 + 1, 0, none⟩ (.int .i64 0)).heap[w.heap.size + 1 + 1]? = some (.cells #[.int .i64 0] 26 (0, 0)) := heap_setCell_same _ _ _ _ _ _ ((RowKit.Below.heap_setCell _ _ _ _ n21).trans q2)
  have hs1 : w.heap.size + 1 < W4.heap.size := (Array.getElem?_eq_some_iff.1 o1).1
  have hs2 : w.heap.size + 1 + 1 < W4.heap.size := (Array.getElem?_eq_some_iff.1 o2).1
  have r3 := (q3.setCell (p := ⟨w.heap.size + 1, 0, none⟩) (Nat.le_succ _) (.int .i64 0)).setCell (p := ⟨w.heap.size + 1 + 1, 0, none⟩) (Nat.le_add_right w.heap.size 2) (.int .i64 0)
  have r4 := ((q4.set (i := 0) (.int .i64 0) hs1).set (i := 0) (.int .i64 0) hs2).down (Nat.le_of_lt hsz4)
  generalize (V.setCell ⟨w.heap.size + 1, 0, none⟩ (.int .i64 0)).setCell ⟨w.heap.size + 1 + 1, 0, none⟩ (.int .i64 0) = W5 at *
  refine leaves_cons (f := 73) (args := #[.pointer (some ⟨w.heap.size + 1 + 1 + 1, 0, none⟩), .pointer (some ⟨w.heap.size, 0, none⟩), .pointer (some ⟨w.heap.size + 1, 0, none⟩), .pointer (some ⟨w.heap.size + 1 + 1, 0, none⟩)]) (by simp) (by simp [go_sem]) ?_
  refine (catch_idle ⟨w.heap.size + 1 + 1 + 1, 0, none⟩ ⟨w.heap.size, 0, none⟩ ⟨w.heap.size + 1, 0, none⟩ ⟨w.heap.size + 1 + 1, 0, none⟩ W5).mono ?_
  rintro e u' w'' ⟨rfl, rfl, rfl⟩
  have d1 := one_at r1
  have d2 : w''.cell? ⟨w.heap.size + 1 + 1, 0, none⟩ = _ := one_at r2
  obtain ⟨⟨c0, c1, c2, c3⟩, _⟩ := four_at r0
  have HK : Hid (KAt (low w'' w.heap.size) (.slice ka ks.len kc) ks ∧ Below w.heap.size w w'') := ⟨r4, r3⟩
  clear hmf z0 z1 z2 Z hR o0 o1 o2 HW4 HC q0 q1 q2 q3 q4 r0 r1 r2 r3 r4 k4 kb kb3
  simp [Leaves, settle, results, Tryd.results60, go_sem, c0, c1, c2, c3, d1, d2]
  exact HK.out
end Spl
end Go.Proofs.YtckkbmgdaplaaaaDoor
