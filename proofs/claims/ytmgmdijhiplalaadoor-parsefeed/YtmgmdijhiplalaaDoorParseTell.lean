/- The reader's own steps: enter, tell, print, end. -/
import Derived.Test.YtmgmdijhiplalaaDoorParseRd
namespace Go.Proofs.YtmgmdijhiplalaaDoor
open Go.ChangeShapes Go.WideShapes Go.ChangeAt Go.RowKit
namespace Prs
theorem size_state : (Tryd.prog.info? 24).map (·.size) = some 7 := by kernel_rfl
theorem und_events : Tryd.prog.underlying 26 = some (.slice 37) := by kernel_rfl
theorem info_event : (Tryd.prog.info? 37).map (fun i => (i.zero, i.size, i.bytes)) = some (some (.agg #[.int .i64 0, .int .i32 0, .int .u8 0, .int .u8 0, .string ⟨#[]⟩, .slice none 0 0, .string ⟨#[]⟩]), 7, 72) := by kernel_rfl
def bareV (a : Int) : List Value := [.int .i64 a, .int .u8 0, .string ⟨#[]⟩, .slice none 0 0, .string ⟨#[]⟩, .string ⟨#[]⟩, .bool false]
theorem store_state {ops : Array Oper} {rest : List Oper} {op : Oper} {a : Act} {w : World} {Q : Exit → Act → World → Prop} (hgd : op.guard = none) (x y : Operand) (ho : op.op = .store 24 x y)
    (R : Nat) (n : Int) (hx : a.eval x = .pointer (some ⟨R, 0, none⟩)) (hy : a.eval y = .agg #[.int .i64 n, .int .u8 0, .string ⟨#[]⟩, .slice none 0 0, .string ⟨#[]⟩, .string ⟨#[]⟩, .bool false]) (ht : w.there R 0 7)
    (h : ∀ Z, Z = w.setCells R 0 (bareV n) → wpList Tryd.prog ops Q rest (a.put op.dst undef) Z) : wpList Tryd.prog ops Q (op :: rest) a w :=
  wpList_store_mid hgd 24 x y ho R 0 _ hx hy ht size_state (by simp [Value.oneCell']) (h _ rfl)
set_option maxHeartbeats 1000000 in
set_option maxRecDepth 100000 in
theorem enter_any (a : Int) {w0 : World} {R T : Nat} {s : St} {es : List Ev} {W : World} {N : Nat} {pv tv : Value} {eqs : List (Ev × Value)} (h : Rd w0 R T s es W N pv tv eqs) :
    Calls Tryd.prog 38 #[.pointer (some ⟨R, 0, none⟩), .int .i64 a] W fun e W' => e = .returned (.tuple #[]) ∧ W' = W.setCells R 0 (bareV a) ∧ Rd w0 R T (bare a) es W' N (.slice none 0 0) tv eqs := by
  have hr := h.r
  unfold rdCells at hr
  have ht := there8 hr
  have HR := h
  clear h
  go_enter Tryd.func38, Tryd.ntmps38
  go_wp2_with (refine store_state rfl (.tmp 8) (.tmp 6) rfl R a rfl rfl ht ?_; intro Z hZ)
  go_end0
  subst hZ
  refine ⟨rfl, rfl, HR.turn (below_cells HR.rb _ _ _ HR.low) ?_ (fun k _ hk => heap_setCells_ne R k hk _ _ _) (by rw [size_setCells]; exact Nat.le_refl _) (.inr ⟨rfl, rfl⟩)⟩
  exact heap_setCells R 46 (bareV a) 0 W _ hr (by simp [bareV])
theorem row_form {w : World} {base : Nat} {e : TypeId} {size : Nat} {v : Value} {n : Nat} {xs : List Value} (h : w.ownsRow base e size v n xs) (hn : 0 < n) : ∃ g cap, v = .slice (some ⟨g, 0, none⟩) n cap := by
  obtain ⟨_, h | ⟨q, cap, cur, rfl, _⟩⟩ := h
  · omega
  · exact ⟨q, cap, rfl⟩
theorem Rd.told {w0 : World} {R T : Nat} {s : St} {es : List Ev} {W W3 : World} {N : Nat} {pv tv v3 : Value} {eqs : List (Ev × Value)} (h : Rd w0 R T s es W N pv tv eqs) (ev : Ev) (q : Value) (hq : PsAt W w0.heap.size N q ev.ps) {o o' : Obj}
    (hown3 : W3.ownsRow w0.heap.size 37 7 v3 (es.length + 1) (evFlat eqs ++ evCells ev q)) (hgrow : ((W.alloc o).alloc o').grownBy W3 tv.ownBlock) : Rd w0 R T s (es ++ [ev]) (W3.setCell ⟨T, 0, none⟩ v3) N pv v3 (eqs ++ [(ev, q)]) := by
  have hb := below_two W o o'
  have h2 := h.below hb
  generalize (W.alloc o).alloc o' = W2 at hb h2 hgrow
  have hq2 : W2.ownsRow w0.heap.size 3 1 q ev.ps.length (ints ev.ps) := row_same hq.1 fun g hg => by
    obtain ⟨A, hA⟩ := row_block hq.1 hg
    exact hb.block g (blk_lt hA)
  have hRT : R ≠ T := by
    intro e
    have h1 := h.r
    rw [e, h.t] at h1
    simp at h1
  have hW3 : ∀ {e : TypeId} {A : Array Value} {k : Nat}, W2.heap[k]? = some (.cells A e (0, 0)) → 37 ≠ e → e ≠ 26 → (W3.setCell ⟨T, 0, none⟩ v3).heap[k]? = some (.cells A e (0, 0)) := fun {e A k} hk hne hT => by
    rw [heap_setCell_other _ _ _ _ (by
      intro e1
      simp only at e1
      rw [e1, h2.t] at hk
      injection hk with hk
      injection hk with _ hk
      exact hT hk.symm), hgrow.block k (blk_lt hk) (fun e1 => row_ne h2.e hk hne e1.symm)]
    exact hk
  have hps : ∀ {base : Nat} {v : Value} {n : Nat} {xs : List Value}, W2.ownsRow base 3 1 v n xs → (W3.setCell ⟨T, 0, none⟩ v3).ownsRow base 3 1 v n xs := fun ho => row_same ho fun g hg => by
    obtain ⟨A, hA⟩ := row_block ho hg
    rw [hW3 hA (by decide) (by decide), hA]
  have hT3 : W3.heap[T]? = some (.cells #[tv] 26 (0, 0)) := (hgrow.block T (blk_lt h2.t) (fun e => row_ne h2.e h2.t (by decide) e.symm)).trans h2.t
  refine ⟨?_, h.rb, h.tb, hW3 h2.r (by decide) (by decide), ?_, hps h2.p, ?_, by rw [List.map_append, h.es]; rfl, ?_, h.n0, ?_⟩
  · exact (h2.low.grown hgrow h2.low.size (fun k hk => (h2.e.lt k hk).1)).setCell h.tb _
  · have := heap_setCell_same W3 T 0 _ _ v3 hT3
    simpa using this
  · rw [evFlat_snoc, List.length_append, List.length_singleton]
    refine row_same hown3 fun g hg => ?_
    rw [heap_setCell_other]
    intro e1
    simp only at e1
    obtain ⟨A, hA⟩ := row_block hown3 hg
    rw [e1, hT3] at hA
    injection hA with hA
    injection hA with _ hA
    exact absurd hA (by decide)
  · intro x hx
    rw [List.mem_append, List.mem_singleton] at hx
    rcases hx with hx | rfl
    · exact ⟨hps (h2.q x hx).1, (h2.q x hx).2⟩
    · exact ⟨hps hq2, hq.2⟩
  · have := h2.n1
    have h5 := hgrow.size
    simp
    omega
set_option maxHeartbeats 2000000 in
set_option maxRecDepth 100000 in
theorem tell_any {w0 : World} {R T : Nat} {s : St} {es : List Ev} {W : World} {N : Nat} {pv tv : Value} {eqs : List (Ev × Value)} (h : Rd w0 R T s es W N pv tv eqs) (ev : Ev) (q : Value) (hq : PsAt W w0.heap.size N q ev.ps) (h1 : q.oneCell' = true) (hn : es.length ≤ 1000000) :
    Calls Tryd.prog 18 #[.agg #[.int .i64 ev.kind, .int .i32 ev.r, .int .u8 ev.fin, .int .u8 ev.mark, .string ev.mid, q, .string ev.txt], .pointer (some ⟨T, 0, none⟩)] W fun e W' => e = .returned (.tuple #[]) ∧ ∃ tv', Rd w0 R T s (es ++ [ev]) W' N pv tv' (eqs ++ [(ev, q)]) := by
  obtain ⟨i0, hi, hzz⟩ := Option.map_eq_some_iff.1 info_event
  simp only [Prod.mk.injEq] at hzz
  obtain ⟨hz0, hz1, hz2⟩ := hzz
  have HR : Hid (Rd w0 R T s es W N pv tv eqs) := h
  have HQ : Hid (PsAt W w0.heap.size N q ev.ps) := hq
  obtain ⟨hT0, hTf⟩ := cell1 h.t
  have hTl := blk_lt h.t
  have hown := h.e
  have hsz := h.low.size
  have HN : Hid (tv.ownBlock ≠ some T) := row_ne h.e h.t (by decide)
  have HT : Hid (W.heap[T]? = _) := h.t
  clear h hq
  go_enter Tryd.func18, Tryd.ntmps18
  go_wp2_with (at_builtin; refine wpList_append_own _ rfl _ _ 26 rfl w0.heap.size 37 i0 (.agg #[.int .i64 0, .int .i32 0, .int .u8 0, .int .u8 0, .string ⟨#[]⟩, .slice none 0 0, .string ⟨#[]⟩]) 7 72 und_events hi hz0 hz1 hz2 rfl (by decide) _ _ _ rfl ((hown.alloc _).alloc _) ⟨W.heap.size + 1, 0, none⟩ 1 1 (evCells ev q) rfl rfl (cells_of_block (new_two W _ _)) (by intro u hu; simp [evCells] at hu; rcases hu with rfl | rfl | rfl | rfl | rfl | rfl | rfl <;> first | rfl | exact h1) (by unfold maxLen; omega) (by omega) (by simp; omega) ?_
               intro v3 W3 hown3 hgrow hnil
               obtain ⟨g3, c3, rfl⟩ := row_form hown3 (by omega)
               have hT3 : W3.heap[T]? = some (.cells #[tv] 26 (0, 0)) := (hgrow.block T (by simp; omega) (fun e => HN.out e.symm)).trans ((below_two W _ _).block T hTl |>.trans HT.out)
               obtain ⟨hT0', hTf'⟩ := cell1 hT3)
  go_end0
  exact ⟨rfl, _, HR.out.told ev q HQ.out hown3 hgrow⟩
theorem psNil (W : World) (base N : Nat) : PsAt W base N (.slice none 0 0) [] := ⟨World.ownsRow_nil _ _ _ _, fun k hk => by simp [Value.ownBlock] at hk⟩
set_option maxHeartbeats 1000000 in
set_option maxRecDepth 100000 in
theorem print_any (c : Int) {w0 : World} {R T : Nat} {s : St} {es : List Ev} {W : World} {N : Nat} {pv tv : Value} {eqs : List (Ev × Value)} (h : Rd w0 R T s es W N pv tv eqs) (hn : es.length ≤ 1000000) :
    Calls Tryd.prog 63 #[.pointer (some ⟨R, 0, none⟩), .int .i32 c] W fun e W' => e = .returned (.tuple #[]) ∧ ∃ tv' eqs', Rd w0 R T s (es ++ [evP c]) W' N pv tv' eqs' := by
  have hr := h.r
  unfold rdCells tellV at hr
  have HC := tell_any h (evP c) (.slice none 0 0) (psNil _ _ _) rfl hn
  obtain ⟨c0, c1, c2, c3, c4, c5, c6, c7, cf⟩ := cells8 hr
  clear hr h
  go_enter Tryd.func63, Tryd.ntmps63
  go_wp2_with fail
  refine HC.mono ?_
  rintro e W1 ⟨rfl, tv', h1⟩
  go_wp2_with fail
  go_end0
  exact ⟨rfl, tv', _, h1⟩
theorem heap_box (W : World) (o : Obj) {k : Nat} {x : Obj} (h : W.heap[k]? = some x) : (W.alloc o).heap[k]? = some x := by
  rw [Below.heap_alloc _ _ _ (blk_lt h)]
  exact h
theorem cells7 {W : World} {R : Nat} {a b c d e f g : Value} {t : TypeId} (hR : W.heap[R]? = some (.cells #[a, b, c, d, e, f, g] t (0, 0))) : W.cell? ⟨R, 0, none⟩ = some a ∧ W.cell? ⟨R, 1, none⟩ = some b ∧ W.cell? ⟨R, 2, none⟩ = some c ∧ W.cell? ⟨R, 3, none⟩ = some d ∧ W.cell? ⟨R, 4, none⟩ = some e ∧ W.cell? ⟨R, 5, none⟩ = some f ∧ W.cell? ⟨R, 6, none⟩ = some g ∧ ∀ i, W.frozen? ⟨R, i, none⟩ = false := by
  refine ⟨?_, ?_, ?_, ?_, ?_, ?_, ?_, fun i => ?_⟩
  all_goals first | (unfold World.cell?; rw [hR]; rfl) | (unfold World.frozen?; rw [hR]; simp)
set_option maxHeartbeats 2000000 in
set_option maxRecDepth 100000 in
theorem end_any {w0 : World} {R T : Nat} {s : St} {es : List Ev} {W : World} {N : Nat} {pv tv : Value} {eqs : List (Ev × Value)} (h : Rd w0 R T s es W N pv tv eqs) (ev : Ev) (q : Value) (hq : W.ownsRow w0.heap.size 3 1 q ev.ps.length (ints ev.ps)) (h1 : q.oneCell' = true) (hn : es.length ≤ 1000000) :
    Calls Tryd.prog 79 #[.pointer (some ⟨R, 0, none⟩), .agg #[.int .i64 ev.kind, .int .i32 ev.r, .int .u8 ev.fin, .int .u8 ev.mark, .string ev.mid, q, .string ev.txt]] W fun e W' => e = .returned (.tuple #[]) ∧ RdE w0 R T (bare 0) (es ++ [ev]) W' := by
  have kb : Below W.heap.size W (W.alloc (.cells #[.int .i64 ev.kind, .int .i32 ev.r, .int .u8 ev.fin, .int .u8 ev.mark, .string ev.mid, q, .string ev.txt] 37)) := (Below.refl _ _).alloc (Nat.le_refl _) _
  have h2 := h.below kb
  have hx := heap_alloc_new W (.cells #[.int .i64 ev.kind, .int .i32 ev.r, .int .u8 ev.fin, .int .u8 ev.mark, .string ev.mid, q, .string ev.txt] 37)
  have HE := enter_any 0 h2
  have hq2 : (W.alloc (.cells #[.int .i64 ev.kind, .int .i32 ev.r, .int .u8 ev.fin, .int .u8 ev.mark, .string ev.mid, q, .string ev.txt] 37)).ownsRow w0.heap.size 3 1 q ev.ps.length (ints ev.ps) := hq.alloc _
  have hne : ∀ g, q.ownBlock = some g → g ≠ R := fun g hg e => by
    obtain ⟨A, hA⟩ := row_block hq hg
    rw [e, h.r] at hA
    injection hA with hA
    injection hA with _ hA
    exact absurd hA (by decide)
  have hRlt := blk_lt h.r
  clear h h2 kb hq
  generalize hW0 : W.alloc (.cells #[.int .i64 ev.kind, .int .i32 ev.r, .int .u8 ev.fin, .int .u8 ev.mark, .string ev.mid, q, .string ev.txt] 37) = W0 at hx HE hq2
  have HW0 : Hid (_ = W0) := hW0
  clear hW0
  have HE' : Hid (Calls Tryd.prog 38 #[.pointer (some ⟨R, 0, none⟩), .int .i64 0] W0 fun e W' => e = .returned (.tuple #[]) ∧ W' = W0.setCells R 0 (bareV 0) ∧ Rd w0 R T (bare 0) es W' N (.slice none 0 0) tv eqs) := HE
  clear HE
  go_enter Tryd.func79, Tryd.ntmps79
  go_wp2_with fail
  rw [HW0.out]
  refine HE'.out.mono ?_
  rintro e W1 ⟨rfl, hW1, hr1⟩
  have hx1 : W1.heap[W.heap.size]? = some (.cells #[.int .i64 ev.kind, .int .i32 ev.r, .int .u8 ev.fin, .int .u8 ev.mark, .string ev.mid, q, .string ev.txt] 37 (0, 0)) := by
    rw [hW1, heap_setCells_ne R _ (by omega)]
    exact hx
  have hq1 : PsAt W1 w0.heap.size W1.heap.size q ev.ps := by
    have ho : W1.ownsRow w0.heap.size 3 1 q ev.ps.length (ints ev.ps) := by
      rw [hW1]
      exact row_same hq2 fun g hg => heap_setCells_ne R g (hne g hg) _ _ _
    exact ⟨ho, fun k hk => (ho.lt k hk).2⟩
  have hr2 := hr1.raise
  have kd : Below W1.heap.size W1 W1.drew := (Below.refl _ _).drew
  have HTL := tell_any (hr2.below kd) ev q hq1 h1 hn
  have HTL' : Hid (Calls Tryd.prog 18 #[.agg #[.int .i64 ev.kind, .int .i32 ev.r, .int .u8 ev.fin, .int .u8 ev.mark, .string ev.mid, q, .string ev.txt], .pointer (some ⟨T, 0, none⟩)] W1.drew fun e W' => e = .returned (.tuple #[]) ∧ ∃ tv', Rd w0 R T (bare 0) (es ++ [ev]) W' W1.heap.size (.slice none 0 0) tv' (eqs ++ [(ev, q)])) := HTL
  have hrr := hr1.r
  unfold rdCells tellV at hrr
  obtain ⟨-, -, -, -, -, -, -, c7, -⟩ := cells8 hrr
  obtain ⟨d0, d1, d2, d3, d4, d5, d6, -⟩ := cells7 hx1
  clear HTL hrr hr1 hr2 hq1 hq2 hx1 hW1 hne HE' HW0
  go_wp2_with fail
  go_region_with (go_at_call 18; refine HTL'.out.mono ?_; rintro e W2 ⟨rfl, tv', hf⟩)
  all_goals go_wp2_with fail
  all_goals go_end0
  all_goals exact ⟨rfl, _, _, tv', _, hf⟩
end Prs
end Go.Proofs.YtmgmdijhiplalaaDoor
