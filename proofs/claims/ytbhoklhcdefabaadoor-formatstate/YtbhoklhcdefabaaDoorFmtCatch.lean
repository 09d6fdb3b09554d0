/- Package format: read's deferred closure. -/
import Derived.Test.YtbhoklhcdefabaaDoorFmtNum
import Derived.Tactics2
import Derived.Defers
import Derived.Recover
import Derived.Laws.Pointers
namespace Go.Proofs.YtbhoklhcdefabaaDoor
open Go.ChangeShapes Go.WideShapes Go.ChangeAt Go.RowKit Go.Maps Go.Sort
namespace Fmt
section
variable {P : Program} {Q : Exit → Act → List Frame → World → Prop} {a : Act} {cs : List Frame} {w : World}
/-- A region whose first operation asks for the panic below, and has it. -/
theorem wpS_region_first {id : Nat} {ops : Array Oper} {l : List Nat} (hl : List.range ops.size = 0 :: l) {o : Oper} (ho : ops[0]? = some o) (hw : Region.wanted o (yielded ops a.tmps) = true) (hr : (execOp a.eval o).run P w = .ok .recover w)
    {v : Value} {cs' : List Frame} (hrec : recoverD cs = some (v, cs') ∨ (recoverD cs = none ∧ v = .nilIface ∧ cs' = cs)) (h : wpOps P ops (fun e a' w' => Q e a' cs' w') l (a.put o.dst v) w) : (Code.region id ops false).wpS P Q a cs w := by
  intro b k hb hro
  obtain ⟨e, a', w', hq, harr⟩ := wp_ops l (a.put o.dst v) w h b k cs'
  refine ⟨e, a', cs', w', hq, .of_steps (.one step_region) ?_⟩
  rw [hl]
  have hg := stepG_op (P := P) (b := b) (k := k) (cs := cs) (w := w) (rest := l) ho hw
  have hfin : ∀ v, (b.at a (.inRegion ops (0 :: l) :: k)).finish v = b.at (a.put o.dst v) (.inRegion ops l :: k) := by
    intro v; rw [Frame.finish_at, ho]; rfl
  have hk : (b.at a (.inRegion ops (0 :: l) :: k)).kind = .deferred := hb
  have htr := tryRecover_deferred hk cs
  refine .of_steps (.one (step_lone_go ?_)) harr
  rw [hg, ← hfin]
  simp only [Frame.at] at htr ⊢
  rcases hrec with hrec | ⟨hrec, rfl, rfl⟩
  · simp [stepG.apply, hr, htr, hrec]
  · simp [stepG.apply, hr, htr, hrec]
theorem wpS_region_rest {id : Nat} {ops : Array Oper} {o : Oper} {tl : List Oper} (hops : ops.toList = o :: tl) (hw : Region.wanted o (yielded ops a.tmps) = true) (hr : (execOp a.eval o).run P w = .ok .recover w)
    {v : Value} {cs' : List Frame} (hrec : recoverD cs = some (v, cs') ∨ (recoverD cs = none ∧ v = .nilIface ∧ cs' = cs)) (h : wpList P ops (fun e a' w' => Q e a' cs' w') tl (a.put o.dst v) w) : (Code.region id ops false).wpS P Q a cs w := by
  have hsz : ops.size = tl.length + 1 := by rw [← Array.length_toList, hops, List.length_cons]
  refine wpS_region_first (l := List.range' 1 tl.length) ?_ (o := o) ?_ hw hr hrec ?_
  · rw [hsz, List.range_eq_range', List.range'_succ]
  · rw [← Array.getElem?_toList, hops]; rfl
  · rw [wpOps_eq_wpList tl 1 (fun j => by rw [← Array.getElem?_toList, hops, Nat.add_comm 1 j, List.getElem?_cons_succ])]
    exact h
end
set_option maxHeartbeats 4000000 in
set_option maxRecDepth 100000 in
theorem catch_idle (a b c : Addr) (w : World) :
    CallsD Tryd.prog 33 #[.pointer (some a), .pointer (some b), .pointer (some c)] .returning w fun e u' w' => e = .returned (.tuple #[]) ∧ u' = .returning ∧ Below w.heap.size w w' := by
  have kA : Below w.heap.size w (w.alloc (.cells #[.int .i64 0] 66)) := (Below.refl _ _).alloc (Nat.le_refl _) _
  refine callsD_of_wpS Tryd.func33 rfl fun c₀ cs hu => ?_
  apply wpS_seq
  refine wpS_region_rest (v := .nilIface) (cs' := c₀ :: cs) rfl (by kernel_rfl) (by rfl) (.inr ⟨by simp [recoverD, hu], rfl, rfl⟩) ?_
  have hta : ∀ w : World, (Instr.typeAssert .nilIface 20 66 true).run Tryd.prog w = .ok (.tuple #[.agg #[.int .i64 0], .bool false]) w := fun w => by
    simp [Instr.typeAssert, go_sem]
  show wpList _ _ _ _ { tmps := #[.pointer (some a), .pointer (some b), .pointer (some c), undef, undef, undef, .nilIface, undef, undef, undef, undef, undef, undef], defers := [] } w
  generalize hQ : (fun (e : Exit) (a' : Act) (w' : World) => Exit.thenS _ _ e a' (c₀ :: cs) w') = QQ
  go_wp2_with fail
  subst hQ
  show Code.wpS _ _ _ _ _ _
  refine wpS_of_wp ?_
  generalize hQ : (fun (e : Exit) (a' : Act) (w' : World) => bodyPostS _ _ _ _ _ e a' (c₀ :: cs) w') = QQ
  go_wp2_with fail
  subst hQ
  refine ⟨rfl, .returning, ?_, .tuple #[], results_none rfl _ _ _, rfl, rfl, kA⟩
  cases c₀
  simp_all
set_option maxHeartbeats 4000000 in
set_option maxRecDepth 100000 in
theorem catch_panic (n q : Nat) (x0 x1 x2 : Value) (w : World) (h0 : w.heap[n]? = some (.cells #[x0] 9 (0, 0))) (h1 : w.heap[n + 1]? = some (.cells #[x1] 3 (0, 0))) (h2 : w.heap[n + 2]? = some (.cells #[x2] 23 (0, 0))) :
    CallsD Tryd.prog 33 #[.pointer (some ⟨n, 0, none⟩), .pointer (some ⟨n + 1, 0, none⟩), .pointer (some ⟨n + 2, 0, none⟩)] (.panicking [{ v := .iface 66 (.agg #[.int .i64 q]), recovered := false }]) w fun e u' w' =>
      e = .returned (.tuple #[]) ∧ u' = .panicking [{ v := .iface 66 (.agg #[.int .i64 q]), recovered := true }] ∧ w'.heap[n]? = some (.cells #[.string ⟨#[]⟩] 9 (0, 0)) ∧ w'.heap[n + 1]? = some (.cells #[.int .i64 q] 3 (0, 0)) ∧ w'.heap[n + 2]? = some (.cells #[.int .i64 1] 23 (0, 0)) ∧ Below n w w' := by
  have hn : n + 2 < w.heap.size := (Array.getElem?_eq_some_iff.1 h2).1
  have kA : Below w.heap.size w (w.alloc (.cells #[.int .i64 q] 66)) := (Below.refl _ _).alloc (Nat.le_refl _) _
  have s0 := heap_alloc_new w (.cells #[.int .i64 q] 66)
  have g0 := Fmt.kept h0 kA
  have g1 := Fmt.kept h1 kA
  have g2 := Fmt.kept h2 kA
  refine callsD_of_wpS Tryd.func33 rfl fun c₀ cs hu => ?_
  apply wpS_seq
  refine wpS_region_rest (v := .iface 66 (.agg #[.int .i64 q])) (cs' := { c₀ with mode := .panicking [{ v := .iface 66 (.agg #[.int .i64 q]), recovered := true }] } :: cs) rfl (by kernel_rfl) (by rfl) (.inl (by simp [recoverD, hu])) ?_
  have hta : ∀ w : World, (Instr.typeAssert (.iface 66 (.agg #[.int .i64 q])) 20 66 true).run Tryd.prog w = .ok (.tuple #[.agg #[.int .i64 q], .bool true]) w := fun w => by
    simp [Instr.typeAssert, go_sem]
  show wpList _ _ _ _ { tmps := #[.pointer (some ⟨n, 0, none⟩), .pointer (some ⟨n + 1, 0, none⟩), .pointer (some ⟨n + 2, 0, none⟩), undef, undef, undef, .iface 66 (.agg #[.int .i64 q]), undef, undef, undef, undef, undef, undef], defers := [] } w
  generalize hQ : (fun (e : Exit) (a' : Act) (w' : World) => Exit.thenS _ _ e a' _ w') = QQ
  go_wp2_with fail
  subst hQ
  show Code.wpS _ _ _ _ _ _
  refine wpS_of_wp ?_
  generalize hQ : (fun (e : Exit) (a' : Act) (w' : World) => bodyPostS _ _ _ _ _ e a' _ w') = QQ
  generalize hW : w.alloc (.cells #[.int .i64 q] 66) = W at *
  have z0 := one_box s0
  have f0 : ∀ i, W.frozen? ⟨n, i, none⟩ = false := fun i => by simp [World.frozen?, g0]
  have f1 : ∀ i, W.frozen? ⟨n + 1, i, none⟩ = false := fun i => by simp [World.frozen?, g1]
  have f2 : ∀ i, W.frozen? ⟨n + 2, i, none⟩ = false := fun i => by simp [World.frozen?, g2]
  have y0 := one_box g0
  have y1 := one_box g1
  have y2 := one_box g2
  have n0 : w.heap.size ≠ n := by omega
  have n1 : w.heap.size ≠ n + 1 := by omega
  have n2 : w.heap.size ≠ n + 2 := by omega
  have n3 := n0.symm
  have n4 := n1.symm
  have n5 := n2.symm
  have k0 : Below n w W := kA.mono (by omega)
  go_upto_region 2 with fail
  go_region
  all_goals
    go_wp2_with fail
    subst hQ
    refine ⟨rfl, _, rfl, .tuple #[], results_none rfl _ _ _, rfl, rfl, ?_, ?_, ?_, ?_⟩
    · exact (RowKit.Below.heap_setCell _ _ _ _ (by simp)).trans ((RowKit.Below.heap_setCell _ _ _ _ (by simp)).trans (heap_setCell_same _ n 0 _ _ _ g0))
    · exact (RowKit.Below.heap_setCell _ _ _ _ (by simp)).trans (heap_setCell_same _ (n + 1) 0 _ _ _ ((RowKit.Below.heap_setCell _ _ _ _ (by simp)).trans g1))
    · exact heap_setCell_same _ (n + 2) 0 _ _ _ ((RowKit.Below.heap_setCell _ _ _ _ (by simp)).trans ((RowKit.Below.heap_setCell _ _ _ _ (by simp)).trans g2))
    · exact (((k0.setCell (p := ⟨n, 0, none⟩) (Nat.le_refl _) _).setCell (p := ⟨n + 1, 0, none⟩) (Nat.le_succ _) _).setCell (p := ⟨n + 2, 0, none⟩) (Nat.le_add_right _ _) _).drew
end Fmt
end Go.Proofs.YtbhoklhcdefabaaDoor
