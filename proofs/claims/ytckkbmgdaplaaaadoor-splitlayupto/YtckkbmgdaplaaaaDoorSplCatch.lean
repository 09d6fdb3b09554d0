/- Package split: read's deferred closure. -/
import Derived.Test.YtckkbmgdaplaaaaDoorSplTsR
import Derived.Tactics2
import Derived.Defers
import Derived.Recover
import Derived.Laws.Pointers
import Derived.Deep.WholeRow
namespace Go.Proofs.YtckkbmgdaplaaaaDoor
open Go.ChangeShapes Go.WideShapes Go.ChangeAt Go.RowKit Go.Maps Go.Sort
namespace Spl
open Fo
section
variable {P : Program} {Q : Exit → Act → List Frame → World → Prop} {a : Act} {cs : List Frame} {w : World}
/-- A region whose first operation asks for the panic below, and has it. -/
theorem wpS_region_first {id : Nat} {ops : Array Oper} {l : List Nat} (hl : List.range ops.size = 0 :: l) {o : Oper} (ho : ops[0]? = some o) (hw : Region.wanted o (yielded ops a.tmps) = true) (hr : (execOp a.eval o).run P w = .ok .recover w)
    {v : Value} {cs' : List Frame} (hrec : recoverD cs = some (v, cs') ∨ (recoverD cs = none ∧ v = .nilIface ∧ cs' = cs)) (h : wpOps P ops (fun e a' w' => Q e a' cs' w') l (a.put o.dst v) w) : (Code.region id ops false).wpS P Q a cs w := by
  intro b k hb hro
  obtain ⟨e, a', w', hq, harr⟩ := wp_ops l (a.put o.dst v) w h b k cs'
  refine ⟨e, a', cs', w', hq, .of_steps (.one step_region) ?_⟩
  rw [hl]
  have hg := stepG_op (P := P) (b := b) (k := k) (cs := cs) (w := w) (rest := l) ho hw
  have hfin : ∀ v, (b.at a (.inRegion ops (0 :: l) :: k)).finish v = b.at (a.put o.dst v) (.inRegion ops l :: k) := by
    intro v; rw [Frame.finish_at, ho]; rfl
  have hk : (b.at a (.inRegion ops (0 :: l) :: k)).kind = .deferred := hb
  have htr := tryRecover_deferred hk cs
  refine .of_steps (.one (step_lone_go ?_)) harr
  rw [hg, ← hfin]
  simp only [Frame.at] at htr ⊢
  rcases hrec with hrec | ⟨hrec, rfl, rfl⟩
  · simp [stepG.apply, hr, htr, hrec]
  · simp [stepG.apply, hr, htr, hrec]
theorem wpS_region_rest {id : Nat} {ops : Array Oper} {o : Oper} {tl : List Oper} (hops : ops.toList = o :: tl) (hw : Region.wanted o (yielded ops a.tmps) = true) (hr : (execOp a.eval o).run P w = .ok .recover w)
    {v : Value} {cs' : List Frame} (hrec : recoverD cs = some (v, cs') ∨ (recoverD cs = none ∧ v = .nilIface ∧ cs' = cs)) (h : wpList P ops (fun e a' w' => Q e a' cs' w') tl (a.put o.dst v) w) : (Code.region id ops false).wpS P Q a cs w := by
  have hsz : ops.size = tl.length + 1 := by rw [← Array.length_toList, hops, List.length_cons]
  refine wpS_region_first (l := List.range' 1 tl.length) ?_ (o := o) ?_ hw hr hrec ?_
  · rw [hsz, List.range_eq_range', List.range'_succ]
  · rw [← Array.getElem?_toList, hops]; rfl
  · rw [wpOps_eq_wpList tl 1 (fun j => by rw [← Array.getElem?_toList, hops, Nat.add_comm 1 j, List.getElem?_cons_succ])]
    exact h
end
set_option maxHeartbeats 4000000 in
set_option maxRecDepth 100000 in
theorem catch_idle (a b c d : Addr) (w : World) :
    CallsD Tryd.prog 73 #[.pointer (some a), .pointer (some b), .pointer (some c), .pointer (some d)] .returning w fun e u' w' => e = .returned (.tuple #[]) ∧ u' = .returning ∧ w' = w := by
  refine callsD_of_wpS Tryd.func73 rfl fun c₀ cs hu => ?_
  apply wpS_seq
  refine wpS_region_rest (v := .nilIface) (cs' := c₀ :: cs) rfl (by kernel_rfl) (by rfl) (.inr ⟨by simp [recoverD, hu], rfl, rfl⟩) ?_
  show wpList _ _ _ _ { tmps := #[.pointer (some a), .pointer (some b), .pointer (some c), .pointer (some d), .nilIface, undef, undef, undef, undef], defers := [] } w
  generalize hQ : (fun (e : Exit) (a' : Act) (w' : World) => Exit.thenS _ _ e a' (c₀ :: cs) w') = QQ
  go_wp2_with fail
  subst hQ
  show Code.wpS _ _ _ _ _ _
  refine wpS_of_wp ?_
  generalize hQ : (fun (e : Exit) (a' : Act) (w' : World) => bodyPostS _ _ _ _ _ e a' (c₀ :: cs) w') = QQ
  go_wp2_with fail
  subst hQ
  refine ⟨rfl, .returning, ?_, .tuple #[], results_none rfl _ _ _, rfl, rfl, rfl⟩
  cases c₀
  simp_all
end Spl
end Go.Proofs.YtckkbmgdaplaaaaDoor
