/- The Go law StyleApply answers true for every style and all numbers: what any numbers make of any style is what the reference says, and the numbers are left as they were. Condition besides: the listed tables lie as the program's text lays them. -/
import Derived.Test.YthnphjdpifpehaaDoorCards
import Derived.Test.YthnphjdpifpehaaDoorTie
import Derived.Test.YthnphjdpifpehaaDoorStyleTab
import Derived.Test.YthnphjdpifpehaaDoorStyleApplyL
import Derived.WalkKit
import Derived.ProofKit
import Derived.OpenShut
import Derived.ShutString
import Derived.SizedLaws
import Derived.Deep.DeepHandedRow
import Derived.Lib.LaidTab
import Derived.Lib.LaidU8
import Derived.Lib.SmallJoins
import Derived.Carry
namespace Go.Proofs.YthnphjdpifpehaaDoor.styleApply
open Go.ChangeShapes Go.WideShapes Go.ChangeAt Go.RowKit
open Go.ChangeMaps (open_string shut_string)
set_option linter.unusedVariables false

theorem own : ownKnob Tryd.prog.godebug = none := by kernel_rfl
theorem contract (H : Type) (enc : TypeId × Value → H) (W : World) (base : Nat) (args : Array Value) (ds gs : List (DataW H)) (before : List MemPlace)
    (hval : ∀ (j : Nat) t v, Tryd.f3.params[j]? = some t → args[j]? = some v → Value.okWide Tryd.prog W .any base t v)
    (hW : DataW.Whole enc Tryd.prog Tryd.f3.params.toList Rows.styleApplySpec.vars false W args.toList ds gs before) (hsz : (DataW.weightsEach Tryd.prog (Tryd.f3.params.toList ++ Rows.styleApplySpec.plain.varTypes Tryd.prog) (ds ++ gs)).all (· ≤ reachBytes) = true)
    (hL : laidMetH Tryd.prog Rows.styleApplyRow.laid W) :
    Calls Tryd.prog 3 args W fun e W' => ∃ v, e = .returned v ∧ Rows.styleApplySpec.post enc Tryd.prog Tryd.f3 false true false false W args v W' := by
  have hW' := hW
  obtain ⟨p, q, hA0, hV, rfl, hfz, hnd⟩ := hW
  have hA : DataW.TrodAll enc Tryd.prog W 0 (fun _ => true) true Tryd.f3.params.toList args.toList ds p := hA0
  rw [Tryd.params3] at hA hval hsz
  obtain ⟨v0, vs0, d0, ds0, p0, q0, hargs, rfl, rfl, h0, r0⟩ := trodAll_cons hA
  obtain ⟨v1, vs1, d1, ds1, p1, q1, rfl, rfl, rfl, h1, r1⟩ := trodAll_cons r0
  obtain ⟨rfl, rfl, rfl⟩ := trodAll_nil r1
  obtain rfl : args = #[v0, v1] := by cases args; simp_all
  obtain ⟨rfl, rfl⟩ := trodVars_none hV
  have h0k := h0
  obtain ⟨e0a, e0b, e0c, y0a, y0b, y0c, n0, hv0, _, _, t0a, t0b, t0c⟩ := Joins.open_agg3 Tryd.underlying23 (by kernel_rfl) (by kernel_rfl) (hval 0 23 v0 rfl rfl) h0
  subst hv0
  obtain ⟨a0, g0a, _, w0a⟩ := DataW.trod_int Tryd.underlying3 t0a
  obtain rfl : e0a = _ := by simpa using g0a
  obtain ⟨b0, g0b, _, w0b⟩ := DataW.trod_int Tryd.underlying3 t0b
  obtain rfl : e0b = _ := by simpa using g0b
  obtain ⟨c0, g0c, _, w0c⟩ := DataW.trod_int Tryd.underlying3 t0c
  obtain rfl : e0c = _ := by simpa using g0c
  have h1k := h1
  obtain ⟨x1, i1, w1, s1⟩ := Sty.open_intsAt (hval 1 24 v1 rfl rfl) h1
  have z1 : x1.length * 8 ≤ 140737488351232 := by
    rcases s1 with h | ⟨el, sp, hd, hle, _⟩
    · rw [h]; simp
    · rw [hd] at hsz
      have := sized_slice hsz (j := 1) (t := 24) (e := 3) rfl rfl Tryd.underlying24
      rw [show Tryd.prog.bytesOf 3 = 8 by kernel_rfl, reachBytes] at this
      rw [hle]
      omega
  clear hA0 hsz
  simp only [List.append_nil] at hW'
  have hlt : ∀ x ∈ p0 ++ p1, x.block < W.heap.size := fun x hx => by simpa using hW'.lt x (by simpa using hx)
  have walk : Calls Tryd.prog 3 #[.agg #[.int .i64 a0, .int .i64 b0, .int .i64 c0], v1] W fun e w' => e = .returned (.bool true) ∧ Below W.heap.size W w' := by
    have hT : Sty.Tab W := Sty.tab_of_reads (Lib.laidMet.reads (l := Rows.styleApplyRow.laid) hL (by simp [Rows.styleApplyRow]))
    have hP : Sty.P10 W := Sty.p10_of_reads (Lib.laidMet.reads (l := Rows.styleApplyRow.laid) hL (by simp [Rows.styleApplyRow]))
    exact Sty.styleApply_walk a0 b0 c0 v1 x1 W hT hP i1 (by omega) (fun x hx => ⟨(w1 x hx).1, (w1 x hx).2⟩)
  refine walk.mono fun e W' ⟨he, hg⟩ => ?_
  subst he
  exact ⟨_, rfl, _, _, _, [], _, [], hW', trodAll_cons_mk (shut_bool Tryd.underlying4 _) trodAll_mk0, (trodAll_cons_mk (Below.trod (by kernel_rfl) (by kernel_rfl) (of_decide_eq_true (by kernel_rfl)) h0k hg (fun x hx => hlt x (by simp [hx]))) (trodAll_cons_mk (Below.trod (by kernel_rfl) (by kernel_rfl) (of_decide_eq_true (by kernel_rfl)) h1k hg (fun x hx => hlt x (by simp [hx]))) trodAll_mk0)), rfl, hg.frame _, fun h => by cases h⟩

set_option maxRecDepth 100000 in
theorem laid_met (os : Os) : laidMet Tryd.prog Rows.styleApplyRow.laid (({ World.holding Tryd.prog os ⟨#[], #[], []⟩ with heap := (((((World.holding Tryd.prog os ⟨#[], #[], []⟩).heap.modify 2 fun | .cells _ t frozen => .cells (Sty.deB32) t frozen | o => o).modify 3 fun | .cells _ t frozen => .cells (Sty.deB64) t frozen | o => o).modify 1 fun | .cells _ t frozen => .cells (Sty.p10Cells) t frozen | o => o).modify 0 fun | .cells _ t frozen => .cells (Sty.lookCells) t frozen | o => o) } : World).forCall (fun _ _ => 0) ⟨#[], #[.agg #[.int .i64 0, .int .i64 0, .int .i64 0], .slice none 0 0], []⟩).memory :=
  laidMet_of_run' 8 (by kernel_rfl) (by kernel_rfl)
theorem reads (os : Os) {H : Type} (enc : TypeId × Value → H) : ∃ places, DataW.whole enc Tryd.prog (({ World.holding Tryd.prog os ⟨#[], #[], []⟩ with heap := (((((World.holding Tryd.prog os ⟨#[], #[], []⟩).heap.modify 2 fun | .cells _ t frozen => .cells (Sty.deB32) t frozen | o => o).modify 3 fun | .cells _ t frozen => .cells (Sty.deB64) t frozen | o => o).modify 1 fun | .cells _ t frozen => .cells (Sty.p10Cells) t frozen | o => o).modify 0 fun | .cells _ t frozen => .cells (Sty.lookCells) t frozen | o => o) } : World).forCall (fun _ _ => 0) ⟨#[], #[.agg #[.int .i64 0, .int .i64 0, .int .i64 0], .slice none 0 0], []⟩).memory Tryd.f3.params.toList Rows.styleApplySpec.vars false #[(.agg #[.int .i64 0, .int .i64 0, .int .i64 0] : Value), (.slice none 0 0 : Value)].toList 8 = some ([.agg [.lit (.int .i64 0), .lit (.int .i64 0), .lit (.int .i64 0)], .nil], [], places) :=
  ⟨[], by kernel_rfl⟩

set_option maxRecDepth 100000 in
theorem lifted (os : Os) (started : os.Started) (H : Type) (enc : TypeId × Value → H) (F : Stop.Interp) :
    ReturnsInHanded {} Tryd.checked os 3 .any ((OpenSpec.ofChange Rows.styleApplySpec).preRow enc Tryd.prog Tryd.f3 Rows.styleApplyRow.domain false Rows.styleApplyRow.laid) (((OpenSpec.ofChange Rows.styleApplySpec).at F).post enc Tryd.prog Tryd.f3 false true false false) := by
  obtain ⟨places, hx⟩ := reads os enc
  refine returnsInHanded_of_row (C := Tryd.checked) (s := OpenSpec.ofChange Rows.styleApplySpec) own started (by kernel_rfl) Tryd.func3
    (witness_row_at (enc := enc) (C := Tryd.checked) false ({ World.holding Tryd.prog os ⟨#[], #[], []⟩ with heap := (((((World.holding Tryd.prog os ⟨#[], #[], []⟩).heap.modify 2 fun | .cells _ t frozen => .cells (Sty.deB32) t frozen | o => o).modify 3 fun | .cells _ t frozen => .cells (Sty.deB64) t frozen | o => o).modify 1 fun | .cells _ t frozen => .cells (Sty.p10Cells) t frozen | o => o).modify 0 fun | .cells _ t frozen => .cells (Sty.lookCells) t frozen | o => o) } : World) #[.agg #[.int .i64 0, .int .i64 0, .int .i64 0], .slice none 0 0] rfl (by kernel_rfl) (by kernel_rfl) (by kernel_rfl)
      (OpenSpec.preRow_of_cond 8 hx (by kernel_rfl) (fun k hk => by cases hk) (by kernel_rfl) (laid_met os))) ?_
  intro W base args ds gs before hval hW _ hcond hsz hL _ _
  exact contract H enc W base args ds gs before hval hW hsz hL

theorem said : Rows.StyleApplySaid :=
  OpenClaim.holds_of_cond 3 Tryd.f3 rfl rfl rfl rfl rfl rfl rfl ⟨rfl, rfl, rfl, rfl, rfl⟩ rfl rfl rfl rfl rfl (by kernel_rfl) Tryd.func3 (by kernel_rfl)
    (of_decide_eq_true (by kernel_rfl)) (by unfold Func.isWrapper; first | (rw [if_pos (by decide +kernel)]; kernel_rfl) | (rw [if_neg (by decide +kernel)]; exact ⟨rfl, rfl⟩))
    (fun os started H enc _ F => by rw [OpenClaim.pre_eq_preRow]; exact lifted os started H enc F)

theorem plain (f : FuncId) (fn : Func) (hf : Tryd.pinned.checked.prog.funcNamed "trellis/trellislaw.StyleApply" = some f) (hfn : Tryd.pinned.checked.prog.funcs[f]? = some fn) :
    false = Tryd.pinned.checked.prog.looks [] ∧ ∀ (j : Nat) t, fn.params[j]? = some t → Tryd.pinned.checked.prog.wantsStandIn t = false := by
  obtain rfl : f = 3 := Option.some.inj ((show Tryd.prog.funcNamed "trellis/trellislaw.StyleApply" = some 3 by kernel_rfl).symm.trans hf) |>.symm
  obtain rfl : fn = Tryd.f3 := (Option.some.inj (Tryd.func3.symm.trans hfn)).symm
  refine ⟨by kernel_rfl, fun j t ht => ?_⟩
  rw [Tryd.params3] at ht
  have ht2 : t = 23 ∨ t = 24 := by simpa using Array.mem_of_getElem? ht
  rcases ht2 with rfl | rfl
  · exact (show Tryd.prog.wantsStandIn 23 = false by kernel_rfl)
  · exact (show Tryd.prog.wantsStandIn 24 = false by kernel_rfl)
end Go.Proofs.YthnphjdpifpehaaDoor.styleApply
namespace Go.Proofs.YthnphjdpifpehaaDoor
theorem styleApply_holds : Rows.StyleApplyCardSaid :=
  Claim7.holds_tied_plain_at .later [] _ _ _ _ styleApply.said (fun _ h => by cases h) (by kernel_rfl) (fun _ h => by cases h) styleApply_row_tie rfl ⟨rfl, rfl⟩ (by kernel_rfl) rfl styleApply.plain (by kernel_rfl)
#print axioms styleApply_holds
end Go.Proofs.YthnphjdpifpehaaDoor
