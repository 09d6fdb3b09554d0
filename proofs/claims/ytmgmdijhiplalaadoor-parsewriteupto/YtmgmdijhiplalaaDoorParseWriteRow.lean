/- The Go law ParseWrite answers true for all events, where they and the listed tables hold together at most 1048576 values and letters: what is written of them, errors too, is as the reference writes it; and Same says of any two what the reference says. Condition besides: the listed tables lie as Go's library lays them. -/
import Derived.Test.YtmgmdijhiplalaaDoorCards
import Derived.Test.YtmgmdijhiplalaaDoorTie
import Derived.Test.YtmgmdijhiplalaaDoorParseTab
import Derived.Test.YtmgmdijhiplalaaDoorJoinB
import Derived.Test.YtmgmdijhiplalaaDoorJoinA
import Derived.WalkKit
import Derived.ProofKit
import Derived.OpenShut
import Derived.ShutString
import Derived.SizedLaws
import Derived.Deep.DeepHandedRow
import Derived.Lib.LaidTab
import Derived.Lib.LaidU8
import Derived.Lib.SmallJoins
import Derived.Carry
namespace Go.Proofs.YtmgmdijhiplalaaDoor.parseWriteUpto
open Go.ChangeShapes Go.WideShapes Go.ChangeAt Go.RowKit
open Go.ChangeMaps (open_string shut_string)
set_option linter.unusedVariables false

theorem own : ownKnob Tryd.prog.godebug = none := by kernel_rfl
set_option maxRecDepth 100000 in
theorem contract (H : Type) (enc : TypeId × Value → H) (W : World) (base : Nat) (args : Array Value) (ds gs : List (DataW H)) (before : List MemPlace)
    (hval : ∀ (j : Nat) t v, Tryd.f4.params[j]? = some t → args[j]? = some v → Value.okWide Tryd.prog W .any base t v)
    (hW : DataW.Whole enc Tryd.prog Tryd.f4.params.toList Rows.parseWriteSpec.vars false W args.toList ds gs before) (hsz : (DataW.weightsEach Tryd.prog (Tryd.f4.params.toList ++ Rows.parseWriteSpec.plain.varTypes Tryd.prog) (ds ++ gs)).all (· ≤ reachBytes) = true)
    (hL : laidMetH Tryd.prog Rows.parseWriteUptoRow.laid W) (hk : Rows.uptoSmall H (ds ++ gs) = true) :
    Calls Tryd.prog 4 args W fun e W' => ∃ v, e = .returned v ∧ Rows.parseWriteSpec.post enc Tryd.prog Tryd.f4 false true false false W args v W' := by
  have hW' := hW
  obtain ⟨p, q, hA0, hV, rfl, hfz, hnd⟩ := hW
  have hA : DataW.TrodAll enc Tryd.prog W 0 (fun _ => true) true Tryd.f4.params.toList args.toList ds p := hA0
  rw [Tryd.params4] at hA hval hsz
  obtain ⟨v0, vs0, d0, ds0, p0, q0, hargs, rfl, rfl, h0, r0⟩ := trodAll_cons hA
  obtain ⟨rfl, rfl, rfl⟩ := trodAll_nil r0
  obtain rfl : args = #[v0] := by cases args; simp_all
  obtain ⟨rfl, rfl⟩ := trodVars_none hV
  have h0k := h0
  obtain ⟨x0, pa0, pc0, hv0, hE0, hN0, hF0⟩ := Prs.open_eventsP (hval 0 26 v0 rfl rfl) h0
  subst hv0
  clear hA0 hsz
  simp only [List.append_nil] at hW'
  have hlt : ∀ x ∈ p0, x.block < W.heap.size := fun x hx => by simpa using hW'.lt x (by simpa using hx)
  have walk : Calls Tryd.prog 4 #[.slice pa0 x0.length pc0] W fun e w' => e = .returned (.bool true) ∧ Below W.heap.size W w' := by
    have hT : Prs.Tabs W := Prs.tabs_of_reads (Lib.laidMet.reads (l := Rows.parseWriteUptoRow.laid) hL (by simp [Rows.parseWriteUptoRow])) (Lib.laidMet.reads (l := Rows.parseWriteUptoRow.laid) hL (by simp [Rows.parseWriteUptoRow]))
    have hP : Prs.P10 W := Prs.p10_of_reads (Lib.laidMet.reads (l := Rows.parseWriteUptoRow.laid) hL (by simp [Rows.parseWriteUptoRow]))
    have h := of_decide_eq_true hk
    simp only [List.cons_append, List.nil_append, Rows.uptoBulkAll] at h
    exact Prs.parseWrite_any x0 _ W hT hP hE0 (fun e he => by
      obtain ⟨f1, f2, f3, f4, f5, f6⟩ := hF0 e he
      exact ⟨f1.1, f1.2, f2.1, f2.2, by omega, f3, by omega, by omega⟩) (by omega)
  refine walk.mono fun e W' ⟨he, hg⟩ => ?_
  subst he
  exact ⟨_, rfl, _, _, _, [], _, [], hW', trodAll_cons_mk (shut_bool Tryd.underlying4 _) trodAll_mk0, (trodAll_cons_mk (Below.trod (by kernel_rfl) (by kernel_rfl) (of_decide_eq_true (by kernel_rfl)) h0k hg (fun x hx => hlt x (by simp [hx]))) trodAll_mk0), rfl, hg.frame _, fun h => by cases h⟩

set_option maxRecDepth 100000 in
theorem laid_met (os : Os) : laidMet Tryd.prog Rows.parseWriteUptoRow.laid (({ World.holding Tryd.prog os ⟨#[], #[], []⟩ with heap := ((((((World.holding Tryd.prog os ⟨#[], #[], []⟩).heap.modify 4 fun | .cells _ t frozen => .cells (Prs.deB32) t frozen | o => o).modify 5 fun | .cells _ t frozen => .cells (Prs.deB64) t frozen | o => o).modify 3 fun | .cells _ t frozen => .cells (Prs.p10Cells) t frozen | o => o).modify 1 fun | .cells _ t frozen => .cells (Prs.acceptCells) t frozen | o => o).modify 0 fun | .cells _ t frozen => .cells (Prs.firstCells) t frozen | o => o) } : World).forCall (fun _ _ => 0) ⟨#[], #[.slice none 0 0], []⟩).memory :=
  laidMet_of_run' 8 (by kernel_rfl) (by kernel_rfl)
theorem reads (os : Os) {H : Type} (enc : TypeId × Value → H) : ∃ places, DataW.whole enc Tryd.prog (({ World.holding Tryd.prog os ⟨#[], #[], []⟩ with heap := ((((((World.holding Tryd.prog os ⟨#[], #[], []⟩).heap.modify 4 fun | .cells _ t frozen => .cells (Prs.deB32) t frozen | o => o).modify 5 fun | .cells _ t frozen => .cells (Prs.deB64) t frozen | o => o).modify 3 fun | .cells _ t frozen => .cells (Prs.p10Cells) t frozen | o => o).modify 1 fun | .cells _ t frozen => .cells (Prs.acceptCells) t frozen | o => o).modify 0 fun | .cells _ t frozen => .cells (Prs.firstCells) t frozen | o => o) } : World).forCall (fun _ _ => 0) ⟨#[], #[.slice none 0 0], []⟩).memory Tryd.f4.params.toList Rows.parseWriteSpec.vars false #[(.slice none 0 0 : Value)].toList 8 = some ([.nil], [], places) :=
  ⟨[], by kernel_rfl⟩

set_option maxRecDepth 100000 in
theorem lifted (os : Os) (started : os.Started) (H : Type) (enc : TypeId × Value → H) (F : Stop.Interp) :
    ReturnsInHanded {} Tryd.checked os 4 .any ((Rows.OpenSpec.upto Rows.parseWriteSpec).preRow enc Tryd.prog Tryd.f4 Rows.parseWriteUptoRow.domain false Rows.parseWriteUptoRow.laid) (((Rows.OpenSpec.upto Rows.parseWriteSpec).at F).post enc Tryd.prog Tryd.f4 false true false false) := by
  obtain ⟨places, hx⟩ := reads os enc
  refine returnsInHanded_of_row (C := Tryd.checked) (s := Rows.OpenSpec.upto Rows.parseWriteSpec) own started (by kernel_rfl) Tryd.func4
    (witness_row_at (enc := enc) (C := Tryd.checked) false ({ World.holding Tryd.prog os ⟨#[], #[], []⟩ with heap := ((((((World.holding Tryd.prog os ⟨#[], #[], []⟩).heap.modify 4 fun | .cells _ t frozen => .cells (Prs.deB32) t frozen | o => o).modify 5 fun | .cells _ t frozen => .cells (Prs.deB64) t frozen | o => o).modify 3 fun | .cells _ t frozen => .cells (Prs.p10Cells) t frozen | o => o).modify 1 fun | .cells _ t frozen => .cells (Prs.acceptCells) t frozen | o => o).modify 0 fun | .cells _ t frozen => .cells (Prs.firstCells) t frozen | o => o) } : World) #[.slice none 0 0] rfl (by kernel_rfl) (by kernel_rfl) (by kernel_rfl)
      (OpenSpec.preRow_of_cond 8 hx (by kernel_rfl) (fun k hk => by cases hk; kernel_rfl) (by kernel_rfl) (laid_met os))) ?_
  intro W base args ds gs before hval hW _ hcond hsz hL _ _
  exact contract H enc W base args ds gs before hval hW hsz hL (hcond _ rfl)

theorem said : Rows.ParseWriteUptoSaid :=
  OpenClaim.holds_of_cond 4 Tryd.f4 rfl rfl rfl rfl rfl rfl rfl ⟨rfl, rfl, rfl, rfl, rfl⟩ rfl rfl rfl rfl rfl (by kernel_rfl) Tryd.func4 (by kernel_rfl)
    (of_decide_eq_true (by kernel_rfl)) (by unfold Func.isWrapper; first | (rw [if_pos (by decide +kernel)]; kernel_rfl) | (rw [if_neg (by decide +kernel)]; exact ⟨rfl, rfl⟩))
    (fun os started H enc _ F => by rw [OpenClaim.pre_eq_preRow]; exact lifted os started H enc F)

theorem plain (f : FuncId) (fn : Func) (hf : Tryd.pinned.checked.prog.funcNamed "trellis/trellislaw.ParseWrite" = some f) (hfn : Tryd.pinned.checked.prog.funcs[f]? = some fn) :
    true = Tryd.pinned.checked.prog.looks [] ∧ ∀ (j : Nat) t, fn.params[j]? = some t → Tryd.pinned.checked.prog.wantsStandIn t = false := by
  obtain rfl : f = 4 := Option.some.inj ((show Tryd.prog.funcNamed "trellis/trellislaw.ParseWrite" = some 4 by kernel_rfl).symm.trans hf) |>.symm
  obtain rfl : fn = Tryd.f4 := (Option.some.inj (Tryd.func4.symm.trans hfn)).symm
  refine ⟨by kernel_rfl, fun j t ht => ?_⟩
  rw [Tryd.params4] at ht
  have ht2 : t = 26 := by simpa using Array.mem_of_getElem? ht
  rcases ht2 with rfl
  · exact (show Tryd.prog.wantsStandIn 26 = false by kernel_rfl)
end Go.Proofs.YtmgmdijhiplalaaDoor.parseWriteUpto
namespace Go.Proofs.YtmgmdijhiplalaaDoor
theorem parseWriteUpto_holds : Rows.ParseWriteUptoCardSaid :=
  Claim7.holds_tied_plain_at .later [] _ _ _ _ parseWriteUpto.said (fun _ h => by cases h) (by kernel_rfl) (fun _ h => by cases h) parseWriteUpto_row_tie rfl ⟨rfl, rfl⟩ (by kernel_rfl) rfl parseWriteUpto.plain (by kernel_rfl)
#print axioms parseWriteUpto_holds
end Go.Proofs.YtmgmdijhiplalaaDoor
