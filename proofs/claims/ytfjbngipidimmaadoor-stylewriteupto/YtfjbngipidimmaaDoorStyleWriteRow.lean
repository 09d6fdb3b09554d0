/- The Go law StyleWrite answers true for all numbers, where they and the listed tables hold together at most 1048576 values: style.Write tells them as one command. Condition besides: the listed tables lie as the program's text lays them. -/
import Derived.Test.YtfjbngipidimmaaDoorCards
import Derived.Test.YtfjbngipidimmaaDoorTie
import Derived.Test.YtfjbngipidimmaaDoorStyleTab
import Derived.Test.YtfjbngipidimmaaDoorStyleWriteW
import Derived.WalkKit
import Derived.ProofKit
import Derived.OpenShut
import Derived.ShutString
import Derived.SizedLaws
import Derived.Deep.DeepHandedRow
import Derived.Lib.LaidTab
import Derived.Lib.LaidU8
import Derived.Lib.SmallJoins
import Derived.Carry
namespace Go.Proofs.YtfjbngipidimmaaDoor.styleWriteUpto
open Go.ChangeShapes Go.WideShapes Go.ChangeAt Go.RowKit
open Go.ChangeMaps (open_string shut_string)
set_option linter.unusedVariables false

theorem own : ownKnob Tryd.prog.godebug = none := by kernel_rfl
theorem contract (H : Type) (enc : TypeId × Value → H) (W : World) (base : Nat) (args : Array Value) (ds gs : List (DataW H)) (before : List MemPlace)
    (hval : ∀ (j : Nat) t v, Tryd.f5.params[j]? = some t → args[j]? = some v → Value.okWide Tryd.prog W .any base t v)
    (hW : DataW.Whole enc Tryd.prog Tryd.f5.params.toList Rows.styleWriteSpec.vars false W args.toList ds gs before) (hsz : (DataW.weightsEach Tryd.prog (Tryd.f5.params.toList ++ Rows.styleWriteSpec.plain.varTypes Tryd.prog) (ds ++ gs)).all (· ≤ reachBytes) = true)
    (hL : laidMetH Tryd.prog Rows.styleWriteUptoRow.laid W) (hk : Rows.uptoSmall H (ds ++ gs) = true) :
    Calls Tryd.prog 5 args W fun e W' => ∃ v, e = .returned v ∧ Rows.styleWriteSpec.post enc Tryd.prog Tryd.f5 false true false false W args v W' := by
  have hW' := hW
  obtain ⟨p, q, hA0, hV, rfl, hfz, hnd⟩ := hW
  have hA : DataW.TrodAll enc Tryd.prog W 0 (fun _ => true) true Tryd.f5.params.toList args.toList ds p := hA0
  rw [Tryd.params5] at hA hval hsz
  obtain ⟨v0, vs0, d0, ds0, p0, q0, hargs, rfl, rfl, h0, r0⟩ := trodAll_cons hA
  obtain ⟨rfl, rfl, rfl⟩ := trodAll_nil r0
  obtain rfl : args = #[v0] := by cases args; simp_all
  obtain ⟨rfl, rfl⟩ := trodVars_none hV
  have h0k := h0
  obtain ⟨x0, i0, w0, s0⟩ := Sty.open_intsAt (hval 0 24 v0 rfl rfl) h0
  have z0 : x0.length * 8 ≤ 140737488351232 := by
    rcases s0 with h | ⟨el, sp, hd, hle, _⟩
    · rw [h]; simp
    · rw [hd] at hsz
      have := sized_slice hsz (j := 0) (t := 24) (e := 3) rfl rfl Tryd.underlying24
      rw [show Tryd.prog.bytesOf 3 = 8 by kernel_rfl, reachBytes] at this
      rw [hle]
      omega
  clear hA0 hsz
  simp only [List.append_nil] at hW'
  have hlt : ∀ x ∈ p0, x.block < W.heap.size := fun x hx => by simpa using hW'.lt x (by simpa using hx)
  have walk : Calls Tryd.prog 5 #[v0] W fun e w' => e = .returned (.bool true) ∧ Below W.heap.size W w' := by
    have hT : Sty.Tab W := Sty.tab_of_reads (Lib.laidMet.reads (l := Rows.styleWriteUptoRow.laid) hL (by simp [Rows.styleWriteUptoRow]))
    have hP : Sty.P10 W := Sty.p10_of_reads (Lib.laidMet.reads (l := Rows.styleWriteUptoRow.laid) hL (by simp [Rows.styleWriteUptoRow]))
    have hs : x0.length ≤ 4398046511104 := by
      rcases s0 with h | ⟨el, sp, hd, hle, hel⟩
      · rw [h]; simp
      · have h := of_decide_eq_true hk
        rw [hd] at h
        simp only [List.cons_append, List.nil_append, Rows.uptoBulkAll, Rows.uptoBulk, Sty.bulk_ints el hel] at h
        omega
    exact Sty.styleWrite_walk v0 x0 W hT hP i0 hs w0
  refine walk.mono fun e W' ⟨he, hg⟩ => ?_
  subst he
  exact ⟨_, rfl, _, _, _, [], _, [], hW', trodAll_cons_mk (shut_bool Tryd.underlying4 _) trodAll_mk0, (trodAll_cons_mk (Below.trod (by kernel_rfl) (by kernel_rfl) (of_decide_eq_true (by kernel_rfl)) h0k hg (fun x hx => hlt x (by simp [hx]))) trodAll_mk0), rfl, hg.frame _, fun h => by cases h⟩

set_option maxRecDepth 100000 in
theorem laid_met (os : Os) : laidMet Tryd.prog Rows.styleWriteUptoRow.laid (({ World.holding Tryd.prog os ⟨#[], #[], []⟩ with heap := (((((World.holding Tryd.prog os ⟨#[], #[], []⟩).heap.modify 2 fun | .cells _ t frozen => .cells (Sty.deB32) t frozen | o => o).modify 3 fun | .cells _ t frozen => .cells (Sty.deB64) t frozen | o => o).modify 1 fun | .cells _ t frozen => .cells (Sty.p10Cells) t frozen | o => o).modify 0 fun | .cells _ t frozen => .cells (Sty.lookCells) t frozen | o => o) } : World).forCall (fun _ _ => 0) ⟨#[], #[.slice none 0 0], []⟩).memory :=
  laidMet_of_run' 8 (by kernel_rfl) (by kernel_rfl)
theorem reads (os : Os) {H : Type} (enc : TypeId × Value → H) : ∃ places, DataW.whole enc Tryd.prog (({ World.holding Tryd.prog os ⟨#[], #[], []⟩ with heap := (((((World.holding Tryd.prog os ⟨#[], #[], []⟩).heap.modify 2 fun | .cells _ t frozen => .cells (Sty.deB32) t frozen | o => o).modify 3 fun | .cells _ t frozen => .cells (Sty.deB64) t frozen | o => o).modify 1 fun | .cells _ t frozen => .cells (Sty.p10Cells) t frozen | o => o).modify 0 fun | .cells _ t frozen => .cells (Sty.lookCells) t frozen | o => o) } : World).forCall (fun _ _ => 0) ⟨#[], #[.slice none 0 0], []⟩).memory Tryd.f5.params.toList Rows.styleWriteSpec.vars false #[(.slice none 0 0 : Value)].toList 8 = some ([.nil], [], places) :=
  ⟨[], by kernel_rfl⟩

set_option maxRecDepth 100000 in
theorem lifted (os : Os) (started : os.Started) (H : Type) (enc : TypeId × Value → H) (F : Stop.Interp) :
    ReturnsInHanded {} Tryd.checked os 5 .any ((Rows.OpenSpec.upto Rows.styleWriteSpec).preRow enc Tryd.prog Tryd.f5 Rows.styleWriteUptoRow.domain false Rows.styleWriteUptoRow.laid) (((Rows.OpenSpec.upto Rows.styleWriteSpec).at F).post enc Tryd.prog Tryd.f5 false true false false) := by
  obtain ⟨places, hx⟩ := reads os enc
  refine returnsInHanded_of_row (C := Tryd.checked) (s := Rows.OpenSpec.upto Rows.styleWriteSpec) own started (by kernel_rfl) Tryd.func5
    (witness_row_at (enc := enc) (C := Tryd.checked) false ({ World.holding Tryd.prog os ⟨#[], #[], []⟩ with heap := (((((World.holding Tryd.prog os ⟨#[], #[], []⟩).heap.modify 2 fun | .cells _ t frozen => .cells (Sty.deB32) t frozen | o => o).modify 3 fun | .cells _ t frozen => .cells (Sty.deB64) t frozen | o => o).modify 1 fun | .cells _ t frozen => .cells (Sty.p10Cells) t frozen | o => o).modify 0 fun | .cells _ t frozen => .cells (Sty.lookCells) t frozen | o => o) } : World) #[.slice none 0 0] rfl (by kernel_rfl) (by kernel_rfl) (by kernel_rfl)
      (OpenSpec.preRow_of_cond 8 hx (by kernel_rfl) (fun k hk => by cases hk; kernel_rfl) (by kernel_rfl) (laid_met os))) ?_
  intro W base args ds gs before hval hW _ hcond hsz hL _ _
  exact contract H enc W base args ds gs before hval hW hsz hL (hcond _ rfl)

theorem said : Rows.StyleWriteUptoSaid :=
  OpenClaim.holds_of_cond 5 Tryd.f5 rfl rfl rfl rfl rfl rfl rfl ⟨rfl, rfl, rfl, rfl, rfl⟩ rfl rfl rfl rfl rfl (by kernel_rfl) Tryd.func5 (by kernel_rfl)
    (of_decide_eq_true (by kernel_rfl)) (by unfold Func.isWrapper; first | (rw [if_pos (by decide +kernel)]; kernel_rfl) | (rw [if_neg (by decide +kernel)]; exact ⟨rfl, rfl⟩))
    (fun os started H enc _ F => by rw [OpenClaim.pre_eq_preRow]; exact lifted os started H enc F)

theorem plain (f : FuncId) (fn : Func) (hf : Tryd.pinned.checked.prog.funcNamed "trellis/trellislaw.StyleWrite" = some f) (hfn : Tryd.pinned.checked.prog.funcs[f]? = some fn) :
    false = Tryd.pinned.checked.prog.looks [] ∧ ∀ (j : Nat) t, fn.params[j]? = some t → Tryd.pinned.checked.prog.wantsStandIn t = false := by
  obtain rfl : f = 5 := Option.some.inj ((show Tryd.prog.funcNamed "trellis/trellislaw.StyleWrite" = some 5 by kernel_rfl).symm.trans hf) |>.symm
  obtain rfl : fn = Tryd.f5 := (Option.some.inj (Tryd.func5.symm.trans hfn)).symm
  refine ⟨by kernel_rfl, fun j t ht => ?_⟩
  rw [Tryd.params5] at ht
  have ht2 : t = 24 := by simpa using Array.mem_of_getElem? ht
  rcases ht2 with rfl
  · exact (show Tryd.prog.wantsStandIn 24 = false by kernel_rfl)
end Go.Proofs.YtfjbngipidimmaaDoor.styleWriteUpto
namespace Go.Proofs.YtfjbngipidimmaaDoor
theorem styleWriteUpto_holds : Rows.StyleWriteUptoCardSaid :=
  Claim7.holds_tied_plain_at .later [] _ _ _ _ styleWriteUpto.said (fun _ h => by cases h) (by kernel_rfl) (fun _ h => by cases h) styleWriteUpto_row_tie rfl ⟨rfl, rfl⟩ (by kernel_rfl) rfl styleWriteUpto.plain (by kernel_rfl)
#print axioms styleWriteUpto_holds
end Go.Proofs.YtfjbngipidimmaaDoor
