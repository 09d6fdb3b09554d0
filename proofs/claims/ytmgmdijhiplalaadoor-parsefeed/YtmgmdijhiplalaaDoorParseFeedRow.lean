/- The Go law ParseFeed answers true for every state and every text of any bytes: what is read from any state tells just the events that the reference tells, errors too. Condition: the tables of package utf8 lie as Go's library lays them. -/
import Derived.Test.YtmgmdijhiplalaaDoorCards
import Derived.Test.YtmgmdijhiplalaaDoorTie
import Derived.Test.YtmgmdijhiplalaaDoorParseTab
import Derived.Test.YtmgmdijhiplalaaDoorParseOpenS
import Derived.Test.YtmgmdijhiplalaaDoorParseFeedL
import Derived.WalkKit
import Derived.ProofKit
import Derived.OpenShut
import Derived.ShutString
import Derived.SizedLaws
import Derived.Deep.DeepHandedRow
import Derived.Lib.LaidTab
import Derived.Lib.LaidU8
import Derived.Lib.SmallJoins
import Derived.Carry
namespace Go.Proofs.YtmgmdijhiplalaaDoor.parseFeed
open Go.ChangeShapes Go.WideShapes Go.ChangeAt Go.RowKit
open Go.ChangeMaps (open_string shut_string)
set_option linter.unusedVariables false

theorem own : ownKnob Tryd.prog.godebug = none := by kernel_rfl
set_option maxRecDepth 100000 in
theorem contract (H : Type) (enc : TypeId × Value → H) (W : World) (base : Nat) (args : Array Value) (ds gs : List (DataW H)) (before : List MemPlace)
    (hval : ∀ (j : Nat) t v, Tryd.f3.params[j]? = some t → args[j]? = some v → Value.okWide Tryd.prog W .any base t v)
    (hW : DataW.Whole enc Tryd.prog Tryd.f3.params.toList Rows.parseFeedSpec.vars false W args.toList ds gs before) (hsz : (DataW.weightsEach Tryd.prog (Tryd.f3.params.toList ++ Rows.parseFeedSpec.plain.varTypes Tryd.prog) (ds ++ gs)).all (· ≤ reachBytes) = true)
    (hL : laidMetH Tryd.prog Rows.parseFeedRow.laid W) :
    Calls Tryd.prog 3 args W fun e W' => ∃ v, e = .returned v ∧ Rows.parseFeedSpec.post enc Tryd.prog Tryd.f3 false true false false W args v W' := by
  have hW' := hW
  obtain ⟨p, q, hA0, hV, rfl, hfz, hnd⟩ := hW
  have hA : DataW.TrodAll enc Tryd.prog W 0 (fun _ => true) true Tryd.f3.params.toList args.toList ds p := hA0
  rw [Tryd.params3] at hA hval hsz
  obtain ⟨v0, vs0, d0, ds0, p0, q0, hargs, rfl, rfl, h0, r0⟩ := trodAll_cons hA
  obtain ⟨v1, vs1, d1, ds1, p1, q1, rfl, rfl, rfl, h1, r1⟩ := trodAll_cons r0
  obtain ⟨rfl, rfl, rfl⟩ := trodAll_nil r1
  obtain rfl : args = #[v0, v1] := by cases args; simp_all
  obtain ⟨rfl, rfl⟩ := trodVars_none hV
  have h0k := h0
  obtain ⟨x0, pa0, pc0, hv0, hI0, hB0, hmk0, hZ0⟩ := Prs.open_state (hval 0 24 v0 rfl rfl) h0
  subst hv0
  have q100 := Prs.sized_state hsz (j := 0) rfl rfl hZ0
  obtain ⟨a1, rfl, rfl, rfl, w1⟩ := open_string Tryd.underlying9 (hval 1 9 v1 rfl rfl) h1
  have z1 : a1.data.toList.length ≤ reachBytes := sized_string hsz (j := 1) (t := 9) rfl rfl
  clear hA0 hsz
  simp only [List.append_nil] at hW'
  have hlt : ∀ x ∈ p0, x.block < W.heap.size := fun x hx => by simpa using hW'.lt x (by simpa using hx)
  have walk : Calls Tryd.prog 3 #[.agg #[.int .i64 x0.at', .int .u8 x0.mark, .string x0.mid, .slice pa0 x0.ps.length pc0, .string x0.txt, .string x0.left, .bool x0.late], .string a1] W fun e w' => e = .returned (.bool true) ∧ Below W.heap.size W w' := by
    have hT : Prs.Tabs W := Prs.tabs_of_reads (Lib.laidMet.reads (l := Rows.parseFeedRow.laid) hL (by simp [Rows.parseFeedRow])) (Lib.laidMet.reads (l := Rows.parseFeedRow.laid) hL (by simp [Rows.parseFeedRow]))
    have hb : a1.size ≤ 9223372036854775807 := by
      have h := z1
      rw [Array.length_toList] at h
      show a1.data.size ≤ _
      unfold reachBytes at h
      omega
    have h1 := hB0.1
    have h2 := hB0.2.1
    unfold maxLen at h1 h2
    have h3 := hB0.2.2.1
    unfold maxLen at h3
    exact Prs.parseFeed_any x0 pa0 pc0 a1 W hT hI0 hmk0 (by omega) (by omega) (by omega) (by omega) hb
  refine walk.mono fun e W' ⟨he, hg⟩ => ?_
  subst he
  exact ⟨_, rfl, _, _, _, [], _, [], hW', trodAll_cons_mk (shut_bool Tryd.underlying4 _) trodAll_mk0, (trodAll_cons_mk (Below.trod (by kernel_rfl) (by kernel_rfl) (of_decide_eq_true (by kernel_rfl)) h0k hg (fun x hx => hlt x (by simp [hx]))) (trodAll_cons_mk (shut_string Tryd.underlying9 w1) trodAll_mk0)), rfl, hg.frame _, fun h => by cases h⟩

set_option maxRecDepth 100000 in
theorem laid_met (os : Os) : laidMet Tryd.prog Rows.parseFeedRow.laid (({ World.holding Tryd.prog os ⟨#[], #[], []⟩ with heap := (((World.holding Tryd.prog os ⟨#[], #[], []⟩).heap.modify 1 fun | .cells _ t frozen => .cells (Prs.acceptCells) t frozen | o => o).modify 0 fun | .cells _ t frozen => .cells (Prs.firstCells) t frozen | o => o) } : World).forCall (fun _ _ => 0) ⟨#[], #[.agg #[.int .i64 0, .int .u8 0, .string ByteArray.empty, .slice none 0 0, .string ByteArray.empty, .string ByteArray.empty, .bool false], .string ByteArray.empty], []⟩).memory :=
  laidMet_of_run' 8 (by kernel_rfl) (by kernel_rfl)
theorem reads (os : Os) {H : Type} (enc : TypeId × Value → H) : ∃ places, DataW.whole enc Tryd.prog (({ World.holding Tryd.prog os ⟨#[], #[], []⟩ with heap := (((World.holding Tryd.prog os ⟨#[], #[], []⟩).heap.modify 1 fun | .cells _ t frozen => .cells (Prs.acceptCells) t frozen | o => o).modify 0 fun | .cells _ t frozen => .cells (Prs.firstCells) t frozen | o => o) } : World).forCall (fun _ _ => 0) ⟨#[], #[.agg #[.int .i64 0, .int .u8 0, .string ByteArray.empty, .slice none 0 0, .string ByteArray.empty, .string ByteArray.empty, .bool false], .string ByteArray.empty], []⟩).memory Tryd.f3.params.toList Rows.parseFeedSpec.vars false #[(.agg #[.int .i64 0, .int .u8 0, .string ByteArray.empty, .slice none 0 0, .string ByteArray.empty, .string ByteArray.empty, .bool false] : Value), (.string ByteArray.empty : Value)].toList 8 = some ([.agg [.lit (.int .i64 0), .lit (.int .u8 0), .lit (.string []), .nil, .lit (.string []), .lit (.string []), .lit (.bool false)], .lit (.string [])], [], places) :=
  ⟨[], by kernel_rfl⟩

set_option maxRecDepth 100000 in
theorem lifted (os : Os) (started : os.Started) (H : Type) (enc : TypeId × Value → H) (F : Stop.Interp) :
    ReturnsInHanded {} Tryd.checked os 3 .any ((OpenSpec.ofChange Rows.parseFeedSpec).preRow enc Tryd.prog Tryd.f3 Rows.parseFeedRow.domain false Rows.parseFeedRow.laid) (((OpenSpec.ofChange Rows.parseFeedSpec).at F).post enc Tryd.prog Tryd.f3 false true false false) := by
  obtain ⟨places, hx⟩ := reads os enc
  refine returnsInHanded_of_row (C := Tryd.checked) (s := OpenSpec.ofChange Rows.parseFeedSpec) own started (by kernel_rfl) Tryd.func3
    (witness_row_at (enc := enc) (C := Tryd.checked) false ({ World.holding Tryd.prog os ⟨#[], #[], []⟩ with heap := (((World.holding Tryd.prog os ⟨#[], #[], []⟩).heap.modify 1 fun | .cells _ t frozen => .cells (Prs.acceptCells) t frozen | o => o).modify 0 fun | .cells _ t frozen => .cells (Prs.firstCells) t frozen | o => o) } : World) #[.agg #[.int .i64 0, .int .u8 0, .string ByteArray.empty, .slice none 0 0, .string ByteArray.empty, .string ByteArray.empty, .bool false], .string ByteArray.empty] rfl (by kernel_rfl) (by kernel_rfl) (by kernel_rfl)
      (OpenSpec.preRow_of_cond 8 hx (by kernel_rfl) (fun k hk => by cases hk) (by kernel_rfl) (laid_met os))) ?_
  intro W base args ds gs before hval hW _ hcond hsz hL _ _
  exact contract H enc W base args ds gs before hval hW hsz hL

theorem said : Rows.ParseFeedSaid :=
  OpenClaim.holds_of_cond 3 Tryd.f3 rfl rfl rfl rfl rfl rfl rfl ⟨rfl, rfl, rfl, rfl, rfl⟩ rfl rfl rfl rfl rfl (by kernel_rfl) Tryd.func3 (by kernel_rfl)
    (of_decide_eq_true (by kernel_rfl)) (by unfold Func.isWrapper; first | (rw [if_pos (by decide +kernel)]; kernel_rfl) | (rw [if_neg (by decide +kernel)]; exact ⟨rfl, rfl⟩))
    (fun os started H enc _ F => by rw [OpenClaim.pre_eq_preRow]; exact lifted os started H enc F)

theorem plain (f : FuncId) (fn : Func) (hf : Tryd.pinned.checked.prog.funcNamed "trellis/trellislaw.ParseFeed" = some f) (hfn : Tryd.pinned.checked.prog.funcs[f]? = some fn) :
    true = Tryd.pinned.checked.prog.looks [] ∧ ∀ (j : Nat) t, fn.params[j]? = some t → Tryd.pinned.checked.prog.wantsStandIn t = false := by
  obtain rfl : f = 3 := Option.some.inj ((show Tryd.prog.funcNamed "trellis/trellislaw.ParseFeed" = some 3 by kernel_rfl).symm.trans hf) |>.symm
  obtain rfl : fn = Tryd.f3 := (Option.some.inj (Tryd.func3.symm.trans hfn)).symm
  refine ⟨by kernel_rfl, fun j t ht => ?_⟩
  rw [Tryd.params3] at ht
  have ht2 : t = 24 ∨ t = 9 := by simpa using Array.mem_of_getElem? ht
  rcases ht2 with rfl | rfl
  · exact (show Tryd.prog.wantsStandIn 24 = false by kernel_rfl)
  · exact (show Tryd.prog.wantsStandIn 9 = false by kernel_rfl)
end Go.Proofs.YtmgmdijhiplalaaDoor.parseFeed
namespace Go.Proofs.YtmgmdijhiplalaaDoor
theorem parseFeed_holds : Rows.ParseFeedCardSaid :=
  Claim7.holds_tied_plain_at .later [] _ _ _ _ parseFeed.said (fun _ h => by cases h) (by kernel_rfl) (fun _ h => by cases h) parseFeed_row_tie rfl ⟨rfl, rfl⟩ (by kernel_rfl) rfl parseFeed.plain (by kernel_rfl)
#print axioms parseFeed_holds
end Go.Proofs.YtmgmdijhiplalaaDoor
