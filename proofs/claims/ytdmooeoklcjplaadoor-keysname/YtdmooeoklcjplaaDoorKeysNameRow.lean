/- The Go law KeysName answers true for every key and every text of any bytes: a key's name is the reference's, and a text's key is the one whose name it is, errors too; no key has a name that is refused. Condition: the listed tables and the library's two errors lie as the program's text and Go's library lay them. -/
import Derived.Test.YtdmooeoklcjplaaDoorCards
import Derived.Test.YtdmooeoklcjplaaDoorTie
import Derived.Test.YtdmooeoklcjplaaDoorPartK
import Derived.Test.YtdmooeoklcjplaaDoorPartL
import Derived.WalkKit
import Derived.ProofKit
import Derived.OpenShut
import Derived.ShutString
import Derived.SizedLaws
import Derived.Deep.DeepHandedRow
import Derived.Deep.DeepWitnessRowRef
import Derived.Lib.LaidTab
import Derived.Lib.LaidU8
import Derived.Lib.SmallJoins
import Derived.Carry
namespace Go.Proofs.YtdmooeoklcjplaaDoor.keysName
open Go.ChangeShapes Go.WideShapes Go.ChangeAt Go.RowKit
open Go.ChangeMaps (open_string shut_string)
set_option linter.unusedVariables false

theorem own : ownKnob Tryd.prog.godebug = none := by kernel_rfl
set_option maxRecDepth 100000 in
theorem contract (H : Type) (enc : TypeId × Value → H) (W : World) (base : Nat) (args : Array Value) (ds gs : List (DataW H)) (before : List MemPlace)
    (hval : ∀ (j : Nat) t v, Tryd.f5.params[j]? = some t → args[j]? = some v → Value.okWide Tryd.prog W .any base t v)
    (hW : DataW.Whole enc Tryd.prog Tryd.f5.params.toList Rows.keysNameSpec.vars false W args.toList ds gs before) (hsz : (DataW.weightsEach Tryd.prog (Tryd.f5.params.toList ++ Rows.keysNameSpec.plain.varTypes Tryd.prog) (ds ++ gs)).all (· ≤ reachBytes) = true)
    (hL : laidMetH Tryd.prog Rows.keysNameRow.laid W) :
    Calls Tryd.prog 5 args W fun e W' => ∃ v, e = .returned v ∧ Rows.keysNameSpec.post enc Tryd.prog Tryd.f5 false true false false W args v W' := by
  have hW' := hW
  obtain ⟨p, q, hA0, hV, rfl, hfz, hnd⟩ := hW
  have hA : DataW.TrodAll enc Tryd.prog W 0 (fun _ => true) true Tryd.f5.params.toList args.toList ds p := hA0
  rw [Tryd.params5] at hA hval hsz
  obtain ⟨v0, vs0, d0, ds0, p0, q0, hargs, rfl, rfl, h0, r0⟩ := trodAll_cons hA
  obtain ⟨v1, vs1, d1, ds1, p1, q1, rfl, rfl, rfl, h1, r1⟩ := trodAll_cons r0
  obtain ⟨rfl, rfl, rfl⟩ := trodAll_nil r1
  obtain rfl : args = #[v0, v1] := by cases args; simp_all
  obtain ⟨rfl, rfl⟩ := trodVars_none hV
  have h0k := h0
  obtain ⟨a0, b0, c0, e0, hv0, wf0⟩ := Kys.open_keyw (hval 0 23 v0 rfl rfl) h0
  subst hv0
  obtain ⟨a1, rfl, rfl, rfl, w1⟩ := open_string Tryd.underlying9 (hval 1 9 v1 rfl rfl) h1
  have z1 : a1.data.toList.length ≤ reachBytes := sized_string hsz (j := 1) (t := 9) rfl rfl
  clear hA0 hsz
  simp only [List.append_nil] at hW'
  have hlt : ∀ x ∈ p0, x.block < W.heap.size := fun x hx => by simpa using hW'.lt x (by simpa using hx)
  have walk : Calls Tryd.prog 5 #[.agg #[.int .i64 a0, .int .i32 b0, .int .i64 c0, .int .i64 e0], .string a1] W fun e w' => e = .returned (.bool true) ∧ Below W.heap.size W w' := by
    have hE : Kys.Env W := Kys.env_of (Lib.laidMet.reads (l := Rows.keysNameRow.laid) hL (by simp [Rows.keysNameRow])) (Lib.laidMet.reads (l := Rows.keysNameRow.laid) hL (by simp [Rows.keysNameRow])) (Lib.laidMet.reads (l := Rows.keysNameRow.laid) hL (by simp [Rows.keysNameRow])) (Lib.laidMet.reads (l := Rows.keysNameRow.laid) hL (by simp [Rows.keysNameRow])) (Lib.laidMet.reads (l := Rows.keysNameRow.laid) hL (by simp [Rows.keysNameRow])) (Lib.laidMet.reads (l := Rows.keysNameRow.laid) hL (by simp [Rows.keysNameRow]))
    have hz : a1.size ≤ 140737488351232 := Nat.le_trans (Nat.le_of_eq (show a1.size = a1.data.toList.length from (Array.length_toList).symm)) (Nat.le_trans z1 (by decide))
    exact Kys.keysName_walk ⟨a0, b0, c0, e0⟩ a1 hz W ⟨hE, Kys.name_of_reads (Lib.laidMet.reads (l := Rows.keysNameRow.laid) hL (by simp [Rows.keysNameRow])), Kys.hold_of_reads (Lib.laidMet.reads (l := Rows.keysNameRow.laid) hL (by simp [Rows.keysNameRow])), Kys.sp_of_reads (Lib.laidMet.reads (l := Rows.keysNameRow.laid) hL (by simp [Rows.keysNameRow]))⟩ wf0
  refine walk.mono fun e W' ⟨he, hg⟩ => ?_
  subst he
  exact ⟨_, rfl, _, _, _, [], _, [], hW', trodAll_cons_mk (shut_bool Tryd.underlying4 _) trodAll_mk0, (trodAll_cons_mk (Below.trod (by kernel_rfl) (by kernel_rfl) (of_decide_eq_true (by kernel_rfl)) h0k hg (fun x hx => hlt x (by simp [hx]))) (trodAll_cons_mk (shut_string Tryd.underlying9 w1) trodAll_mk0)), rfl, hg.frame _, fun h => by cases h⟩

set_option maxRecDepth 100000 in
theorem laid_met (os : Os) : laidMet Tryd.prog Rows.keysNameRow.laid (({ World.holding Tryd.prog os ⟨#[], #[], []⟩ with heap := (((((((((((((((World.holding Tryd.prog os ⟨#[], #[], []⟩).heap.modify 12 fun | .cells _ t frozen => .cells (Kys.cells1 Rows.laid_math_bits_deBruijn32tab) t frozen | o => o).modify 13 fun | .cells _ t frozen => .cells (Kys.cells1 Rows.laid_math_bits_deBruijn64tab) t frozen | o => o).modify 9 fun | .cells _ t frozen => .cells (Kys.cells1 Rows.laid_internal_strconv_uint64pow10) t frozen | o => o).modify 5 fun | .cells _ t frozen => .cells (Txt.acceptCells) t frozen | o => o).modify 11 fun | .cells _ t frozen => .cells (#[.iface 152 (.pointer (some ⟨20, 0, none⟩))]) t frozen | o => o).modify 10 fun | .cells _ t frozen => .cells (#[.iface 152 (.pointer (some ⟨21, 0, none⟩))]) t frozen | o => o).modify 6 fun | .cells _ t frozen => .cells (#[.pointer (some ⟨22, 0, none⟩)]) t frozen | o => o).modify 2 fun | .cells _ t frozen => .cells (Kys.cells1 Rows.laid_strings_asciiSpace) t frozen | o => o).modify 3 fun | .cells _ t frozen => .cells (Txt.spanCells) t frozen | o => o).modify 7 fun | .cells _ t frozen => .cells (Kys.numCells) t frozen | o => o).modify 1 fun | .cells _ t frozen => .cells (Kys.nameCells) t frozen | o => o).modify 0 fun | .cells _ t frozen => .cells (Kys.holdCells) t frozen | o => o).modify 4 fun | .cells _ t frozen => .cells (Txt.firstCells) t frozen | o => o) ++ #[.cells #[.string ⟨#[118, 97, 108, 117, 101, 32, 111, 117, 116, 32, 111, 102, 32, 114, 97, 110, 103, 101]⟩] 154 (0, 0), .cells #[.string ⟨#[105, 110, 118, 97, 108, 105, 100, 32, 115, 121, 110, 116, 97, 120]⟩] 154 (0, 0), .cells #[.slice (some ⟨23, 0, none⟩) 7 7, .slice none 0 0, .int .i64 2] 125 (0, 0), .cells #[.int .u16 9, .int .u16 13, .int .u16 1, .int .u16 32, .int .u16 133, .int .u16 101, .int .u16 160, .int .u16 5760, .int .u16 5600, .int .u16 8192, .int .u16 8202, .int .u16 1, .int .u16 8232, .int .u16 8233, .int .u16 1, .int .u16 8239, .int .u16 8287, .int .u16 48, .int .u16 12288, .int .u16 12288, .int .u16 1] 128 (0, 0)]) } : World).forCall (fun _ _ => 0) ⟨#[], #[.agg #[.int .i64 0, .int .i32 0, .int .i64 0, .int .i64 0], .string ByteArray.empty], []⟩).memory :=
  Fast.laid 8 (by kernel_rfl) (by kernel_rfl)
theorem reads (os : Os) {H : Type} (enc : TypeId × Value → H) : ∃ places, DataW.whole enc Tryd.prog (({ World.holding Tryd.prog os ⟨#[], #[], []⟩ with heap := (((((((((((((((World.holding Tryd.prog os ⟨#[], #[], []⟩).heap.modify 12 fun | .cells _ t frozen => .cells (Kys.cells1 Rows.laid_math_bits_deBruijn32tab) t frozen | o => o).modify 13 fun | .cells _ t frozen => .cells (Kys.cells1 Rows.laid_math_bits_deBruijn64tab) t frozen | o => o).modify 9 fun | .cells _ t frozen => .cells (Kys.cells1 Rows.laid_internal_strconv_uint64pow10) t frozen | o => o).modify 5 fun | .cells _ t frozen => .cells (Txt.acceptCells) t frozen | o => o).modify 11 fun | .cells _ t frozen => .cells (#[.iface 152 (.pointer (some ⟨20, 0, none⟩))]) t frozen | o => o).modify 10 fun | .cells _ t frozen => .cells (#[.iface 152 (.pointer (some ⟨21, 0, none⟩))]) t frozen | o => o).modify 6 fun | .cells _ t frozen => .cells (#[.pointer (some ⟨22, 0, none⟩)]) t frozen | o => o).modify 2 fun | .cells _ t frozen => .cells (Kys.cells1 Rows.laid_strings_asciiSpace) t frozen | o => o).modify 3 fun | .cells _ t frozen => .cells (Txt.spanCells) t frozen | o => o).modify 7 fun | .cells _ t frozen => .cells (Kys.numCells) t frozen | o => o).modify 1 fun | .cells _ t frozen => .cells (Kys.nameCells) t frozen | o => o).modify 0 fun | .cells _ t frozen => .cells (Kys.holdCells) t frozen | o => o).modify 4 fun | .cells _ t frozen => .cells (Txt.firstCells) t frozen | o => o) ++ #[.cells #[.string ⟨#[118, 97, 108, 117, 101, 32, 111, 117, 116, 32, 111, 102, 32, 114, 97, 110, 103, 101]⟩] 154 (0, 0), .cells #[.string ⟨#[105, 110, 118, 97, 108, 105, 100, 32, 115, 121, 110, 116, 97, 120]⟩] 154 (0, 0), .cells #[.slice (some ⟨23, 0, none⟩) 7 7, .slice none 0 0, .int .i64 2] 125 (0, 0), .cells #[.int .u16 9, .int .u16 13, .int .u16 1, .int .u16 32, .int .u16 133, .int .u16 101, .int .u16 160, .int .u16 5760, .int .u16 5600, .int .u16 8192, .int .u16 8202, .int .u16 1, .int .u16 8232, .int .u16 8233, .int .u16 1, .int .u16 8239, .int .u16 8287, .int .u16 48, .int .u16 12288, .int .u16 12288, .int .u16 1] 128 (0, 0)]) } : World).forCall (fun _ _ => 0) ⟨#[], #[.agg #[.int .i64 0, .int .i32 0, .int .i64 0, .int .i64 0], .string ByteArray.empty], []⟩).memory Tryd.f5.params.toList Rows.keysNameSpec.vars false #[(.agg #[.int .i64 0, .int .i32 0, .int .i64 0, .int .i64 0] : Value), (.string ByteArray.empty : Value)].toList 8 = some ([.agg [.lit (.int .i64 0), .lit (.int .i32 0), .lit (.int .i64 0), .lit (.int .i64 0)], .lit (.string [])], [], places) :=
  ⟨[], by kernel_rfl⟩

set_option maxRecDepth 100000 in
theorem lifted (os : Os) (started : os.Started) (H : Type) (enc : TypeId × Value → H) (F : Stop.Interp) :
    ReturnsInHanded {} Tryd.checked os 5 .any ((OpenSpec.ofChange Rows.keysNameSpec).preRow enc Tryd.prog Tryd.f5 Rows.keysNameRow.domain false Rows.keysNameRow.laid) (((OpenSpec.ofChange Rows.keysNameSpec).at F).post enc Tryd.prog Tryd.f5 false true false false) := by
  obtain ⟨places, hx⟩ := reads os enc
  refine returnsInHanded_of_row (C := Tryd.checked) (s := OpenSpec.ofChange Rows.keysNameSpec) own started (by kernel_rfl) Tryd.func5
    (witness_row_atRef (enc := enc) (C := Tryd.checked) false ({ World.holding Tryd.prog os ⟨#[], #[], []⟩ with heap := (((((((((((((((World.holding Tryd.prog os ⟨#[], #[], []⟩).heap.modify 12 fun | .cells _ t frozen => .cells (Kys.cells1 Rows.laid_math_bits_deBruijn32tab) t frozen | o => o).modify 13 fun | .cells _ t frozen => .cells (Kys.cells1 Rows.laid_math_bits_deBruijn64tab) t frozen | o => o).modify 9 fun | .cells _ t frozen => .cells (Kys.cells1 Rows.laid_internal_strconv_uint64pow10) t frozen | o => o).modify 5 fun | .cells _ t frozen => .cells (Txt.acceptCells) t frozen | o => o).modify 11 fun | .cells _ t frozen => .cells (#[.iface 152 (.pointer (some ⟨20, 0, none⟩))]) t frozen | o => o).modify 10 fun | .cells _ t frozen => .cells (#[.iface 152 (.pointer (some ⟨21, 0, none⟩))]) t frozen | o => o).modify 6 fun | .cells _ t frozen => .cells (#[.pointer (some ⟨22, 0, none⟩)]) t frozen | o => o).modify 2 fun | .cells _ t frozen => .cells (Kys.cells1 Rows.laid_strings_asciiSpace) t frozen | o => o).modify 3 fun | .cells _ t frozen => .cells (Txt.spanCells) t frozen | o => o).modify 7 fun | .cells _ t frozen => .cells (Kys.numCells) t frozen | o => o).modify 1 fun | .cells _ t frozen => .cells (Kys.nameCells) t frozen | o => o).modify 0 fun | .cells _ t frozen => .cells (Kys.holdCells) t frozen | o => o).modify 4 fun | .cells _ t frozen => .cells (Txt.firstCells) t frozen | o => o) ++ #[.cells #[.string ⟨#[118, 97, 108, 117, 101, 32, 111, 117, 116, 32, 111, 102, 32, 114, 97, 110, 103, 101]⟩] 154 (0, 0), .cells #[.string ⟨#[105, 110, 118, 97, 108, 105, 100, 32, 115, 121, 110, 116, 97, 120]⟩] 154 (0, 0), .cells #[.slice (some ⟨23, 0, none⟩) 7 7, .slice none 0 0, .int .i64 2] 125 (0, 0), .cells #[.int .u16 9, .int .u16 13, .int .u16 1, .int .u16 32, .int .u16 133, .int .u16 101, .int .u16 160, .int .u16 5760, .int .u16 5600, .int .u16 8192, .int .u16 8202, .int .u16 1, .int .u16 8232, .int .u16 8233, .int .u16 1, .int .u16 8239, .int .u16 8287, .int .u16 48, .int .u16 12288, .int .u16 12288, .int .u16 1] 128 (0, 0)]) } : World) #[.agg #[.int .i64 0, .int .i32 0, .int .i64 0, .int .i64 0], .string ByteArray.empty] rfl (by kernel_rfl) (by kernel_rfl) (by kernel_rfl)
      (OpenSpec.preRow_of_cond 8 hx (by kernel_rfl) (fun k hk => by cases hk) (by kernel_rfl) (laid_met os))) ?_
  intro W base args ds gs before hval hW _ hcond hsz hL _ _
  exact contract H enc W base args ds gs before hval hW hsz hL

theorem said : Rows.KeysNameSaid :=
  OpenClaim.holds_of_cond 5 Tryd.f5 rfl rfl rfl rfl rfl rfl rfl ⟨rfl, rfl, rfl, rfl, rfl⟩ rfl rfl rfl rfl rfl (by kernel_rfl) Tryd.func5 (by kernel_rfl)
    (of_decide_eq_true (by kernel_rfl)) (by unfold Func.isWrapper; first | (rw [if_pos (by decide +kernel)]; kernel_rfl) | (rw [if_neg (by decide +kernel)]; exact ⟨rfl, rfl⟩))
    (fun os started H enc _ F => by rw [OpenClaim.pre_eq_preRow]; exact lifted os started H enc F)

theorem plain (f : FuncId) (fn : Func) (hf : Tryd.pinned.checked.prog.funcNamed "trellis/trellislaw.KeysName" = some f) (hfn : Tryd.pinned.checked.prog.funcs[f]? = some fn) :
    true = Tryd.pinned.checked.prog.looks [] ∧ ∀ (j : Nat) t, fn.params[j]? = some t → Tryd.pinned.checked.prog.wantsStandIn t = false := by
  obtain rfl : f = 5 := Option.some.inj ((show Tryd.prog.funcNamed "trellis/trellislaw.KeysName" = some 5 by kernel_rfl).symm.trans hf) |>.symm
  obtain rfl : fn = Tryd.f5 := (Option.some.inj (Tryd.func5.symm.trans hfn)).symm
  refine ⟨by kernel_rfl, fun j t ht => ?_⟩
  rw [Tryd.params5] at ht
  have ht2 : t = 23 ∨ t = 9 := by simpa using Array.mem_of_getElem? ht
  rcases ht2 with rfl | rfl
  · exact (show Tryd.prog.wantsStandIn 23 = false by kernel_rfl)
  · exact (show Tryd.prog.wantsStandIn 9 = false by kernel_rfl)
end Go.Proofs.YtdmooeoklcjplaaDoor.keysName
namespace Go.Proofs.YtdmooeoklcjplaaDoor
theorem keysName_holds : Rows.KeysNameCardSaid :=
  Claim7.holds_tied_plain_at .later [] _ _ _ _ keysName.said (fun _ h => by cases h) (by kernel_rfl) (fun _ h => by cases h) keysName_row_tie rfl ⟨rfl, rfl⟩ (by kernel_rfl) rfl keysName.plain (by kernel_rfl)
#print axioms keysName_holds
end Go.Proofs.YtdmooeoklcjplaaDoor
