/- Package format: the reader: sees, took, need. -/
import Derived.Test.YtbhoklhcdefabaaDoorFmtM
import Derived.Test.YtbhoklhcdefabaaDoorShelf
import Derived.WalkKit
import Derived.ProofKit
import Derived.OpenShut
import Derived.Deep.Draws
import Derived.Carry
import Derived.Maps.OwnOps
import Derived.Maps.OwnSet
import Derived.Maps.Views
import Derived.Maps.Keyed
import Derived.Laws.AppendOwn
import Derived.Laws.OwnMore
import Derived.Laws.ResultCell
import Derived.Laws.Rows
import Derived.Deep.LoopGhost
import Derived.BigQuiet
import Derived.Lib.QuietBelow
import Derived.Great.Walk
import Derived.WalkLawsBesides
import Derived.Deep.RegionWith
import Derived.Deep.CutRange
import Derived.Deep.DeepCutAuto
namespace Go.Proofs.YtbhoklhcdefabaaDoor
open Go.ChangeShapes Go.WideShapes Go.ChangeAt Go.RowKit Go.Maps Go.Sort
namespace Fmt
/-- One block alone has turned. -/
structure But (M : Nat) (w w' : World) : Prop where
  os : w'.os = w.os
  tape : w'.tape = w.tape
  output : w'.output = w.output
  size : w.heap.size ≤ w'.heap.size
  block : ∀ i, i < w.heap.size → i ≠ M → w'.heap[i]? = w.heap[i]?
theorem But.refl (M : Nat) (w : World) : But M w w := ⟨rfl, rfl, rfl, Nat.le_refl _, fun _ _ _ => rfl⟩
theorem But.trans {M : Nat} {a b c : World} (h : But M a b) (g : But M b c) : But M a c :=
  ⟨g.os.trans h.os, g.tape.trans h.tape, g.output.trans h.output, Nat.le_trans h.size g.size, fun i hi hne => (g.block i (Nat.lt_of_lt_of_le hi h.size) hne).trans (h.block i hi hne)⟩
theorem But.of_below {M : Nat} {w w' : World} (h : Below w.heap.size w w') : But M w w' := ⟨h.os, h.tape, h.output, h.size, fun i hi _ => h.block i hi⟩
theorem But.below {M N : Nat} {w w' : World} (h : But M w w') (hM : N ≤ M) (hN : N ≤ w.heap.size) : Below N w w' := ⟨h.os, h.tape, h.output, h.size, fun i hi => h.block i (by omega) (by omega)⟩
theorem But.setCell {M i : Nat} {w w' : World} (h : But M w w') (u : Value) : But M w (w'.setCell ⟨M, i, none⟩ u) :=
  ⟨h.os, h.tape, h.output, by rw [show (w'.setCell ⟨M, i, none⟩ u).heap.size = w'.heap.size by simp [World.setCell]]; exact h.size, fun j hj hne => by rw [RowKit.Below.heap_setCell _ _ _ _ hne]; exact h.block j hj hne⟩
theorem But.drew {M : Nat} {w w' : World} (h : But M w.drew w') : But M w w' := ⟨h.os, h.tape, h.output, h.size, h.block⟩
theorem kept {w w' : World} {g : Nat} {ob : Obj} (h : w.heap[g]? = some ob) (b : Below w.heap.size w w') : w'.heap[g]? = some ob := (b.block _ (Array.getElem?_eq_some_iff.1 h).1).trans h
theorem But.kept {M : Nat} {w w' : World} {g : Nat} {ob : Obj} (b : But M w w') (h : w.heap[g]? = some ob) (hne : g ≠ M) : w'.heap[g]? = some ob := (b.block _ (Array.getElem?_eq_some_iff.1 h).1 hne).trans h
/-- A reader in memory. -/
def RdAt (w : World) (R : Nat) (t : ByteArray) (iv : Value) (p d : Nat) : Prop := w.heap[R]? = some (.cells #[.string t, iv, .int .i64 p, .int .i64 d] 69 (0, 0))
theorem RdAt.cells {w : World} {R : Nat} {t : ByteArray} {iv : Value} {p d : Nat} (h : RdAt w R t iv p d) : (w.cell? ⟨R, 0, none⟩ = some (.string t) ∧ w.cell? ⟨R, 1, none⟩ = some iv ∧ w.cell? ⟨R, 2, none⟩ = some (.int .i64 p) ∧ w.cell? ⟨R, 3, none⟩ = some (.int .i64 d)) ∧ ∀ i, w.frozen? ⟨R, i, none⟩ = false := by
  unfold RdAt at h
  have hf : ∀ i, w.frozen? ⟨R, i, none⟩ = false := fun i => by simp [World.frozen?, h]
  unfold World.cell?
  rw [h]
  exact ⟨⟨rfl, rfl, rfl, rfl⟩, hf⟩
theorem RdAt.below {w w' : World} {R : Nat} {t : ByteArray} {iv : Value} {p d : Nat} (h : RdAt w R t iv p d) (hb : Below w.heap.size w w') : RdAt w' R t iv p d := Fmt.kept h hb
theorem rd_at {w : World} {R : Nat} {t : ByteArray} {iv : Value} {p d : Nat} (h : RdAt w R t iv p d) (q : Nat) : RdAt (w.setCell ⟨R, 2, none⟩ (.int .i64 q)) R t iv q d := heap_setCell_same w R 2 _ _ _ h
theorem rd_deep {w : World} {R : Nat} {t : ByteArray} {iv : Value} {p d : Nat} (h : RdAt w R t iv p d) (q : Nat) : RdAt (w.setCell ⟨R, 3, none⟩ (.int .i64 q)) R t iv p q := heap_setCell_same w R 3 _ _ _ h
/-- What a reader gives up with. -/
abbrev stp (q : Nat) : Ending := .panicked [{ v := .iface 66 (.agg #[.int .i64 q]), recovered := false }]
/-- Does c come next? -/
def nexts (t : ByteArray) (p : Nat) (c : ByteArray) : Bool := Lib.hasPrefix (t.data.toList.drop p) c.data.toList
theorem extract_drop (t : ByteArray) (p : Nat) : (t.extract p t.size).data.toList = t.data.toList.drop p := by
  rw [ByteArray.data_extract, Array.toList_extract, List.extract_eq_take_drop, List.take_of_length_le]
  rw [List.length_drop]
  have : t.data.toList.length = t.size := Array.length_toList
  omega
theorem get_drop (t : ByteArray) (p : Nat) (h : p < t.size) : t.data.toList.drop p = t[p] :: t.data.toList.drop (p + 1) := by
  rw [List.drop_eq_getElem_cons (show p < t.data.toList.length by rw [Array.length_toList]; exact h)]
  rfl
theorem nexts_one (t : ByteArray) (p : Nat) (c : UInt8) : nexts t p ⟨#[c]⟩ = nx t p c := by
  unfold nexts nx Lib.hasPrefix
  by_cases h : p < t.size
  · rw [dif_pos h, get_drop t p h]
    show ([c].isPrefixOf _) = _
    rw [List.isPrefixOf, List.isPrefixOf, Bool.and_true]
    rw [Bool.eq_iff_iff, beq_iff_eq, beq_iff_eq]
    exact eq_comm
  · rw [dif_neg h, List.drop_of_length_le (by rw [Array.length_toList]; exact Nat.not_lt.1 h)]
    rfl
theorem nexts_two (t : ByteArray) (p : Nat) (a b : UInt8) : nexts t p ⟨#[a, b]⟩ = (nx t p a && nx t (p + 1) b) := by
  rw [← nexts_one t (p + 1) b]
  unfold nexts nx Lib.hasPrefix
  by_cases h : p < t.size
  · rw [dif_pos h, get_drop t p h]
    show ([a, b].isPrefixOf _) = _
    rw [List.isPrefixOf]
    congr 1
    rw [Bool.eq_iff_iff, beq_iff_eq, beq_iff_eq]
    exact eq_comm
  · rw [dif_neg h, List.drop_of_length_le (by rw [Array.length_toList]; exact Nat.not_lt.1 h)]
    rfl
set_option maxHeartbeats 4000000 in
set_option maxRecDepth 100000 in
theorem sees_any (R : Nat) (t : ByteArray) (iv : Value) (p d : Nat) (c : ByteArray) (w : World) (hr : RdAt w R t iv p d) (hp : p ≤ t.size) :
    Calls Tryd.prog 49 #[.pointer (some ⟨R, 0, none⟩), .string c] w fun e w' => e = .returned (.bool (nexts t p c)) ∧ Below w.heap.size w w' := by
  obtain ⟨⟨c0, c1, c2, c3⟩, _⟩ := hr.cells
  have ip : (p : Int) ≤ (t.size : Int) := Int.ofNat_le.2 hp
  have ip0 : (0 : Int) ≤ (p : Int) := Int.natCast_nonneg _
  have HP := fun W => Tryd.strings_HasPrefix (t.extract p t.size) c W
  rw [extract_drop] at HP
  have HN : Hid (nexts t p c = Lib.hasPrefix (t.data.toList.drop p) c.data.toList) := rfl
  have K1 : Hid (∀ d os, Calls Tryd.prog 18 #[.string (t.extract p t.size), .string c] (grow (redrawn w d) os) fun e w'' => e = .returned (.bool (Lib.hasPrefix (t.data.toList.drop p) c.data.toList)) ∧ ∃ p : Regrown, w'' = grow (redrawn w p.d) p.os) := fun d os => Calls.regrown_of ((HP _).mono fun e w' ⟨h1, h2⟩ => ⟨h1, by rw [h2]; exact Below.refl _ _⟩)
  clear hr c1 c3 HP
  go_enter Tryd.func49, Tryd.ntmps49
  go_wp2_with fail
  have g0 := fun d os => cell_regrown c0 d os
  have g2 := fun d os => cell_regrown c2 d os
  refine wp_region_quiet_below (by kernel_rfl) (by kernel_rfl) ?_
  repeat (first | go_big_quiet_skip | quiet_step (first | (go_at_call 18; exact K1.out _ _)))
  refine wpQuiet_nil ?_
  intro _ hw'
  obtain ⟨⟨dq, os⟩, hw''⟩ := hw'
  subst hw''
  have kR := below_regrown w dq os
  go_wp2_with fail
  go_ret
  exact ⟨rfl, kR⟩
set_option maxHeartbeats 4000000 in
set_option maxRecDepth 100000 in
theorem took_any (R : Nat) (t : ByteArray) (iv : Value) (p d : Nat) (c : ByteArray) (w : World) (hr : RdAt w R t iv p d) (hp : p ≤ t.size) (hs : t.size ≤ 4000) (hc : c.size ≤ 10) :
    Calls Tryd.prog 47 #[.pointer (some ⟨R, 0, none⟩), .string c] w fun e w' => e = .returned (.bool (nexts t p c)) ∧ RdAt w' R t iv (if nexts t p c then p + c.size else p) d ∧ But R w w' := by
  have HS := sees_any R t iv p d c w hr hp
  cases hn : nexts t p c with
  | false =>
    rw [hn] at HS
    simp only [Bool.false_eq_true, if_false]
    clear hn
    go_enter Tryd.func47, Tryd.ntmps47
    go_wp2_with fail
    refine HS.mono ?_
    rintro e W ⟨rfl, bW⟩
    go_wp2_with fail
    go_ret
    exact ⟨rfl, hr.below bW, But.of_below bW⟩
  | true =>
    rw [hn] at HS
    simp only [if_true]
    have hw : wrap64 ((p : Int) + (c.size : Int)) = ((p + c.size : Nat) : Int) := by unfold wrap64; omega
    clear hn
    go_enter Tryd.func47, Tryd.ntmps47
    go_wp2_with fail
    refine HS.mono ?_
    rintro e W ⟨rfl, bW⟩
    have hrW := hr.below bW
    obtain ⟨⟨c0, c1, c2, c3⟩, hf⟩ := hrW.cells
    have f2 := hf 2
    go_wp2_with fail
    go_ret
    exact ⟨rfl, rd_at hrW (p + c.size), (But.of_below bW).setCell _⟩
set_option maxHeartbeats 4000000 in
set_option maxRecDepth 100000 in
theorem giveUp_any (R : Nat) (t : ByteArray) (iv : Value) (p d : Nat) (w : World) (hr : RdAt w R t iv p d) :
    Calls Tryd.prog 57 #[.pointer (some ⟨R, 0, none⟩)] w fun e w' => e = stp p ∧ w' = w := by
  obtain ⟨⟨c0, c1, c2, c3⟩, _⟩ := hr.cells
  clear hr c0 c1 c3
  go_enter Tryd.func57, Tryd.ntmps57
  go_wp2_with fail
  exact ⟨rfl, rfl, rfl⟩
set_option maxHeartbeats 4000000 in
set_option maxRecDepth 100000 in
theorem need_yes (R : Nat) (t : ByteArray) (iv : Value) (p d : Nat) (c : ByteArray) (w : World) (hr : RdAt w R t iv p d) (hp : p ≤ t.size) (hs : t.size ≤ 4000) (hc : c.size ≤ 10) (hn : nexts t p c = true) :
    Calls Tryd.prog 58 #[.pointer (some ⟨R, 0, none⟩), .string c] w fun e w' => e = .returned (.tuple #[]) ∧ RdAt w' R t iv (p + c.size) d ∧ But R w w' := by
  have HS := took_any R t iv p d c w hr hp hs hc
  rw [hn] at HS
  simp only [if_true] at HS
  clear hn hr
  go_enter Tryd.func58, Tryd.ntmps58
  go_wp2_with fail
  refine HS.mono ?_
  rintro e W ⟨rfl, rW, bW⟩
  go_wp2_with fail
  first | go_end0 | skip
  exact ⟨rfl, rW, bW⟩
set_option maxHeartbeats 4000000 in
set_option maxRecDepth 100000 in
theorem need_no (R : Nat) (t : ByteArray) (iv : Value) (p d : Nat) (c : ByteArray) (w : World) (hr : RdAt w R t iv p d) (hp : p ≤ t.size) (hs : t.size ≤ 4000) (hc : c.size ≤ 10) (hn : nexts t p c = false) :
    Calls Tryd.prog 58 #[.pointer (some ⟨R, 0, none⟩), .string c] w fun e w' => e = stp p ∧ But R w w' := by
  have HS := took_any R t iv p d c w hr hp hs hc
  rw [hn] at HS
  simp only [Bool.false_eq_true, if_false] at HS
  have HG := fun W h => giveUp_any R t iv p d W h
  clear hn hr
  go_enter Tryd.func58, Tryd.ntmps58
  go_wp2_with fail
  refine HS.mono ?_
  rintro e W ⟨rfl, rW, bW⟩
  go_wp2_with fail
  refine (HG W rW).mono ?_
  rintro e W2 ⟨rfl, rfl⟩
  go_wp2_with fail
  exact ⟨rfl, rfl, bW⟩
end Fmt
end Go.Proofs.YtbhoklhcdefabaaDoor
