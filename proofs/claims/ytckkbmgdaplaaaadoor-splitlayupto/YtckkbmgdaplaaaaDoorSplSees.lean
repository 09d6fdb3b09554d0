/- Package split: the reader of a text: sees, took. -/
import Derived.Test.YtckkbmgdaplaaaaDoorSplLv
import Derived.BigQuiet
import Derived.Lib.QuietBelow
import Derived.Great.Walk
namespace Go.Proofs.YtckkbmgdaplaaaaDoor
open Go.ChangeShapes Go.WideShapes Go.ChangeAt Go.RowKit Go.Maps Go.Sort
namespace Spl
/-- A reader in memory. -/
def RdAt (w : World) (R : Nat) (t : ByteArray) (p o : Nat) : Prop := w.heap[R]? = some (.cells #[.string t, .int .i64 p, .int .i64 o] 101 (0, 0))
theorem below_drewN (W : World) (k : Nat) : Below W.heap.size W (W.drewN k) := ⟨rfl, rfl, rfl, Nat.le_refl _, fun _ _ => rfl⟩
theorem RdAt.cells {w : World} {R : Nat} {t : ByteArray} {p o : Nat} (h : RdAt w R t p o) : (w.cell? ⟨R, 0, none⟩ = some (.string t) ∧ w.cell? ⟨R, 1, none⟩ = some (.int .i64 p) ∧ w.cell? ⟨R, 2, none⟩ = some (.int .i64 o)) ∧ w.frozen? ⟨R, 0, none⟩ = false ∧ w.frozen? ⟨R, 1, none⟩ = false ∧ w.frozen? ⟨R, 2, none⟩ = false := by
  unfold RdAt at h
  have hf : ∀ i, w.frozen? ⟨R, i, none⟩ = false := fun i => by simp [World.frozen?, h]
  unfold World.cell?
  rw [h]
  exact ⟨⟨rfl, rfl, rfl⟩, hf 0, hf 1, hf 2⟩
theorem RdAt.below {w w' : World} {R : Nat} {t : ByteArray} {p o : Nat} (h : RdAt w R t p o) (hb : Below w.heap.size w w') : RdAt w' R t p o := (hb.block R (Array.getElem?_eq_some_iff.1 h).1).trans h
set_option maxHeartbeats 4000000 in
set_option maxRecDepth 100000 in
theorem sees_yes (R : Nat) (t : ByteArray) (p o : Nat) (c : UInt8) (w : World) (hr : RdAt w R t p o) (hp : p < t.size) (hc : t[p]'hp = c) :
    Calls Tryd.prog 82 #[.pointer (some ⟨R, 0, none⟩), .int .u8 c.toNat] w fun e w' => e = .returned (.bool true) ∧ Below w.heap.size w w' := by
  obtain ⟨⟨c0, c1, c2⟩, _⟩ := hr.cells
  have ip : (p : Int) < (t.size : Int) := by omega
  have ip0 : (0 : Int) ≤ (p : Int) := by omega
  have hd : decide ((p : Int) < (t.size : Int)) = true := decide_eq_true ip
  clear hr c2
  go_enter Tryd.func82, Tryd.ntmps82
  go_wp2_with fail
  go_quiet (fail)
  go_wp2_with fail
  go_ret
  exact ⟨rfl, Spl.below_drewN w _⟩
set_option maxHeartbeats 4000000 in
set_option maxRecDepth 100000 in
theorem sees_no (R : Nat) (t : ByteArray) (p o : Nat) (c : UInt8) (w : World) (hr : RdAt w R t p o) (hp : p < t.size) (hc : t[p]'hp ≠ c) :
    Calls Tryd.prog 82 #[.pointer (some ⟨R, 0, none⟩), .int .u8 c.toNat] w fun e w' => e = .returned (.bool false) ∧ Below w.heap.size w w' := by
  obtain ⟨⟨c0, c1, c2⟩, _⟩ := hr.cells
  have ip : (p : Int) < (t.size : Int) := by omega
  have ip0 : (0 : Int) ≤ (p : Int) := by omega
  have hd : decide ((p : Int) < (t.size : Int)) = true := decide_eq_true ip
  have hb : (((t[p]'hp).toNat : Int) == (c.toNat : Int)) = false := by
    rw [beq_eq_false_iff_ne]
    intro h
    exact hc (UInt8.toNat_inj.1 (by omega))
  clear hr c2 hc
  go_enter Tryd.func82, Tryd.ntmps82
  go_wp2_with fail
  go_quiet (fail)
  go_wp2_with fail
  go_ret
  exact ⟨rfl, Spl.below_drewN w _⟩
set_option maxHeartbeats 4000000 in
set_option maxRecDepth 100000 in
theorem sees_end (R : Nat) (t : ByteArray) (p o : Nat) (c : UInt8) (w : World) (hr : RdAt w R t p o) (hp : ¬ p < t.size) :
    Calls Tryd.prog 82 #[.pointer (some ⟨R, 0, none⟩), .int .u8 c.toNat] w fun e w' => e = .returned (.bool false) ∧ Below w.heap.size w w' := by
  obtain ⟨⟨c0, c1, c2⟩, _⟩ := hr.cells
  have ip : ¬ (p : Int) < (t.size : Int) := by omega
  have hd : decide ((p : Int) < (t.size : Int)) = false := decide_eq_false ip
  have hdn : decide (p < t.size) = false := decide_eq_false hp
  clear hr c2 hp
  go_enter Tryd.func82, Tryd.ntmps82
  go_wp2_with fail
  have g0 := fun d os => cell_regrown c0 d os
  have g1 := fun d os => cell_regrown c1 d os
  refine wp_region_quiet_below (by kernel_rfl) (by kernel_rfl) ?_
  repeat (first | go_big_quiet_skip | quiet_step (fail))
  refine wpQuiet_nil ?_
  intro _ hw'
  obtain ⟨⟨dq, os⟩, hw''⟩ := hw'
  subst hw''
  have kR := below_regrown w dq os
  go_wp2_with fail
  go_ret
  exact ⟨rfl, kR⟩
/-- Is c what comes next? -/
def nextIs (t : ByteArray) (p : Nat) (c : UInt8) : Bool := if h : p < t.size then t[p]'h == c else false
theorem sees_any (R : Nat) (t : ByteArray) (p o : Nat) (c : UInt8) (w : World) (hr : RdAt w R t p o) :
    Calls Tryd.prog 82 #[.pointer (some ⟨R, 0, none⟩), .int .u8 c.toNat] w fun e w' => e = .returned (.bool (nextIs t p c)) ∧ Below w.heap.size w w' := by
  unfold nextIs
  by_cases hp : p < t.size
  · rw [dif_pos hp]
    by_cases hc : t[p]'hp = c
    · rw [show (t[p]'hp == c) = true by rw [beq_iff_eq]; exact hc]
      exact sees_yes R t p o c w hr hp hc
    · rw [show (t[p]'hp == c) = false by rw [beq_eq_false_iff_ne]; exact hc]
      exact sees_no R t p o c w hr hp hc
  · rw [dif_neg hp]
    exact sees_end R t p o c w hr hp
/-- The reader's block alone has turned. -/
theorem rd_set {w : World} {R : Nat} {t : ByteArray} {p o : Nat} (h : RdAt w R t p o) (q : Nat) : RdAt (w.setCell ⟨R, 1, none⟩ (.int .i64 q)) R t q o := heap_setCell_same w R 1 _ _ _ h
theorem rd_seto {w : World} {R : Nat} {t : ByteArray} {p o : Nat} (h : RdAt w R t p o) (q : Nat) : RdAt (w.setCell ⟨R, 2, none⟩ (.int .i64 q)) R t p q := heap_setCell_same w R 2 _ _ _ h
theorem But.setCell {M i : Nat} {w w' : World} (h : But M w w') (u : Value) : But M w (w'.setCell ⟨M, i, none⟩ u) :=
  ⟨h.os, h.tape, h.output, by rw [show (w'.setCell ⟨M, i, none⟩ u).heap.size = w'.heap.size by simp [World.setCell]]; exact h.size, fun j hj hne => by rw [RowKit.Below.heap_setCell _ _ _ _ hne]; exact h.block j hj hne⟩
set_option maxHeartbeats 4000000 in
set_option maxRecDepth 100000 in
theorem took_any (R : Nat) (t : ByteArray) (p o : Nat) (c : UInt8) (w : World) (hr : RdAt w R t p o) (hts : t.size ≤ 100000) (hps : p ≤ t.size) :
    Calls Tryd.prog 94 #[.pointer (some ⟨R, 0, none⟩), .int .u8 c.toNat] w fun e w' => e = .returned (.bool (nextIs t p c)) ∧ RdAt w' R t (if nextIs t p c then p + 1 else p) o ∧ But R w w' := by
  have HS := sees_any R t p o c w hr
  cases hn : nextIs t p c with
  | false =>
    rw [hn] at HS
    simp only [Bool.false_eq_true, if_false]
    clear hn
    go_enter Tryd.func94, Tryd.ntmps94
    go_wp2_with fail
    refine HS.mono ?_
    rintro e W ⟨rfl, bW⟩
    go_wp2_with fail
    go_ret
    exact ⟨rfl, hr.below bW, But.of_below bW⟩
  | true =>
    rw [hn] at HS
    simp only [if_true]
    have hw : wrap64 ((p : Int) + 1) = ((p + 1 : Nat) : Int) := by unfold wrap64; omega
    clear hn
    go_enter Tryd.func94, Tryd.ntmps94
    go_wp2_with fail
    refine HS.mono ?_
    rintro e W ⟨rfl, bW⟩
    have hrW := hr.below bW
    obtain ⟨⟨c0, c1, c2⟩, f0, f1, f2⟩ := hrW.cells
    go_wp2_with fail
    go_ret
    exact ⟨rfl, rd_set hrW (p + 1), (But.of_below bW).setCell _⟩
end Spl
end Go.Proofs.YtckkbmgdaplaaaaDoor
