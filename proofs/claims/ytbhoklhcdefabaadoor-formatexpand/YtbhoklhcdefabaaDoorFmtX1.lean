/- The reference's expander: fail, want, word. -/
import Derived.Test.YtbhoklhcdefabaaDoorFmtNum
namespace Go.Proofs.YtbhoklhcdefabaaDoor
open Go.ChangeShapes Go.WideShapes Go.ChangeAt Go.RowKit Go.Maps Go.Sort
namespace Fmt
/-- An expander in memory; bad: -1, or where it can't go on. -/
def ExAt (w : World) (X : Nat) (t : ByteArray) (iv : Value) (p : Nat) (bad : Int) : Prop := w.heap[X]? = some (.cells #[.string t, .int .i64 p, .int .i64 bad, iv] 31 (0, 0))
theorem ExAt.cells {w : World} {X : Nat} {t : ByteArray} {iv : Value} {p : Nat} {bad : Int} (h : ExAt w X t iv p bad) : (w.cell? ⟨X, 0, none⟩ = some (.string t) ∧ w.cell? ⟨X, 1, none⟩ = some (.int .i64 p) ∧ w.cell? ⟨X, 2, none⟩ = some (.int .i64 bad) ∧ w.cell? ⟨X, 3, none⟩ = some iv) ∧ ∀ i, w.frozen? ⟨X, i, none⟩ = false := by
  unfold ExAt at h
  have hf : ∀ i, w.frozen? ⟨X, i, none⟩ = false := fun i => by simp [World.frozen?, h]
  unfold World.cell?
  rw [h]
  exact ⟨⟨rfl, rfl, rfl, rfl⟩, hf⟩
theorem ExAt.below {w w' : World} {X : Nat} {t : ByteArray} {iv : Value} {p : Nat} {bad : Int} (h : ExAt w X t iv p bad) (hb : Below w.heap.size w w') : ExAt w' X t iv p bad := Fmt.kept h hb
theorem ex_at {w : World} {X : Nat} {t : ByteArray} {iv : Value} {p : Nat} {bad : Int} (h : ExAt w X t iv p bad) (q : Nat) : ExAt (w.setCell ⟨X, 1, none⟩ (.int .i64 q)) X t iv q bad := heap_setCell_same w X 1 _ _ _ h
theorem ex_bad {w : World} {X : Nat} {t : ByteArray} {iv : Value} {p : Nat} {bad : Int} (h : ExAt w X t iv p bad) (q : Int) : ExAt (w.setCell ⟨X, 2, none⟩ (.int .i64 q)) X t iv p q := heap_setCell_same w X 2 _ _ _ h
set_option maxHeartbeats 4000000 in
set_option maxRecDepth 100000 in
theorem fail_any (X : Nat) (t : ByteArray) (iv : Value) (p q : Nat) (w : World) (h : ExAt w X t iv p (-1)) :
    Calls Tryd.prog 19 #[.pointer (some ⟨X, 0, none⟩), .int .i64 q] w fun e w' => e = .returned (.string ⟨#[]⟩) ∧ ExAt w' X t iv t.size q ∧ But X w w' := by
  obtain ⟨⟨c0, c1, c2, c3⟩, hf⟩ := h.cells
  have f1 := hf 1
  have f2 := hf 2
  have r1 := ex_at (ex_bad h q) t.size
  have b1 := ((But.refl X w).setCell (i := 2) (.int .i64 q)).setCell (i := 1) (.int .i64 t.size)
  clear h c3 hf
  go_enter Tryd.func19, Tryd.ntmps19
  go_wp2_with fail
  go_ret
  exact ⟨rfl, r1, b1⟩
set_option maxHeartbeats 4000000 in
set_option maxRecDepth 100000 in
theorem want_any (X : Nat) (t : ByteArray) (iv : Value) (p : Nat) (c : ByteArray) (w : World) (h : ExAt w X t iv p (-1)) (hp : p ≤ t.size) (hs : t.size ≤ 4000) (hc : c.size ≤ 10) :
    Calls Tryd.prog 38 #[.pointer (some ⟨X, 0, none⟩), .string c] w fun e w' => e = .returned (.tuple #[]) ∧ (if nexts t p c then ExAt w' X t iv (p + c.size) (-1) else ExAt w' X t iv t.size p) ∧ But X w w' := by
  obtain ⟨⟨c0, c1, c2, c3⟩, hf⟩ := h.cells
  have ip : (p : Int) ≤ (t.size : Int) := Int.ofNat_le.2 hp
  have ip0 : (0 : Int) ≤ (p : Int) := Int.natCast_nonneg _
  have HP := fun W => Tryd.strings_HasPrefix (t.extract p t.size) c W
  rw [extract_drop] at HP
  have HN : Hid (nexts t p c = Lib.hasPrefix (t.data.toList.drop p) c.data.toList) := rfl
  generalize Lib.hasPrefix (t.data.toList.drop p) c.data.toList = hb at *
  have K1 : Hid (∀ d os, Calls Tryd.prog 18 #[.string (t.extract p t.size), .string c] (grow (redrawn w d) os) fun e w'' => e = .returned (.bool hb) ∧ ∃ p : Regrown, w'' = grow (redrawn w p.d) p.os) := fun d os => Calls.regrown_of ((HP _).mono fun e w' ⟨h1, h2⟩ => ⟨h1, by rw [h2]; exact Below.refl _ _⟩)
  have g0 := fun d os => cell_regrown c0 d os
  have g1 := fun d os => cell_regrown c1 d os
  have HX : Hid (ExAt w X t iv p (-1)) := h
  rw [HN.out]
  clear h c2 c3 HP HN hf
  cases hb
  · simp only [Bool.false_eq_true, if_false]
    go_enter Tryd.func38, Tryd.ntmps38
    go_wp2_with fail
    refine wp_region_quiet_below (by kernel_rfl) (by kernel_rfl) ?_
    repeat (first | go_big_quiet_skip | quiet_step (first | (go_at_call 18; exact K1.out _ _)))
    refine wpQuiet_nil ?_
    intro _ hw'
    obtain ⟨⟨dq, os⟩, hw''⟩ := hw'
    subst hw''
    have kR := below_regrown w dq os
    have rV := HX.out.below kR
    have bV := But.of_below (M := X) kR
    have HF := fail_any X t iv p p _ rV
    generalize grow (redrawn w dq) os = V at *
    obtain ⟨⟨c0, c1, c2, c3⟩, hf⟩ := rV.cells
    clear g0 g1 K1 kR
    go_wp2_with fail
    refine HF.mono ?_
    rintro e W ⟨rfl, r, b⟩
    go_wp2_with fail
    first | go_end0 | skip
    exact ⟨rfl, r, bV.trans b⟩
  · simp only [if_true]
    have hw : wrap64 ((p : Int) + (c.size : Int)) = ((p + c.size : Nat) : Int) := by unfold wrap64; omega
    go_enter Tryd.func38, Tryd.ntmps38
    go_wp2_with fail
    refine wp_region_quiet_below (by kernel_rfl) (by kernel_rfl) ?_
    repeat (first | go_big_quiet_skip | quiet_step (first | (go_at_call 18; exact K1.out _ _)))
    refine wpQuiet_nil ?_
    intro _ hw'
    obtain ⟨⟨dq, os⟩, hw''⟩ := hw'
    subst hw''
    have kR := below_regrown w dq os
    have rV := HX.out.below kR
    have bV := But.of_below (M := X) kR
    generalize grow (redrawn w dq) os = V at *
    obtain ⟨⟨c0, c1, c2, c3⟩, hf⟩ := rV.cells
    have f1 := hf 1
    have r2 := ex_at rV (p + c.size)
    have b2 := bV.setCell (i := 1) (.int .i64 ((p + c.size : Nat) : Int))
    clear g0 g1 K1 kR rV bV
    go_wp2_with fail
    first | go_end0 | skip
    exact ⟨rfl, r2, b2⟩
end Fmt
end Go.Proofs.YtbhoklhcdefabaaDoor
