/- Package copying: bottom, end, left, right. -/
import Derived.Test.YtlodmffiengnaaaDoorCpyLine
namespace Go.Proofs.YtlodmffiengnaaaDoor
open Go.ChangeShapes Go.WideShapes Go.ChangeAt Go.RowKit Go.Maps
namespace Cpy
open Txt (runes rn wd spotsL colsL cleanL bs okRune Tab)
/-- The columns of a line. -/
def cols (s : ByteArray) : List Int := (sp s).map (·.2)
theorem cols_len (s : ByteArray) : (cols s).length = (sp s).length := by unfold cols; simp
/-- The y-th line. -/
def ln (L : List ByteArray) (y : Nat) : ByteArray := L.getD y ByteArray.empty
theorem ln_get {L : List ByteArray} {y : Nat} (h : y < L.length) : L[y]? = some (ln L y) := by
  unfold ln
  rw [List.getD_eq_getElem?_getD, List.getElem?_eq_getElem h]
  rfl
theorem ln_size {L : List ByteArray} (h : ∀ s ∈ L, s.size ≤ 4000) (y : Nat) : (ln L y).size ≤ 4000 := by
  unfold ln
  rw [List.getD_eq_getElem?_getD]
  cases hy : L[y]? with
  | none => simp
  | some s => exact h s (List.mem_of_getElem? hy)
theorem LsAt.get {w : World} {v : Value} {L : List ByteArray} (h : LsAt w v L) {y : Nat} (hy : y < L.length) : ∃ b o c, v = .slice (some ⟨b, o, none⟩) L.length c ∧ w.cell? ⟨b, o + y, none⟩ = some (.string (ln L y)) := by
  obtain ⟨a, c, rfl, hc⟩ := h
  obtain ⟨b, o, rfl, hc2⟩ := hc.resolve_left (by intro h; rw [h] at hy; simp at hy)
  exact ⟨b, o, c, rfl, hc2 y _ (ln_get hy)⟩
theorem oneI2 (a b : Int) : (#[.int .i64 a, .int .i64 b] : Array Value).all (·.oneCell') = true := by simp [Value.oneCell']
theorem ret_m {a b c d : Int} (h : a = c) (g : b = d) : Ending.returned (.agg #[.int .i64 a, .int .i64 b]) = Ending.returned (.agg #[.int .i64 c, .int .i64 d]) := by rw [h, g]
set_option maxHeartbeats 4000000 in
set_option maxRecDepth 100000 in
theorem bottom_any (L : List ByteArray) (v : Value) (w : World) (h : LsAt w v L) (hn : L.length ≤ 1000000) :
    Calls Tryd.prog 25 #[v] w fun e w' => e = .returned (.agg #[.int .i64 0, .int .i64 ((L.length : Int) - 1)]) ∧ Below w.heap.size w w' := by
  have kb : Below w.heap.size w (w.alloc (.cells #[.int .i64 0, .int .i64 0] 24)) := (Below.refl _ _).alloc (Nat.le_refl _) _
  have Z := heap_alloc_new w (.cells #[.int .i64 0, .int .i64 0] 24)
  obtain ⟨a, c, rfl, _⟩ := h
  have hw : wrap64 ((L.length : Int) - 1) = (L.length : Int) - 1 := by unfold wrap64; omega
  go_enter Tryd.func25, Tryd.ntmps25
  go_wp2_with (refine wpList_store_row rfl 24 (.tmp 2) (.tmp 6) rfl w.heap.size #[.int .i64 0, .int .i64 ((L.length : Int) - 1)] rfl rfl _ _ Z (by kernel_rfl) rfl (oneI2 _ _) ?_)
  (try simp only [Exit.inBlock, Exit.then])
  refine bodyPost_ret (v := .agg #[.int .i64 0, .int .i64 ((L.length : Int) - 1)]) ?_ rfl ⟨rfl, below_setRow kb (Nat.le_refl _) _⟩
  exact results_cell_row rfl _ _ w.heap.size _ _ _ _ rfl (setRow_heap _ _ _ _ _ _ Z) Tryd.underlying24 rfl (by kernel_rfl)
set_option maxHeartbeats 4000000 in
set_option maxRecDepth 100000 in
theorem end_any (L : List ByteArray) (v : Value) (y : Nat) (w : World) (h : LsAt w v L) (hT : Tab w) (hy : y < L.length) (hL : ∀ s ∈ L, s.size ≤ 4000) :
    Calls Tryd.prog 24 #[v, .int .i64 y] w fun e w' => e = .returned (.agg #[.int .i64 (endI (cols (ln L y))), .int .i64 y]) ∧ Below w.heap.size w w' := by
  have kb : Below w.heap.size w (w.alloc (.cells #[.int .i64 0, .int .i64 0] 24)) := (Below.refl _ _).alloc (Nat.le_refl _) _
  have Z := heap_alloc_new w (.cells #[.int .i64 0, .int .i64 0] 24)
  obtain ⟨b, o, c, rfl, q⟩ := (h.below kb).get hy
  have hs := ln_size hL y
  have HL := fun W (hW : Below w.heap.size w W) => lineOf_any (ln L y) W (hT.below hW hT.pos) (by omega)
  have hsl := sp_len (ln L y)
  have HE := fun rv cv W (h : LnAt W rv cv (sp (ln L y))) => lineEnd_any rv cv (sp (ln L y)) W h (by omega)
  have HR : Hid (endI (cols (ln L y)) = endI ((sp (ln L y)).map (·.2))) := rfl
  have iy : (y : Int) < (L.length : Int) := by omega
  have iy0 : (0 : Int) ≤ (y : Int) := by omega
  rw [← HR.out] at HE
  generalize endI (cols (ln L y)) = R at *
  generalize ln L y = s at *
  clear HR h hT hL hy hsl hs
  go_enter Tryd.func24, Tryd.ntmps24
  go_wp2_with fail
  refine (HL _ kb).mono ?_
  rintro e W1 ⟨rv, cv, rfl, hln, b1⟩
  have k1 := kb.trans (b1.mono kb.size)
  have z1 := (b1.block _ (Array.getElem?_eq_some_iff.1 Z).1).trans Z
  clear HL q
  go_wp2_with fail
  refine (HE _ _ _ hln).mono ?_
  rintro e W2 ⟨rfl, b2⟩
  have k2 := k1.trans (b2.mono k1.size)
  have z2 := (b2.block _ (Array.getElem?_eq_some_iff.1 z1).1).trans z1
  clear HE b1 b2 z1 Z k1 kb hln
  go_wp2_with (refine wpList_store_row rfl 24 (.tmp 4) (.tmp 12) rfl w.heap.size #[.int .i64 R, .int .i64 y] rfl rfl _ _ z2 (by kernel_rfl) rfl (oneI2 _ _) ?_)
  (try simp only [Exit.inBlock, Exit.then])
  refine bodyPost_ret (v := .agg #[.int .i64 R, .int .i64 y]) ?_ rfl ⟨rfl, below_setRow k2 (Nat.le_refl _) _⟩
  exact results_cell_row rfl _ _ w.heap.size _ _ _ _ rfl (setRow_heap _ _ _ _ _ _ z2) Tryd.underlying24 rfl (by kernel_rfl)
/-- To the left. -/
def leftM (L : List ByteArray) (x : Int) (y : Nat) : Int × Int :=
  if 0 < atI (cols (ln L y)) x then ((cols (ln L y)).getD ((atI (cols (ln L y)) x).toNat - 1) 0, y)
  else if 0 < y then (endI (cols (ln L (y - 1))), (y : Int) - 1) else (x, y)
/-- To the right. -/
def rightM (L : List ByteArray) (x : Int) (y : Nat) : Int × Int :=
  if atI (cols (ln L y)) x + 1 < (cols (ln L y)).length then ((cols (ln L y)).getD (atI (cols (ln L y)) x + 1).toNat 0, y)
  else if y + 1 < L.length then (0, (y : Int) + 1) else (x, y)
theorem cells2 {w : World} {g : Nat} {a b : Value} {t : TypeId} (h : w.heap[g]? = some (.cells #[a, b] t (0, 0))) : w.cell? ⟨g, 0, none⟩ = some a ∧ w.cell? ⟨g, 1, none⟩ = some b := by
  unfold World.cell?
  rw [h]
  exact ⟨rfl, rfl⟩
theorem kept {w w' : World} {g : Nat} {ob : Obj} (h : w.heap[g]? = some ob) (b : Below w.heap.size w w') : w'.heap[g]? = some ob := (b.block _ (Array.getElem?_eq_some_iff.1 h).1).trans h
end Cpy
end Go.Proofs.YtlodmffiengnaaaDoor
