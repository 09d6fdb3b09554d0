/- Package copying: Select. -/
import Derived.Test.YtlodmffiengnaaaDoorCpyChange
namespace Go.Proofs.YtlodmffiengnaaaDoor
open Go.ChangeShapes Go.WideShapes Go.ChangeAt Go.RowKit Go.Maps
namespace Cpy
def selK (k : Cp) (on : Bool) : Cp := if on then ⟨k.x, k.y, k.x, k.y, true⟩ else ⟨k.x, k.y, 0, 0, false⟩
set_option maxHeartbeats 4000000 in
set_option maxRecDepth 100000 in
theorem select_how (B : Nat) (on : Bool) (k : Cp) (w : World) (hB : w.cell? ⟨B, 0, none⟩ = some (.bool on)) : How 33 #[.pointer (some ⟨B, 0, none⟩)] w k 0 (selK k on) := by
  intro W C kb hC hk
  have hBW := CK.below kb _ _ _ hB
  have hne : B ≠ C := by have := lt_of_cell hB; omega
  obtain ⟨⟨c0, c1, c2, c3, c4⟩, hf⟩ := hk.cells
  have f2 := hf 2
  have f3 := hf 3
  have f4 := hf 4
  obtain ⟨x, y, fx, fy, on'⟩ := k
  simp only [] at c0 c1 c2 c3 c4
  have y1 := hk.setOn on
  have y2 := (y1.setFX 0).setFY 0
  have b2 := ((((But.refl C W).setCell (i := 4) (.bool on)).setCell (i := 2) (.int .i64 0)).setCell (i := 3) (.int .i64 0))
  have hB2 : (((W.setCell ⟨C, 4, none⟩ (.bool on)).setCell ⟨C, 2, none⟩ (.int .i64 0)).setCell ⟨C, 3, none⟩ (.int .i64 0)).cell? ⟨B, 0, none⟩ = some (.bool on) := by
    rw [World.cell?_setCell_other _ _ _ _ (by intro e; injection e with e; exact hne e.symm), World.cell?_setCell_other _ _ _ _ (by intro e; injection e with e; exact hne e.symm), World.cell?_setCell_other _ _ _ _ (by intro e; injection e with e; exact hne e.symm)]
    exact hBW
  cases on
  · go_enter Tryd.func33, Tryd.ntmps33
    go_wp2_with fail
    go_ret
    exact ⟨rfl, y2, b2⟩
  · have y3 := (y2.setFX x).setFY y
    have b3 := (b2.setCell (i := 2) (.int .i64 x)).setCell (i := 3) (.int .i64 y)
    go_enter Tryd.func33, Tryd.ntmps33
    go_wp2_with fail
    go_ret
    exact ⟨rfl, y3, b3⟩
theorem enters_sel : ∀ args w, (callFunc 33 args).run Tryd.prog w = .ok (.enter 33 args) w := enters_of Tryd.func33 (by kernel_rfl) rfl
set_option maxHeartbeats 4000000 in
set_option maxRecDepth 100000 in
/-- Select, of any lines and any place. -/
theorem select_any (L : List ByteArray) (v : Value) (k : Cp) (on : Bool) (w : World) (h : LsAt w v L) :
    Calls Tryd.prog 12 #[v, .agg k.cells, .bool on] w fun er w' => er = .returned (.tuple #[.agg (chgK (chk L k) 0 (selK k on)).cells, .int .i64 (chgE (chk L k) 0)]) ∧ Below w.heap.size w w' := by
  have kb : Below w.heap.size w (((w.alloc (.cells k.cells 26)).alloc (.cells #[.bool on] 4)).alloc (.cells zCp.cells 26)) := (((Below.refl _ _).alloc (Nat.le_refl _) _).alloc (by rw [World.size_alloc]; omega) _).alloc (by rw [World.size_alloc, World.size_alloc]; omega) _
  have Z := heap_alloc_new ((w.alloc (.cells k.cells 26)).alloc (.cells #[.bool on] 4)) (.cells zCp.cells 26)
  have Y : BoxAt (((w.alloc (.cells k.cells 26)).alloc (.cells #[.bool on] 4)).alloc (.cells zCp.cells 26)) w.heap.size k :=
    (heap_alloc_old _ _ (r := w.heap.size) (by simp only [World.size_alloc]; omega)).trans ((heap_alloc_old _ _ (r := w.heap.size) (by simp only [World.size_alloc]; omega)).trans (heap_alloc_new w (.cells k.cells 26)))
  have X := (heap_alloc_old ((w.alloc (.cells k.cells 26)).alloc (.cells #[.bool on] 4)) (.cells zCp.cells 26) (r := (w.alloc (.cells k.cells 26)).heap.size) (by simp only [World.size_alloc]; omega)).trans (heap_alloc_new (w.alloc (.cells k.cells 26)) (.cells #[.bool on] 4))
  rw [World.size_alloc] at Z X
  rw [World.size_alloc] at Z
  have cX : (((w.alloc (.cells k.cells 26)).alloc (.cells #[.bool on] 4)).alloc (.cells zCp.cells 26)).cell? ⟨w.heap.size + 1, 0, none⟩ = some (.bool on) := by
    unfold World.cell?
    rw [X]
    rfl
  have HC := change_any L v k (selK k on) 0 33 #[.pointer (some ⟨w.heap.size + 1, 0, none⟩)] _ (h.below kb) enters_sel (fun _ => select_how (w.heap.size + 1) on k _ cX)
  obtain ⟨a, c, rfl, _⟩ := h
  obtain ⟨⟨c0, c1, c2, c3, c4⟩, _⟩ := Y.cells
  generalize hk' : chgK (chk L k) 0 (selK k on) = rk at *
  generalize chgE (chk L k) 0 = re at *
  clear hk'
  simp only [zero_cells] at HC Y Z kb c0 c1 c2 c3 c4
  obtain ⟨x, y, fx, fy, on'⟩ := k
  obtain ⟨rx, ry, rfx, rfy, ron⟩ := rk
  simp only [Cp.cells] at Y Z kb HC c0 c1 c2 c3 c4 ⊢
  clear X cX
  go_enter Tryd.func12, Tryd.ntmps12
  go_wp2_with fail
  refine HC.mono ?_
  rintro e1 W1 ⟨rfl, b1⟩
  have k1 := kb.trans (b1.mono kb.size)
  have z1 := kept Z b1
  clear HC c0 c1 c2 c3 c4 kb Z Y b1
  go_wp2_with (refine wpList_store_row rfl 26 (.tmp 6) (.tmp 12) rfl (w.heap.size + 2) #[.int .i64 rx, .int .i64 ry, .int .i64 rfx, .int .i64 rfy, .bool ron] rfl rfl _ _ z1 (by kernel_rfl) rfl (oneCp ⟨_, _, _, _, _⟩) ?_)
  (try simp only [Exit.inBlock, Exit.then])
  refine bodyPost_ret (v := .tuple #[.agg #[.int .i64 rx, .int .i64 ry, .int .i64 rfx, .int .i64 rfy, .bool ron], .int .i64 re]) ?_ rfl ⟨rfl, below_setRow k1 (by omega) _⟩
  exact results_row_tmp rfl _ _ (w.heap.size + 2) _ _ _ _ rfl (setRow_heap _ _ _ _ _ _ z1) Tryd.underlying26 rfl (by kernel_rfl) _ rfl
end Cpy
end Go.Proofs.YtlodmffiengnaaaDoor
