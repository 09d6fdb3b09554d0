/- Package copying: Move and Seek, by what their closures do. (Written by gen_cpycalls.py.) -/
import Derived.Test.YtlodmffiengnaaaDoorCpySelect
namespace Go.Proofs.YtlodmffiengnaaaDoor
open Go.ChangeShapes Go.WideShapes Go.ChangeAt Go.RowKit Go.Maps
namespace Cpy
theorem one_box {w : World} {g : Nat} {a : Value} {t : TypeId} (h : w.heap[g]? = some (.cells #[a] t (0, 0))) : w.cell? ⟨g, 0, none⟩ = some a := by
  unfold World.cell?
  rw [h]
  rfl
/-- What a closure over a text and lines does. -/
def HowS (g : Nat) (w : World) (L : List ByteArray) (v : Value) (s : ByteArray) (k : Cp) (e : Int) (k' : Cp) : Prop :=
  ∀ W A B, Below w.heap.size w W → w.heap.size ≤ A → w.heap.size ≤ B → W.cell? ⟨A, 0, none⟩ = some v → W.cell? ⟨B, 0, none⟩ = some (.string s) → LsAt W v L → How g #[.pointer (some ⟨B, 0, none⟩), .pointer (some ⟨A, 0, none⟩)] W k e k'
theorem enters_move : ∀ args w, (callFunc 21 args).run Tryd.prog w = .ok (.enter 21 args) w := enters_of Tryd.func21 (by kernel_rfl) rfl
set_option maxHeartbeats 4000000 in
set_option maxRecDepth 100000 in
theorem move_any (L : List ByteArray) (v : Value) (k k' : Cp) (s : ByteArray) (e : Int) (w : World) (h : LsAt w v L) (hh : chk L k = 0 → HowS 21 w L v s k e k') :
    Calls Tryd.prog 6 #[v, .agg k.cells, .string s] w fun er w' => er = .returned (.tuple #[.agg (chgK (chk L k) e k').cells, .int .i64 (chgE (chk L k) e)]) ∧ Below w.heap.size w w' := by
  obtain ⟨a, c, rfl, hl⟩ := h
  have h : LsAt w (.slice a L.length c) L := ⟨a, c, rfl, hl⟩
  have kb : Below w.heap.size w ((((w.alloc (.cells #[.slice a L.length c] 22)).alloc (.cells k.cells 26)).alloc (.cells #[.string s] 9)).alloc (.cells zCp.cells 26)) :=
    ((((Below.refl _ _).alloc (Nat.le_refl _) _).alloc (by simp only [World.size_alloc]; omega) _).alloc (by simp only [World.size_alloc]; omega) _).alloc (by simp only [World.size_alloc]; omega) _
  have Z := heap_alloc_new (((w.alloc (.cells #[.slice a L.length c] 22)).alloc (.cells k.cells 26)).alloc (.cells #[.string s] 9)) (.cells zCp.cells 26)
  have X := (heap_alloc_old (((w.alloc (.cells #[.slice a L.length c] 22)).alloc (.cells k.cells 26)).alloc (.cells #[.string s] 9)) (.cells zCp.cells 26) (r := ((w.alloc (.cells #[.slice a L.length c] 22)).alloc (.cells k.cells 26)).heap.size) (by simp only [World.size_alloc]; omega)).trans (heap_alloc_new ((w.alloc (.cells #[.slice a L.length c] 22)).alloc (.cells k.cells 26)) (.cells #[.string s] 9))
  have Y0 := (heap_alloc_old (((w.alloc (.cells #[.slice a L.length c] 22)).alloc (.cells k.cells 26)).alloc (.cells #[.string s] 9)) (.cells zCp.cells 26) (r := (w.alloc (.cells #[.slice a L.length c] 22)).heap.size) (by simp only [World.size_alloc]; omega)).trans ((heap_alloc_old ((w.alloc (.cells #[.slice a L.length c] 22)).alloc (.cells k.cells 26)) (.cells #[.string s] 9) (r := (w.alloc (.cells #[.slice a L.length c] 22)).heap.size) (by simp only [World.size_alloc]; omega)).trans (heap_alloc_new (w.alloc (.cells #[.slice a L.length c] 22)) (.cells k.cells 26)))
  have V := (heap_alloc_old (((w.alloc (.cells #[.slice a L.length c] 22)).alloc (.cells k.cells 26)).alloc (.cells #[.string s] 9)) (.cells zCp.cells 26) (r := w.heap.size) (by simp only [World.size_alloc]; omega)).trans ((heap_alloc_old ((w.alloc (.cells #[.slice a L.length c] 22)).alloc (.cells k.cells 26)) (.cells #[.string s] 9) (r := w.heap.size) (by simp only [World.size_alloc]; omega)).trans ((heap_alloc_old (w.alloc (.cells #[.slice a L.length c] 22)) (.cells k.cells 26) (r := w.heap.size) (by simp only [World.size_alloc]; omega)).trans (heap_alloc_new w (.cells #[.slice a L.length c] 22))))
  simp only [World.size_alloc] at Z X Y0
  have cX := one_box X
  have cV := one_box V
  have Y : BoxAt _ (w.heap.size + 1) k := Y0
  have HC := change_any L _ k k' e 21 #[.pointer (some ⟨w.heap.size + 2, 0, none⟩), .pointer (some ⟨w.heap.size, 0, none⟩)] _ (h.below kb) enters_move (fun hc => hh hc _ w.heap.size (w.heap.size + 2) kb (Nat.le_refl _) (by omega) cV cX (h.below kb))
  obtain ⟨⟨c0, c1, c2, c3, c4⟩, _⟩ := Y.cells
  generalize hk' : chgK (chk L k) e k' = rk at *
  generalize chgE (chk L k) e = re at *
  clear hk' hh h hl X V Y0
  simp only [zero_cells] at HC Y Z kb c0 c1 c2 c3 c4 cX cV
  obtain ⟨x, y, fx, fy, on'⟩ := k
  obtain ⟨rx, ry, rfx, rfy, ron⟩ := rk
  simp only [Cp.cells] at Y Z kb HC c0 c1 c2 c3 c4 cX cV ⊢
  go_enter Tryd.func6, Tryd.ntmps6
  go_wp2_with fail
  refine HC.mono ?_
  rintro e1 W1 ⟨rfl, b1⟩
  have k1 := kb.trans (b1.mono kb.size)
  have z1 := kept Z b1
  clear HC c0 c1 c2 c3 c4 kb Z Y b1 cX cV
  go_wp2_with (refine wpList_store_row rfl 26 (.tmp 6) (.tmp 12) rfl (w.heap.size + 3) #[.int .i64 rx, .int .i64 ry, .int .i64 rfx, .int .i64 rfy, .bool ron] rfl rfl _ _ z1 (by kernel_rfl) rfl (oneCp ⟨_, _, _, _, _⟩) ?_)
  (try simp only [Exit.inBlock, Exit.then])
  refine bodyPost_ret (v := .tuple #[.agg #[.int .i64 rx, .int .i64 ry, .int .i64 rfx, .int .i64 rfy, .bool ron], .int .i64 re]) ?_ rfl ⟨rfl, below_setRow k1 (by omega) _⟩
  exact results_row_tmp rfl _ _ (w.heap.size + 3) _ _ _ _ rfl (setRow_heap _ _ _ _ _ _ z1) Tryd.underlying26 rfl (by kernel_rfl) _ rfl
theorem enters_seek : ∀ args w, (callFunc 39 args).run Tryd.prog w = .ok (.enter 39 args) w := enters_of Tryd.func39 (by kernel_rfl) rfl
set_option maxHeartbeats 4000000 in
set_option maxRecDepth 100000 in
theorem seek_any (L : List ByteArray) (v : Value) (k k' : Cp) (s : ByteArray) (e : Int) (w : World) (h : LsAt w v L) (hh : chk L k = 0 → HowS 39 w L v s k e k') :
    Calls Tryd.prog 17 #[v, .agg k.cells, .string s] w fun er w' => er = .returned (.tuple #[.agg (chgK (chk L k) e k').cells, .int .i64 (chgE (chk L k) e)]) ∧ Below w.heap.size w w' := by
  obtain ⟨a, c, rfl, hl⟩ := h
  have h : LsAt w (.slice a L.length c) L := ⟨a, c, rfl, hl⟩
  have kb : Below w.heap.size w ((((w.alloc (.cells #[.slice a L.length c] 22)).alloc (.cells k.cells 26)).alloc (.cells #[.string s] 9)).alloc (.cells zCp.cells 26)) :=
    ((((Below.refl _ _).alloc (Nat.le_refl _) _).alloc (by simp only [World.size_alloc]; omega) _).alloc (by simp only [World.size_alloc]; omega) _).alloc (by simp only [World.size_alloc]; omega) _
  have Z := heap_alloc_new (((w.alloc (.cells #[.slice a L.length c] 22)).alloc (.cells k.cells 26)).alloc (.cells #[.string s] 9)) (.cells zCp.cells 26)
  have X := (heap_alloc_old (((w.alloc (.cells #[.slice a L.length c] 22)).alloc (.cells k.cells 26)).alloc (.cells #[.string s] 9)) (.cells zCp.cells 26) (r := ((w.alloc (.cells #[.slice a L.length c] 22)).alloc (.cells k.cells 26)).heap.size) (by simp only [World.size_alloc]; omega)).trans (heap_alloc_new ((w.alloc (.cells #[.slice a L.length c] 22)).alloc (.cells k.cells 26)) (.cells #[.string s] 9))
  have Y0 := (heap_alloc_old (((w.alloc (.cells #[.slice a L.length c] 22)).alloc (.cells k.cells 26)).alloc (.cells #[.string s] 9)) (.cells zCp.cells 26) (r := (w.alloc (.cells #[.slice a L.length c] 22)).heap.size) (by simp only [World.size_alloc]; omega)).trans ((heap_alloc_old ((w.alloc (.cells #[.slice a L.length c] 22)).alloc (.cells k.cells 26)) (.cells #[.string s] 9) (r := (w.alloc (.cells #[.slice a L.length c] 22)).heap.size) (by simp only [World.size_alloc]; omega)).trans (heap_alloc_new (w.alloc (.cells #[.slice a L.length c] 22)) (.cells k.cells 26)))
  have V := (heap_alloc_old (((w.alloc (.cells #[.slice a L.length c] 22)).alloc (.cells k.cells 26)).alloc (.cells #[.string s] 9)) (.cells zCp.cells 26) (r := w.heap.size) (by simp only [World.size_alloc]; omega)).trans ((heap_alloc_old ((w.alloc (.cells #[.slice a L.length c] 22)).alloc (.cells k.cells 26)) (.cells #[.string s] 9) (r := w.heap.size) (by simp only [World.size_alloc]; omega)).trans ((heap_alloc_old (w.alloc (.cells #[.slice a L.length c] 22)) (.cells k.cells 26) (r := w.heap.size) (by simp only [World.size_alloc]; omega)).trans (heap_alloc_new w (.cells #[.slice a L.length c] 22))))
  simp only [World.size_alloc] at Z X Y0
  have cX := one_box X
  have cV := one_box V
  have Y : BoxAt _ (w.heap.size + 1) k := Y0
  have HC := change_any L _ k k' e 39 #[.pointer (some ⟨w.heap.size + 2, 0, none⟩), .pointer (some ⟨w.heap.size, 0, none⟩)] _ (h.below kb) enters_seek (fun hc => hh hc _ w.heap.size (w.heap.size + 2) kb (Nat.le_refl _) (by omega) cV cX (h.below kb))
  obtain ⟨⟨c0, c1, c2, c3, c4⟩, _⟩ := Y.cells
  generalize hk' : chgK (chk L k) e k' = rk at *
  generalize chgE (chk L k) e = re at *
  clear hk' hh h hl X V Y0
  simp only [zero_cells] at HC Y Z kb c0 c1 c2 c3 c4 cX cV
  obtain ⟨x, y, fx, fy, on'⟩ := k
  obtain ⟨rx, ry, rfx, rfy, ron⟩ := rk
  simp only [Cp.cells] at Y Z kb HC c0 c1 c2 c3 c4 cX cV ⊢
  go_enter Tryd.func17, Tryd.ntmps17
  go_wp2_with fail
  refine HC.mono ?_
  rintro e1 W1 ⟨rfl, b1⟩
  have k1 := kb.trans (b1.mono kb.size)
  have z1 := kept Z b1
  clear HC c0 c1 c2 c3 c4 kb Z Y b1 cX cV
  go_wp2_with (refine wpList_store_row rfl 26 (.tmp 6) (.tmp 12) rfl (w.heap.size + 3) #[.int .i64 rx, .int .i64 ry, .int .i64 rfx, .int .i64 rfy, .bool ron] rfl rfl _ _ z1 (by kernel_rfl) rfl (oneCp ⟨_, _, _, _, _⟩) ?_)
  (try simp only [Exit.inBlock, Exit.then])
  refine bodyPost_ret (v := .tuple #[.agg #[.int .i64 rx, .int .i64 ry, .int .i64 rfx, .int .i64 rfy, .bool ron], .int .i64 re]) ?_ rfl ⟨rfl, below_setRow k1 (by omega) _⟩
  exact results_row_tmp rfl _ _ (w.heap.size + 3) _ _ _ _ rfl (setRow_heap _ _ _ _ _ _ z1) Tryd.underlying26 rfl (by kernel_rfl) _ rfl
end Cpy
end Go.Proofs.YtlodmffiengnaaaDoor
