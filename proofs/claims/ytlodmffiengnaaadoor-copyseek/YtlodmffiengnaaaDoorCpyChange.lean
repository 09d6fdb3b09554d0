/- Package copying: change: a place becomes what a closure makes of it. -/
import Derived.Test.YtlodmffiengnaaaDoorCpyChk
import Derived.Test.YtlodmffiengnaaaDoorCpyEnd
namespace Go.Proofs.YtlodmffiengnaaaDoor
open Go.ChangeShapes Go.WideShapes Go.ChangeAt Go.RowKit Go.Maps
namespace Cpy
/-- The place's box. -/
def BoxAt (w : World) (B : Nat) (k : Cp) : Prop := w.heap[B]? = some (.cells k.cells 26 (0, 0))
/-- All but one block stands as it stood. -/
structure But (M : Nat) (w w' : World) : Prop where
  os : w'.os = w.os
  tape : w'.tape = w.tape
  output : w'.output = w.output
  size : w.heap.size ≤ w'.heap.size
  block : ∀ i, i < w.heap.size → i ≠ M → w'.heap[i]? = w.heap[i]?
theorem But.refl (M : Nat) (w : World) : But M w w := ⟨rfl, rfl, rfl, Nat.le_refl _, fun _ _ _ => rfl⟩
theorem But.trans {M : Nat} {a b c : World} (h : But M a b) (g : But M b c) : But M a c :=
  ⟨g.os.trans h.os, g.tape.trans h.tape, g.output.trans h.output, Nat.le_trans h.size g.size, fun i hi hne => (g.block i (Nat.lt_of_lt_of_le hi h.size) hne).trans (h.block i hi hne)⟩
theorem But.of_below {M : Nat} {w w' : World} (h : Below w.heap.size w w') : But M w w' := ⟨h.os, h.tape, h.output, h.size, fun i hi _ => h.block i hi⟩
theorem But.below {M N : Nat} {w w' : World} (h : But M w w') (hM : N ≤ M) (hN : N ≤ w.heap.size) : Below N w w' := ⟨h.os, h.tape, h.output, h.size, fun i hi => h.block i (by omega) (by omega)⟩
theorem But.setCell {M i : Nat} {w w' : World} (h : But M w w') (u : Value) : But M w (w'.setCell ⟨M, i, none⟩ u) :=
  ⟨h.os, h.tape, h.output, by rw [show (w'.setCell ⟨M, i, none⟩ u).heap.size = w'.heap.size by simp [World.setCell]]; exact h.size, fun j hj hne => by rw [RowKit.Below.heap_setCell _ _ _ _ hne]; exact h.block j hj hne⟩
theorem But.setRow {M : Nat} {w w' : World} (h : But M w w') (cs : Array Value) : But M w (w'.setRow M cs) :=
  ⟨h.os, h.tape, h.output, by rw [show (w'.setRow M cs).heap.size = w'.heap.size by simp [World.setRow]]; exact h.size, fun j hj hne => by rw [setRow_other _ _ _ _ hne]; exact h.block j hj hne⟩
theorem But.drew {M : Nat} {w w' : World} (h : But M w.drew w') : But M w w' := ⟨h.os, h.tape, h.output, h.size, h.block⟩
theorem BoxAt.cells {w : World} {B : Nat} {k : Cp} (h : BoxAt w B k) : (w.cell? ⟨B, 0, none⟩ = some (.int .i64 k.x) ∧ w.cell? ⟨B, 1, none⟩ = some (.int .i64 k.y) ∧ w.cell? ⟨B, 2, none⟩ = some (.int .i64 k.fx) ∧ w.cell? ⟨B, 3, none⟩ = some (.int .i64 k.fy) ∧ w.cell? ⟨B, 4, none⟩ = some (.bool k.on)) ∧ ∀ i, w.frozen? ⟨B, i, none⟩ = false := by
  unfold BoxAt at h
  refine ⟨?_, fun i => by simp [World.frozen?, h]⟩
  unfold World.cell?
  rw [h]
  exact ⟨rfl, rfl, rfl, rfl, rfl⟩
theorem BoxAt.lt {w : World} {B : Nat} {k : Cp} (h : BoxAt w B k) : B < w.heap.size := (Array.getElem?_eq_some_iff.1 h).1
theorem BoxAt.below {w w' : World} {B : Nat} {k : Cp} (h : BoxAt w B k) (b : Below w.heap.size w w') : BoxAt w' B k := kept h b
theorem BoxAt.setX {w : World} {B : Nat} {k : Cp} (h : BoxAt w B k) (x : Int) : BoxAt (w.setCell ⟨B, 0, none⟩ (.int .i64 x)) B { k with x := x } := heap_setCell_same w B 0 _ _ _ h
theorem BoxAt.setY {w : World} {B : Nat} {k : Cp} (h : BoxAt w B k) (y : Int) : BoxAt (w.setCell ⟨B, 1, none⟩ (.int .i64 y)) B { k with y := y } := heap_setCell_same w B 1 _ _ _ h
theorem BoxAt.setFX {w : World} {B : Nat} {k : Cp} (h : BoxAt w B k) (x : Int) : BoxAt (w.setCell ⟨B, 2, none⟩ (.int .i64 x)) B { k with fx := x } := heap_setCell_same w B 2 _ _ _ h
theorem BoxAt.setFY {w : World} {B : Nat} {k : Cp} (h : BoxAt w B k) (y : Int) : BoxAt (w.setCell ⟨B, 3, none⟩ (.int .i64 y)) B { k with fy := y } := heap_setCell_same w B 3 _ _ _ h
theorem BoxAt.setOn {w : World} {B : Nat} {k : Cp} (h : BoxAt w B k) (o : Bool) : BoxAt (w.setCell ⟨B, 4, none⟩ (.bool o)) B { k with on := o } := heap_setCell_same w B 4 _ _ _ h
theorem results_row_tmp {P : Program} {fn : Func} {p u : Tmp} {ty : TypeId} (h : fn.results = #[.cell p ty, .tmp u]) (tmps : Array Value) (w : World) (g : Nat) (t : TypeId) (cs : Array Value) (fr : Nat × Nat) (d : TypeDesc)
    (hp : tmps.getD p undef = .pointer (some ⟨g, 0, none⟩)) (hg : w.heap[g]? = some (.cells cs t fr))
    (hu : P.underlying ty = some d) (hd : (match d with | .struct _ | .array _ _ => true | _ => false) = true) (hi : (P.info? ty).map (·.size) = some cs.size) (v : Value) (hv : tmps.getD u undef = v) :
    (results fn tmps).run P w = .ok (.tuple #[.agg cs, v]) w := by
  rw [results_cell_tmp h, hp, hv]
  simp [asAddr, run_loadVar_row w g t ty cs fr d hg hu hd hi, Result.andThen]
def zCp : Cp := ⟨0, 0, 0, 0, false⟩
/-- What a closure does to a place: the error e, the place k'. -/
def How (g : Nat) (cb : Array Value) (w : World) (k : Cp) (e : Int) (k' : Cp) : Prop :=
  ∀ W C, Below w.heap.size w W → w.heap.size ≤ C → BoxAt W C k → Calls Tryd.prog g (#[.pointer (some ⟨C, 0, none⟩)] ++ cb) W fun er W' => er = .returned (.int .i64 e) ∧ BoxAt W' C k' ∧ But C W W'
/-- What change answers. -/
def chgK (c e : Int) (k' : Cp) : Cp := if c = 0 ∧ e = 0 then { k' with x := min k'.x 120 } else zCp
def chgE (c e : Int) : Int := if c = 0 then e else c
theorem oneCp (k : Cp) : k.cells.all (·.oneCell') = true := by simp [Cp.cells, Value.oneCell']
theorem zero_cells : zCp.cells = #[.int .i64 0, .int .i64 0, .int .i64 0, .int .i64 0, .bool false] := rfl
set_option maxHeartbeats 4000000 in
set_option maxRecDepth 100000 in
theorem change_any (L : List ByteArray) (v : Value) (k k' : Cp) (e : Int) (g : Nat) (cb : Array Value) (w : World) (h : LsAt w v L)
    (eg : ∀ args w, (callFunc g args).run Tryd.prog w = .ok (.enter g args) w) (hh : chk L k = 0 → How g cb w k e k') :
    Calls Tryd.prog 20 #[v, .agg k.cells, .func (.func g) #[] cb] w fun er w' => er = .returned (.tuple #[.agg (chgK (chk L k) e k').cells, .int .i64 (chgE (chk L k) e)]) ∧ Below w.heap.size w w' := by
  have kb : Below w.heap.size w ((w.alloc (.cells k.cells 26)).alloc (.cells zCp.cells 26)) := ((Below.refl _ _).alloc (Nat.le_refl _) _).alloc (by rw [World.size_alloc]; omega) _
  have Z := heap_alloc_new (w.alloc (.cells k.cells 26)) (.cells zCp.cells 26)
  have Y : BoxAt ((w.alloc (.cells k.cells 26)).alloc (.cells zCp.cells 26)) w.heap.size k := (heap_alloc_old (w.alloc (.cells k.cells 26)) (.cells zCp.cells 26) (r := w.heap.size) (by rw [World.size_alloc]; omega)).trans (heap_alloc_new w (.cells k.cells 26))
  rw [World.size_alloc] at Z
  have HC := fun W (hW : Below w.heap.size w W) => check_any L v k W (h.below hW)
  obtain ⟨a, c, rfl, _⟩ := h
  generalize chk L k = R at *
  obtain ⟨⟨c0, c1, c2, c3, c4⟩, _⟩ := Y.cells
  simp only [zero_cells] at Y Z kb c0 c1 c2 c3 c4
  obtain ⟨x, y, fx, fy, on⟩ := k
  simp only [Cp.cells] at Y Z kb HC c0 c1 c2 c3 c4 ⊢
  obtain ⟨rk, hrk⟩ : ∃ rk, chgK R e k' = rk := ⟨_, rfl⟩
  obtain ⟨re, hre⟩ : ∃ re, chgE R e = re := ⟨_, rfl⟩
  rw [hrk, hre]
  unfold chgK at hrk
  unfold chgE at hre
  go_enter Tryd.func20, Tryd.ntmps20
  go_wp2_with fail
  refine (HC _ kb).mono ?_
  rintro e1 W1 ⟨rfl, b1⟩
  have k1 := kb.trans (b1.mono kb.size)
  have z1 := kept Z b1
  have y1 : BoxAt W1 w.heap.size ⟨x, y, fx, fy, on⟩ := kept Y b1
  clear HC c0 c1 c2 c3 c4 kb Z Y b1
  by_cases hR : R = 0
  · subst hR
    have jR : ((0 : Int) == 0) = true := rfl
    have HH := hh rfl W1 w.heap.size k1 (Nat.le_refl _) y1
    clear hh y1
    by_cases he : e = 0
    · subst he
      rw [if_pos ⟨rfl, rfl⟩] at hrk
      rw [if_pos rfl] at hre
      subst hrk hre
      go_wp2_with fail
      refine HH.mono ?_
      rintro e2 W2 ⟨rfl, y2, b2⟩
      have k2 := k1.trans (b2.below (Nat.le_refl _) k1.size)
      have z2 := (b2.block _ (Array.getElem?_eq_some_iff.1 z1).1 (by omega)).trans z1
      obtain ⟨x', y', fx', fy', on'⟩ := k'
      obtain ⟨⟨c0, c1, c2, c3, c4⟩, hf⟩ := y2.cells
      have f0 := hf 0
      have y3 := y2.setX (min x' 120)
      have k3 := k2.setCell (p := ⟨w.heap.size, 0, none⟩) (Nat.le_refl _) (.int .i64 (min x' 120))
      have z3 : (W2.setCell ⟨w.heap.size, 0, none⟩ (.int .i64 (min x' 120))).heap[w.heap.size + 1]? = _ := (RowKit.Below.heap_setCell _ _ _ _ (by simp)).trans z2
      obtain ⟨⟨d0, d1, d2, d3, d4⟩, _⟩ := y3.cells
      clear HH z1 k1 y2 hf b2
      simp only [] at c0 c1 c2 c3 c4 d0 d1 d2 d3 d4
      go_wp2_with (refine wpList_store_row rfl 26 (.tmp 6) (.tmp 26) rfl (w.heap.size + 1) #[.int .i64 (min x' 120), .int .i64 y', .int .i64 fx', .int .i64 fy', .bool on'] rfl rfl _ _ z3 (by kernel_rfl) rfl (oneCp ⟨_, _, _, _, _⟩) ?_)
      (try simp only [Exit.inBlock, Exit.then])
      refine bodyPost_ret (v := .tuple #[.agg #[.int .i64 (min x' 120), .int .i64 y', .int .i64 fx', .int .i64 fy', .bool on'], .int .i64 0]) ?_ rfl ⟨rfl, below_setRow k3 (by omega) _⟩
      exact results_row_tmp rfl _ _ (w.heap.size + 1) _ _ _ _ rfl (setRow_heap _ _ _ _ _ _ z3) Tryd.underlying26 rfl (by kernel_rfl) _ rfl
    · have je : (e == 0) = false := by rw [beq_eq_false_iff_ne]; exact he
      rw [if_neg (fun h => he h.2)] at hrk
      rw [if_pos rfl] at hre
      subst hrk hre
      have jn : (e != 0) = true := by rw [bne, je]; rfl
      go_wp2_with fail
      refine HH.mono ?_
      rintro e2 W2 ⟨rfl, y2, b2⟩
      have k2 := k1.trans (b2.below (Nat.le_refl _) k1.size)
      have z2 := (b2.block _ (Array.getElem?_eq_some_iff.1 z1).1 (by omega)).trans z1
      clear HH z1 k1 y2 b2
      go_wp2_with (refine wpList_store_row rfl 26 (.tmp 6) (.tmp 18) rfl (w.heap.size + 1) #[.int .i64 0, .int .i64 0, .int .i64 0, .int .i64 0, .bool false] rfl rfl _ _ z2 (by kernel_rfl) rfl (oneCp ⟨_, _, _, _, _⟩) ?_)
      (try simp only [Exit.inBlock, Exit.then])
      refine bodyPost_ret (v := .tuple #[.agg #[.int .i64 0, .int .i64 0, .int .i64 0, .int .i64 0, .bool false], .int .i64 e]) ?_ rfl ⟨rfl, below_setRow k2 (by omega) _⟩
      exact results_row_tmp rfl _ _ (w.heap.size + 1) _ _ _ _ rfl (setRow_heap _ _ _ _ _ _ z2) Tryd.underlying26 rfl (by kernel_rfl) _ rfl
  · have jR : (R == 0) = false := by rw [beq_eq_false_iff_ne]; exact hR
    have jn : (R != 0) = true := by rw [bne, jR]; rfl
    rw [if_neg (fun h => hR h.1)] at hrk
    rw [if_neg hR] at hre
    subst hrk hre
    clear hh y1
    go_wp2_with (refine wpList_store_row rfl 26 (.tmp 6) (.tmp 18) rfl (w.heap.size + 1) #[.int .i64 0, .int .i64 0, .int .i64 0, .int .i64 0, .bool false] rfl rfl _ _ z1 (by kernel_rfl) rfl (oneCp ⟨_, _, _, _, _⟩) ?_)
    (try simp only [Exit.inBlock, Exit.then])
    refine bodyPost_ret (v := .tuple #[.agg #[.int .i64 0, .int .i64 0, .int .i64 0, .int .i64 0, .bool false], .int .i64 R]) ?_ rfl ⟨rfl, below_setRow k1 (by omega) _⟩
    exact results_row_tmp rfl _ _ (w.heap.size + 1) _ _ _ _ rfl (setRow_heap _ _ _ _ _ _ z1) Tryd.underlying26 rfl (by kernel_rfl) _ rfl
end Cpy
end Go.Proofs.YtlodmffiengnaaaDoor
