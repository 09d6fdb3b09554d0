/- (*sheet.Sheet).Write. -/
import Derived.Test.YtnkeahfcpbepjaaDoorPartJ
import Derived.Deep.RegionWith
import Derived.Deep.Cut
import Derived.Deep.CutRange
import Derived.Test.YtnkeahfcpbepjaaDoorPartH
import Derived.Shelf.SlicesE.Delete
import Derived.Lib.OwnBridge
import Derived.Lib.JoinLaws
import Derived.Lib.AppendZeros
import Derived.Lib.Overlaps
import Derived.Laws.Externs
import Derived.Laws.IdiomCopy
import Derived.Shelf.RegionOpenPlain
import Derived.Test.YtnkeahfcpbepjaaDoorPartE
import Derived.Deep.RegionHeld3
namespace Go.Proofs.YtnkeahfcpbepjaaDoor
open Go.ChangeShapes Go.WideShapes Go.ChangeAt Go.RowKit
namespace Put
open Grd (C SliceAt CellsAt gridErr z0 nilV flat rowsL OwnG RowB)
open Sty (isSt)
open Txt (wd)
theorem cell_one' {W : World} {R : Nat} {v : Value} {t : TypeId} (h : W.heap[R]? = some (.cells #[v] t (0, 0))) : W.cell? ⟨R, 0, none⟩ = some v := by simp [World.cell?, h]
theorem other_ptr : Other 82 := by unfold Other; decide
theorem plain_write : Plain 138 := by
  intro args W
  kernel_rfl
theorem next4 {Y V : World} {a1 a2 a3 a4 : Addr} {v1 v2 v3 v4 : Value} (b : Below Y.heap.size Y V) (e : Y.cell? a1 = some v1 ∧ Y.cell? a2 = some v2 ∧ Y.cell? a3 = some v3 ∧ Y.cell? a4 = some v4) : V.cell? a1 = some v1 ∧ V.cell? a2 = some v2 ∧ V.cell? a3 = some v3 ∧ V.cell? a4 = some v4 := ⟨cell_stay b e.1, cell_stay b e.2.1, cell_stay b e.2.2.1, cell_stay b e.2.2.2⟩
theorem al_below (o : Obj) {X Y : World} (_ : Below X.heap.size X Y) : Below Y.heap.size Y (Y.alloc o) := (Below.refl _ _).alloc (Nat.le_refl _) _
theorem al_old (o : Obj) {Y : World} {B : Nat} {u : Obj} (h : Y.heap[B]? = some u) : (Y.alloc o).heap[B]? = some u := (Below.heap_alloc Y o _ (heap_lt h)).trans h
theorem al_at {X Y : World} (_ : Below X.heap.size X Y) {o : Obj} (h : (Y.alloc o).heap[Y.heap.size]? = some o) : (Y.alloc o).heap[Y.heap.size]? = some o := h
/-- A rune's cells lie in a block of their own, of which a variable speaks. -/
def Brush (X V : World) (Bc g k : Nat) (mid : List C) : Prop := X.heap.size ≤ Bc ∧ V.heap[Bc]? = some (.cells #[.slice (some ⟨g, 0, none⟩) k 2] 22 (0, 0)) ∧ CellsAt V g 0 mid ∧ Below X.heap.size X V
theorem off4 {Z : World} {Bc P1 P2 i1 i2 i3 i4 : Nat} {v u : Value} {v1 v2 v3 v4 : Value} (_ : Z.heap[Bc]? = some (.cells #[u] 22 (0, 0))) (e : Z.cell? ⟨P1, i1, none⟩ = some v1 ∧ Z.cell? ⟨P2, i2, none⟩ = some v2 ∧ Z.cell? ⟨P2, i3, none⟩ = some v3 ∧ Z.cell? ⟨P2, i4, none⟩ = some v4) (n1 : Bc ≠ P1) (n2 : Bc ≠ P2) : (Z.setCell ⟨Bc, 0, none⟩ v).cell? ⟨P1, i1, none⟩ = some v1 ∧ (Z.setCell ⟨Bc, 0, none⟩ v).cell? ⟨P2, i2, none⟩ = some v2 ∧ (Z.setCell ⟨Bc, 0, none⟩ v).cell? ⟨P2, i3, none⟩ = some v3 ∧ (Z.setCell ⟨Bc, 0, none⟩ v).cell? ⟨P2, i4, none⟩ = some v4 := ⟨(cell_store_off n1.symm).trans e.1, (cell_store_off n2.symm).trans e.2.1, (cell_store_off n2.symm).trans e.2.2.1, (cell_store_off n2.symm).trans e.2.2.2⟩
theorem brush_of {X Z : World} {Bc g k : Nat} {u : Value} {mid : List C} {A : Array Value} (HM : ∀ (V : World) (g : Nat), V.heap[g]? = some (.cells A 63 (0, 0)) → CellsAt V g 0 mid) (hb : Z.heap[Bc]? = some (.cells #[u] 22 (0, 0))) (hg : Z.heap[g]? = some (.cells A 63 (0, 0))) (kx : Below X.heap.size X Z) (lb : X.heap.size ≤ Bc) : Brush X (Z.setCell ⟨Bc, 0, none⟩ (.slice (some ⟨g, 0, none⟩) k 2)) Bc g k mid := by
  have hne : g ≠ Bc := by
    intro e
    rw [e, hb] at hg
    injection hg with hg
    injection hg with _ hg _
    exact absurd hg (by decide)
  exact ⟨lb, store_at hb rfl, HM _ _ ((store_off hne).trans hg), kx.setCell lb _⟩
set_option linter.unusedSimpArgs false in
set_option maxHeartbeats 8000000 in
set_option maxRecDepth 100000 in
theorem write_any (W : World) (M N p : Nat) (s : Scr) (rows : List (List C)) (hT : Txt.Tab W) (hSt : ShAt 109 W M N p s rows) (r : Int)
    (n x y : Nat) (hy : y < rows.length) (row : List C) (hrow : rows.getD y [] = row) (_hw : s.w = n) (hx : s.x = x) (hyy : s.y = y) (hxn : x < n) (hrn : row.length = n) (hz : gridErr n 1 row = 0) (hst : isSt (s.sf, s.sb, s.sx) = true) (hr : wd r ≠ 0) (hfit : wd r ≤ (n : Int) - x) :
    Calls Tryd.prog 105 #[.pointer (some ⟨p, 0, none⟩), .int .i32 r] W (Ran W M N p s (rows.set y (putRune (s.sf, s.sb, s.sx) row x r))) := by
  obtain ⟨cv, tv, gv, rv, gvs, vs, hS⟩ := hSt
  obtain ⟨k, hk, hk1⟩ := wd_one_two r hr
  have hrr : Grd.RightRow row := by
    have h := ((Grd.gridErr_zero n 1 row).1 hz).2.2 0 (by omega)
    have e : Grd.rowAt n row 0 = row := by unfold Grd.rowAt; rw [Nat.zero_mul, List.drop_zero, ← hrn, List.take_length]
    rw [e] at h
    exact h
  have hn2 : n ≤ 120 := by
    obtain ⟨h1, -, -⟩ := (Grd.gridErr_zero n 1 row).1 hz
    have h2 : 1 ≤ (n : Int) ∧ (n : Int) ≤ 120 := by simpa [Grd.isSize] using h1
    omega
  have hxk : x + k ≤ row.length := by omega
  obtain ⟨hov, hml⟩ := writeOne_ov (s.sf, s.sb, s.sx) row x k r hk hk1 hxk
  have hal : Grd.Alike (ovR row (cellsW (s.sf, s.sb, s.sx) r) x (x + k)) := by
    rw [← hov]
    exact (Grd.meant_one _ row x r hrr.1 hst (by omega)).alike
  have hlen := ovR_len row (cellsW (s.sf, s.sb, s.sx) r) x (x + k) (by rw [hml]) hxk
  have kb : Below W.heap.size W (W.alloc (.cells #[.pointer (some ⟨p, 0, none⟩)] 82)) := (Below.refl _ _).alloc (Nat.le_refl _) _
  have hx0 := heap_alloc_new W (.cells #[.pointer (some ⟨p, 0, none⟩)] 82)
  have HA : Hid (∀ X Bc g, Below W.heap.size W X → X.cell? ⟨W.heap.size, 0, none⟩ = some (.pointer (some ⟨p, 0, none⟩)) → X.cell? ⟨Bc, 0, none⟩ = some (.slice (some ⟨g, 0, none⟩) k 2) → CellsAt X g 0 (cellsW (s.sf, s.sb, s.sx) r) → Calls Tryd.prog 135 #[.pointer (some ⟨p, 0, none⟩), .int .i64 (y : Int), .func (.func 138) #[] #[.pointer (some ⟨W.heap.size, 0, none⟩), .pointer (some ⟨Bc, 0, none⟩)]] X (Ran X M N p s (rows.set y (putRune (s.sf, s.sb, s.sx) row x r)))) := fun X Bc g hX q1 q2 hM => by
    unfold putRune
    rw [hov]
    refine relay_any X M N p s rows cv tv gv rv gvs vs (hS.next hX) (Grd.Tab.next hT hX) y hy _ plain_write _ _ (fun W1 hW1 => ?_) hal (by rw [hlen]; omega)
    have hS1 := (hS.next hX).next hW1
    have hri := hS1.rin.2 y hy
    rw [hrow] at hri
    obtain ⟨⟨-, -, -, c3, -⟩, -, -⟩ := sh_cells hS1.blk
    rw [hx] at c3
    rcases hri with ⟨he, -⟩ | ⟨hne, bb, o, c, hv, hc1, hc2, hC, -⟩
    · have h5 := congrArg List.length he
      rw [List.length_nil] at h5
      omega
    · rw [hv]
      refine (write1_any W1 p W.heap.size Bc bb o c x k g row (cellsW (s.sf, s.sb, s.sx) r) (cell_stay hW1 q1) c3 (cell_stay hW1 q2) (hM.below hW1) hml hC hc1 hxk (by omega) (by omega)).mono ?_
      rintro e W2 ⟨v', rfl, hO, b2⟩
      have hO2 : W2.ownsRow W1.heap.size 63 4 v' (ovR row (cellsW (s.sf, s.sb, s.sx) r) x (x + k)).length (flat (ovR row (cellsW (s.sf, s.sb, s.sx) r) x (x + k))) := by rw [hlen]; exact hO
      rcases OwnC.of hO2 with ⟨he, -⟩ | ⟨g', cap, rest, ⟨t, ht⟩, hv', hg1, hg2, hg3, hg4⟩
      · have h5 := congrArg List.length he
        rw [hlen, List.length_nil] at h5
        omega
      · subst ht
        rw [hv']
        exact ⟨g', cap, rest, rfl, hg1, hg2, hg3, hg4, b2⟩
  have HWD : Hid (∀ V, Txt.Tab V → Calls Tryd.prog 45 #[.int .i32 r] V fun e w' => e = .returned (.int .i64 (k : Int)) ∧ Below V.heap.size V w') := fun V hV => by
    rw [← hk]
    exact Txt.width_any r V hV
  have HMC : Hid (∀ (V : World) (g : Nat), V.heap[g]? = some (.cells #[.int .i32 r, .int .i64 s.sf, .int .i64 s.sb, .int .i64 s.sx, .int .i32 0, .int .i64 s.sf, .int .i64 s.sb, .int .i64 s.sx] 63 (0, 0)) → CellsAt V g 0 (cellsW (s.sf, s.sb, s.sx) r)) := fun V g h j hj => by
    have hj2 : j = 0 ∨ (j = 1 ∧ wd r = 2) := by
      rw [hml] at hj
      omega
    have e : ∀ i v, (#[.int .i32 r, .int .i64 s.sf, .int .i64 s.sb, .int .i64 s.sx, .int .i32 0, .int .i64 s.sf, .int .i64 s.sb, .int .i64 s.sx] : Array Value)[i]? = some v → V.cell? ⟨g, i, none⟩ = some v := fun i v hv => by
      unfold World.cell?
      rw [h]
      exact hv
    rcases hj2 with rfl | ⟨rfl, h2⟩
    · have e0 : (cellsW (s.sf, s.sb, s.sx) r).getD 0 z0 = (r, s.sf, s.sb, s.sx) := by
        unfold cellsW
        split <;> rfl
      rw [e0]
      exact ⟨e _ _ rfl, e _ _ rfl, e _ _ rfl, e _ _ rfl⟩
    · have e0 : (cellsW (s.sf, s.sb, s.sx) r).getD 1 z0 = (0, s.sf, s.sb, s.sx) := by
        unfold cellsW
        rw [if_pos h2]
        rfl
      rw [e0]
      exact ⟨e _ _ rfl, e _ _ rfl, e _ _ rfl, e _ _ rfl⟩
  have TX : Hid (∀ V, Below (W.alloc (.cells #[.pointer (some ⟨p, 0, none⟩)] 82)).heap.size (W.alloc (.cells #[.pointer (some ⟨p, 0, none⟩)] 82)) V → Txt.Tab V) := fun V hV => Grd.Tab.next (Grd.Tab.next hT kb) hV
  have HX0 : Hid _ := hx0
  have HKB : Hid _ := kb
  have hNW : N ≤ W.heap.size := by have := hS.lo; have := heap_lt hS.blk; omega
  obtain ⟨⟨-, -, -, -, c4, -, c6, c7, c8, -⟩, -, -⟩ := sh_cells (hS.next kb).blk
  rw [hyy] at c4
  have q1 := cell_one' hx0
  have hk2 : (k : Int) ≤ 2 := by omega
  have hk0 : (0 : Int) ≤ (k : Int) := by omega
  clear hS hT hrow hx hyy hz hst hr hfit kb hx0 hrr hlen hal hov hml hk hk1 hxk
  go_enter Tryd.func105, Tryd.ntmps105
  go_upto_region 1 with fail
  generalize W.alloc (.cells #[.pointer (some ⟨p, 0, none⟩)] 82) = X at *
  go_cut [4] from 4 to 21 (fun c wx => ∃ Bc g, c = .pointer (some ⟨Bc, 0, none⟩) ∧ Brush X wx Bc g k (cellsW (s.sf, s.sb, s.sx) r))
  case first =>
    refine wp_region_noPanic ?_
    have e0 : (fun w' => w'.cell? ⟨W.heap.size, 0, none⟩ = some (.pointer (some ⟨p, 0, none⟩)) ∧ w'.cell? ⟨p, 6, none⟩ = some (.int .i64 s.sf) ∧ w'.cell? ⟨p, 7, none⟩ = some (.int .i64 s.sb) ∧ w'.cell? ⟨p, 8, none⟩ = some (.int .i64 s.sx)) X.drew := ⟨q1, c6, c7, c8⟩
    have k0 : Below X.heap.size X X.drew := (Below.refl _ _).drew
    have l1 := World.block_lt_of_cell? X _ q1
    have l2 := World.block_lt_of_cell? X _ c6
    clear q1 c4 c6 c7 c8
    refine wp_region_held_drew (S := (fun w' => w'.cell? ⟨W.heap.size, 0, none⟩ = some (.pointer (some ⟨p, 0, none⟩)) ∧ w'.cell? ⟨p, 6, none⟩ = some (.int .i64 s.sf) ∧ w'.cell? ⟨p, 7, none⟩ = some (.int .i64 s.sb) ∧ w'.cell? ⟨p, 8, none⟩ = some (.int .i64 s.sx))) (by kernel_rfl) e0 (fun hHeld => ?_)
    generalize X.drew = Z0 at *
    refine wpAnyH_take (i := 0) (oi := _) (v := ?_) rfl (by kernel_rfl) (by kernel_rfl) (by kernel_rfl) (fun _ _ _ h => h) (Or.inl ⟨by rfl, ?_⟩) hHeld ?_
    rotate_left
    · intro w hSw
      (try dsimp only at hSw)
      go_simp
      (try with_reducible rfl)
    (try simp only [Act.put, List.setIfInBounds_toArray, List.set_cons_zero, List.set_cons_succ])
    refine wpAnyH_take (i := 1) (oi := _) (v := ?_) rfl (by kernel_rfl) (by kernel_rfl) (by kernel_rfl) (fun _ _ _ h => h) (Or.inl ⟨by rfl, ?_⟩) hHeld ?_
    rotate_left
    · intro w hSw
      (try dsimp only at hSw)
      go_simp
      (try with_reducible rfl)
    (try simp only [Act.put, List.setIfInBounds_toArray, List.set_cons_zero, List.set_cons_succ])
    refine wpAnyH_take (i := 2) (oi := _) (v := ?_) rfl (by kernel_rfl) (by kernel_rfl) (by kernel_rfl) (fun _ _ _ h => h) (Or.inl ⟨by rfl, ?_⟩) hHeld ?_
    rotate_left
    · intro w hSw
      (try dsimp only at hSw)
      go_simp
      (try with_reducible rfl)
    (try simp only [Act.put, List.setIfInBounds_toArray, List.set_cons_zero, List.set_cons_succ])
    refine wpAnyH_take (i := 3) (oi := _) (v := ?_) rfl (by kernel_rfl) (by kernel_rfl) (by kernel_rfl) (fun _ _ _ h => h) (Or.inl ⟨by rfl, ?_⟩) hHeld ?_
    rotate_left
    · intro w hSw
      (try dsimp only at hSw)
      go_simp
      (try with_reducible rfl)
    (try simp only [Act.put, List.setIfInBounds_toArray, List.set_cons_zero, List.set_cons_succ])
    refine wpAnyH_take (i := 4) (oi := _) (v := ?_) rfl (by kernel_rfl) (by kernel_rfl) (by kernel_rfl) (fun _ _ _ h => h) (Or.inl ⟨by rfl, ?_⟩) hHeld ?_
    rotate_left
    · intro w hSw
      (try dsimp only at hSw)
      go_simp
      (try with_reducible rfl)
    (try simp only [Act.put, List.setIfInBounds_toArray, List.set_cons_zero, List.set_cons_succ])
    refine wpAnyH_take (i := 5) (oi := _) (v := ?_) rfl (by kernel_rfl) (by kernel_rfl) (by kernel_rfl) (fun _ _ _ h => h) (Or.inl ⟨by rfl, ?_⟩) hHeld ?_
    rotate_left
    · intro w hSw
      (try dsimp only at hSw)
      go_simp
      (try with_reducible rfl)
    (try simp only [Act.put, List.setIfInBounds_toArray, List.set_cons_zero, List.set_cons_succ])
    refine wpAnyH_take (i := 6) (oi := _) (v := ?_) rfl (by kernel_rfl) (by kernel_rfl) (by kernel_rfl) (fun _ _ _ h => h) (Or.inl ⟨by rfl, ?_⟩) hHeld ?_
    rotate_left
    · intro w hSw
      (try dsimp only at hSw)
      go_simp
      (try with_reducible rfl)
    (try simp only [Act.put, List.setIfInBounds_toArray, List.set_cons_zero, List.set_cons_succ])
    refine wpAnyH_take (i := 7) (oi := _) (v := ?_) rfl (by kernel_rfl) (by kernel_rfl) (by kernel_rfl) (fun _ _ _ h => h) (Or.inl ⟨by rfl, ?_⟩) hHeld ?_
    rotate_left
    · intro w hSw
      (try dsimp only at hSw)
      go_simp
      (try with_reducible rfl)
    (try simp only [Act.put, List.setIfInBounds_toArray, List.set_cons_zero, List.set_cons_succ])
    refine wpAnyH_take (i := 8) (oi := _) (v := ?_) rfl (by kernel_rfl) (by kernel_rfl) (by kernel_rfl) (fun _ _ _ h => h) (Or.inl ⟨by rfl, ?_⟩) hHeld ?_
    rotate_left
    · intro w hSw
      (try dsimp only at hSw)
      go_simp
      (try with_reducible rfl)
    (try simp only [Act.put, List.setIfInBounds_toArray, List.set_cons_zero, List.set_cons_succ])
    refine wpAnyH_take (i := 9) (oi := _) (v := ?_) rfl (by kernel_rfl) (by kernel_rfl) (by kernel_rfl) (fun _ _ _ h => h) (Or.inl ⟨by rfl, ?_⟩) hHeld ?_
    rotate_left
    · intro w hSw
      (try dsimp only at hSw)
      go_simp
      (try with_reducible rfl)
    (try simp only [Act.put, List.setIfInBounds_toArray, List.set_cons_zero, List.set_cons_succ])
    refine wpAnyH_take (i := 10) (oi := _) (v := ?_) rfl (by kernel_rfl) (by kernel_rfl) (by kernel_rfl) (fun _ _ _ h => h) (Or.inl ⟨by rfl, ?_⟩) hHeld ?_
    rotate_left
    · intro w hSw
      (try dsimp only at hSw)
      go_simp
      (try with_reducible rfl)
    (try simp only [Act.put, List.setIfInBounds_toArray, List.set_cons_zero, List.set_cons_succ])
    refine wpAnyH_take (i := 11) (oi := _) (v := ?_) rfl (by kernel_rfl) (by kernel_rfl) (by kernel_rfl) (fun _ _ _ h => h) (Or.inl ⟨by rfl, ?_⟩) hHeld ?_
    rotate_left
    · intro w hSw
      (try dsimp only at hSw)
      go_simp
      (try with_reducible rfl)
    (try simp only [Act.put, List.setIfInBounds_toArray, List.set_cons_zero, List.set_cons_succ])
    refine wpAnyH_take (i := 12) (oi := _) (v := ?_) rfl (by kernel_rfl) (by kernel_rfl) (by kernel_rfl) (fun _ _ _ h => h) (Or.inl ⟨by rfl, ?_⟩) hHeld ?_
    rotate_left
    · intro w hSw
      (try dsimp only at hSw)
      go_simp
      (try with_reducible rfl)
    (try simp only [Act.put, List.setIfInBounds_toArray, List.set_cons_zero, List.set_cons_succ])
    refine wpAnyH_take (i := 14) (oi := _) (v := ?_) rfl (by kernel_rfl) (by kernel_rfl) (by kernel_rfl) (fun _ _ _ h => h) (Or.inl ⟨by rfl, ?_⟩) hHeld ?_
    rotate_left
    · intro w hSw
      (try dsimp only at hSw)
      go_simp
      (try with_reducible rfl)
    (try simp only [Act.put, List.setIfInBounds_toArray, List.set_cons_zero, List.set_cons_succ])
    refine wpAnyH_ready (rs := [13, 15, 17]) (by kernel_rfl) (by simp) ?_
    refine AllReadyH.cons (o := _) rfl (fun K hK => ?_) <| AllReadyH.cons (o := _) rfl (fun K hK => ?_) <| AllReadyH.cons (o := _) rfl (fun K hK => ?_) <| AllReadyH.nil
    · go_simp
      have ak := al_below (.cells #[.int .i32 r, .int .i64 s.sf, .int .i64 s.sb, .int .i64 s.sx, .int .i32 0, .int .i64 s.sf, .int .i64 s.sb, .int .i64 s.sx] 63) k0
      have hg := heap_alloc_new _ (.cells #[.int .i32 r, .int .i64 s.sf, .int .i64 s.sb, .int .i64 s.sx, .int .i32 0, .int .i64 s.sf, .int .i64 s.sb, .int .i64 s.sx] 63) |> al_at k0
      have k1 := k0.alloc k0.size (.cells #[.int .i32 r, .int .i64 s.sf, .int .i64 s.sb, .int .i64 s.sx, .int .i32 0, .int .i64 s.sf, .int .i64 s.sb, .int .i64 s.sx] 63)
      have e1 := next4 ak e0
      clear ak
      refine hK.out _ _ e1 (fun hHeld => ?_)
      clear hK K
      (try simp only [Act.put, List.setIfInBounds_toArray, List.set_cons_zero, List.set_cons_succ])
      generalize Z0.alloc (.cells #[.int .i32 r, .int .i64 s.sf, .int .i64 s.sb, .int .i64 s.sx, .int .i32 0, .int .i64 s.sf, .int .i64 s.sb, .int .i64 s.sx] 63) = Z1 at *
      refine wpAnyH_ready (rs := [15, 17]) (by kernel_rfl) (by simp) ?_
      refine AllReadyH.cons (o := _) rfl (fun K hK => ?_) <| AllReadyH.cons (o := _) rfl (fun K hK => ?_) <| AllReadyH.nil
      · go_simp
        refine (HWD.out _ (TX.out _ k1)).mono ?_
        rintro e Z2 ⟨rfl, bv⟩
        have k2 := k1.trans (bv.mono k1.size)
        have e2 := next4 bv e1
        replace hg := Grd.carry hg bv
        clear bv
        go_wp2_with fail
        refine hK.out _ _ e2 (fun hHeld => ?_)
        clear hK K
        (try simp only [Act.put, List.setIfInBounds_toArray, List.set_cons_zero, List.set_cons_succ])
        refine wpAnyH_take (i := 16) (oi := _) (v := ?_) rfl (by kernel_rfl) (by kernel_rfl) (by kernel_rfl) (fun _ _ _ h => h) (Or.inl ⟨by rfl, ?_⟩) hHeld ?_
        rotate_left
        · intro w hSw
          (try dsimp only at hSw)
          go_simp
          (try with_reducible rfl)
        (try simp only [Act.put, List.setIfInBounds_toArray, List.set_cons_zero, List.set_cons_succ])
        refine wpAnyH_ready (rs := [17]) (by kernel_rfl) (by simp) ?_
        refine AllReadyH.cons (o := _) rfl (fun K hK => ?_) <| AllReadyH.nil
        · go_simp
          have ak := al_below (.cells #[.slice none 0 0] 22) k2
          replace hg := al_old (.cells #[.slice none 0 0] 22) hg
          have hb := heap_alloc_new _ (.cells #[.slice none 0 0] 22) |> al_at k2
          have lb := k2.size
          have k3 := k2.alloc k2.size (.cells #[.slice none 0 0] 22)
          have e3 := next4 ak e2
          clear ak
          refine hK.out _ _ e3 (fun hHeld => ?_)
          clear hK K
          (try simp only [Act.put, List.setIfInBounds_toArray, List.set_cons_zero, List.set_cons_succ])
          generalize Z2.alloc (.cells #[.slice none 0 0] 22) = Z3 at *
          have fb := Put.cell_one' hb
          have ff := Grd.frozen_of hb 0
          refine wpAnyH_ready (rs := [18]) (by kernel_rfl) (by simp) ?_
          refine AllReadyH.cons (o := _) rfl (fun K hK => ?_) AllReadyH.nil
          go_simp
          refine hK.out _ _ (off4 hb e3 (Nat.ne_of_gt (Nat.lt_of_lt_of_le l1 lb)) (Nat.ne_of_gt (Nat.lt_of_lt_of_le l2 lb))) (fun hHeld => ?_)
          clear hK K
          (try simp only [Act.put, List.setIfInBounds_toArray, List.set_cons_zero, List.set_cons_succ])
          refine wpAnyH_done (by kernel_rfl) ?_ _
          refine NoPanic.normal ?_
          go_wp2_with fail
          go_meet
          exact ⟨_, _, rfl, brush_of HMC.out hb hg k3 lb⟩
      · go_simp
        have ak := al_below (.cells #[.slice none 0 0] 22) k1
        replace hg := al_old (.cells #[.slice none 0 0] 22) hg
        have hb := heap_alloc_new _ (.cells #[.slice none 0 0] 22) |> al_at k1
        have lb := k1.size
        have k2 := k1.alloc k1.size (.cells #[.slice none 0 0] 22)
        have e2 := next4 ak e1
        clear ak
        refine hK.out _ _ e2 (fun hHeld => ?_)
        clear hK K
        (try simp only [Act.put, List.setIfInBounds_toArray, List.set_cons_zero, List.set_cons_succ])
        generalize Z1.alloc (.cells #[.slice none 0 0] 22) = Z2 at *
        refine wpAnyH_ready (rs := [15]) (by kernel_rfl) (by simp) ?_
        refine AllReadyH.cons (o := _) rfl (fun K hK => ?_) <| AllReadyH.nil
        · go_simp
          refine (HWD.out _ (TX.out _ k2)).mono ?_
          rintro e Z3 ⟨rfl, bv⟩
          have k3 := k2.trans (bv.mono k2.size)
          have e3 := next4 bv e2
          replace hg := Grd.carry hg bv
          replace hb := Grd.carry hb bv
          clear bv
          go_wp2_with fail
          refine hK.out _ _ e3 (fun hHeld => ?_)
          clear hK K
          (try simp only [Act.put, List.setIfInBounds_toArray, List.set_cons_zero, List.set_cons_succ])
          refine wpAnyH_take (i := 16) (oi := _) (v := ?_) rfl (by kernel_rfl) (by kernel_rfl) (by kernel_rfl) (fun _ _ _ h => h) (Or.inl ⟨by rfl, ?_⟩) hHeld ?_
          rotate_left
          · intro w hSw
            (try dsimp only at hSw)
            go_simp
            (try with_reducible rfl)
          (try simp only [Act.put, List.setIfInBounds_toArray, List.set_cons_zero, List.set_cons_succ])
          have fb := Put.cell_one' hb
          have ff := Grd.frozen_of hb 0
          refine wpAnyH_ready (rs := [18]) (by kernel_rfl) (by simp) ?_
          refine AllReadyH.cons (o := _) rfl (fun K hK => ?_) AllReadyH.nil
          go_simp
          refine hK.out _ _ (off4 hb e3 (Nat.ne_of_gt (Nat.lt_of_lt_of_le l1 lb)) (Nat.ne_of_gt (Nat.lt_of_lt_of_le l2 lb))) (fun hHeld => ?_)
          clear hK K
          (try simp only [Act.put, List.setIfInBounds_toArray, List.set_cons_zero, List.set_cons_succ])
          refine wpAnyH_done (by kernel_rfl) ?_ _
          refine NoPanic.normal ?_
          go_wp2_with fail
          go_meet
          exact ⟨_, _, rfl, brush_of HMC.out hb hg k3 lb⟩
    · go_simp
      refine (HWD.out _ (TX.out _ k0)).mono ?_
      rintro e Z1 ⟨rfl, bv⟩
      have k1 := k0.trans (bv.mono k0.size)
      have e1 := next4 bv e0
      clear bv
      go_wp2_with fail
      refine hK.out _ _ e1 (fun hHeld => ?_)
      clear hK K
      (try simp only [Act.put, List.setIfInBounds_toArray, List.set_cons_zero, List.set_cons_succ])
      refine wpAnyH_ready (rs := [13, 17]) (by kernel_rfl) (by simp) ?_
      refine AllReadyH.cons (o := _) rfl (fun K hK => ?_) <| AllReadyH.cons (o := _) rfl (fun K hK => ?_) <| AllReadyH.nil
      · go_simp
        have ak := al_below (.cells #[.int .i32 r, .int .i64 s.sf, .int .i64 s.sb, .int .i64 s.sx, .int .i32 0, .int .i64 s.sf, .int .i64 s.sb, .int .i64 s.sx] 63) k1
        have hg := heap_alloc_new _ (.cells #[.int .i32 r, .int .i64 s.sf, .int .i64 s.sb, .int .i64 s.sx, .int .i32 0, .int .i64 s.sf, .int .i64 s.sb, .int .i64 s.sx] 63) |> al_at k1
        have k2 := k1.alloc k1.size (.cells #[.int .i32 r, .int .i64 s.sf, .int .i64 s.sb, .int .i64 s.sx, .int .i32 0, .int .i64 s.sf, .int .i64 s.sb, .int .i64 s.sx] 63)
        have e2 := next4 ak e1
        clear ak
        refine hK.out _ _ e2 (fun hHeld => ?_)
        clear hK K
        (try simp only [Act.put, List.setIfInBounds_toArray, List.set_cons_zero, List.set_cons_succ])
        generalize Z1.alloc (.cells #[.int .i32 r, .int .i64 s.sf, .int .i64 s.sb, .int .i64 s.sx, .int .i32 0, .int .i64 s.sf, .int .i64 s.sb, .int .i64 s.sx] 63) = Z2 at *
        refine wpAnyH_take (i := 16) (oi := _) (v := ?_) rfl (by kernel_rfl) (by kernel_rfl) (by kernel_rfl) (fun _ _ _ h => h) (Or.inl ⟨by rfl, ?_⟩) hHeld ?_
        rotate_left
        · intro w hSw
          (try dsimp only at hSw)
          go_simp
          (try with_reducible rfl)
        (try simp only [Act.put, List.setIfInBounds_toArray, List.set_cons_zero, List.set_cons_succ])
        refine wpAnyH_ready (rs := [17]) (by kernel_rfl) (by simp) ?_
        refine AllReadyH.cons (o := _) rfl (fun K hK => ?_) <| AllReadyH.nil
        · go_simp
          have ak := al_below (.cells #[.slice none 0 0] 22) k2
          replace hg := al_old (.cells #[.slice none 0 0] 22) hg
          have hb := heap_alloc_new _ (.cells #[.slice none 0 0] 22) |> al_at k2
          have lb := k2.size
          have k3 := k2.alloc k2.size (.cells #[.slice none 0 0] 22)
          have e3 := next4 ak e2
          clear ak
          refine hK.out _ _ e3 (fun hHeld => ?_)
          clear hK K
          (try simp only [Act.put, List.setIfInBounds_toArray, List.set_cons_zero, List.set_cons_succ])
          generalize Z2.alloc (.cells #[.slice none 0 0] 22) = Z3 at *
          have fb := Put.cell_one' hb
          have ff := Grd.frozen_of hb 0
          refine wpAnyH_ready (rs := [18]) (by kernel_rfl) (by simp) ?_
          refine AllReadyH.cons (o := _) rfl (fun K hK => ?_) AllReadyH.nil
          go_simp
          refine hK.out _ _ (off4 hb e3 (Nat.ne_of_gt (Nat.lt_of_lt_of_le l1 lb)) (Nat.ne_of_gt (Nat.lt_of_lt_of_le l2 lb))) (fun hHeld => ?_)
          clear hK K
          (try simp only [Act.put, List.setIfInBounds_toArray, List.set_cons_zero, List.set_cons_succ])
          refine wpAnyH_done (by kernel_rfl) ?_ _
          refine NoPanic.normal ?_
          go_wp2_with fail
          go_meet
          exact ⟨_, _, rfl, brush_of HMC.out hb hg k3 lb⟩
      · go_simp
        have ak := al_below (.cells #[.slice none 0 0] 22) k1
        have hb := heap_alloc_new _ (.cells #[.slice none 0 0] 22) |> al_at k1
        have lb := k1.size
        have k2 := k1.alloc k1.size (.cells #[.slice none 0 0] 22)
        have e2 := next4 ak e1
        clear ak
        refine hK.out _ _ e2 (fun hHeld => ?_)
        clear hK K
        (try simp only [Act.put, List.setIfInBounds_toArray, List.set_cons_zero, List.set_cons_succ])
        generalize Z1.alloc (.cells #[.slice none 0 0] 22) = Z2 at *
        refine wpAnyH_ready (rs := [13]) (by kernel_rfl) (by simp) ?_
        refine AllReadyH.cons (o := _) rfl (fun K hK => ?_) <| AllReadyH.nil
        · go_simp
          have ak := al_below (.cells #[.int .i32 r, .int .i64 s.sf, .int .i64 s.sb, .int .i64 s.sx, .int .i32 0, .int .i64 s.sf, .int .i64 s.sb, .int .i64 s.sx] 63) k2
          replace hb := al_old (.cells #[.int .i32 r, .int .i64 s.sf, .int .i64 s.sb, .int .i64 s.sx, .int .i32 0, .int .i64 s.sf, .int .i64 s.sb, .int .i64 s.sx] 63) hb
          have hg := heap_alloc_new _ (.cells #[.int .i32 r, .int .i64 s.sf, .int .i64 s.sb, .int .i64 s.sx, .int .i32 0, .int .i64 s.sf, .int .i64 s.sb, .int .i64 s.sx] 63) |> al_at k2
          have k3 := k2.alloc k2.size (.cells #[.int .i32 r, .int .i64 s.sf, .int .i64 s.sb, .int .i64 s.sx, .int .i32 0, .int .i64 s.sf, .int .i64 s.sb, .int .i64 s.sx] 63)
          have e3 := next4 ak e2
          clear ak
          refine hK.out _ _ e3 (fun hHeld => ?_)
          clear hK K
          (try simp only [Act.put, List.setIfInBounds_toArray, List.set_cons_zero, List.set_cons_succ])
          generalize Z2.alloc (.cells #[.int .i32 r, .int .i64 s.sf, .int .i64 s.sb, .int .i64 s.sx, .int .i32 0, .int .i64 s.sf, .int .i64 s.sb, .int .i64 s.sx] 63) = Z3 at *
          refine wpAnyH_take (i := 16) (oi := _) (v := ?_) rfl (by kernel_rfl) (by kernel_rfl) (by kernel_rfl) (fun _ _ _ h => h) (Or.inl ⟨by rfl, ?_⟩) hHeld ?_
          rotate_left
          · intro w hSw
            (try dsimp only at hSw)
            go_simp
            (try with_reducible rfl)
          (try simp only [Act.put, List.setIfInBounds_toArray, List.set_cons_zero, List.set_cons_succ])
          have fb := Put.cell_one' hb
          have ff := Grd.frozen_of hb 0
          refine wpAnyH_ready (rs := [18]) (by kernel_rfl) (by simp) ?_
          refine AllReadyH.cons (o := _) rfl (fun K hK => ?_) AllReadyH.nil
          go_simp
          refine hK.out _ _ (off4 hb e3 (Nat.ne_of_gt (Nat.lt_of_lt_of_le l1 lb)) (Nat.ne_of_gt (Nat.lt_of_lt_of_le l2 lb))) (fun hHeld => ?_)
          clear hK K
          (try simp only [Act.put, List.setIfInBounds_toArray, List.set_cons_zero, List.set_cons_succ])
          refine wpAnyH_done (by kernel_rfl) ?_ _
          refine NoPanic.normal ?_
          go_wp2_with fail
          go_meet
          exact ⟨_, _, rfl, brush_of HMC.out hb hg k3 lb⟩
    · go_simp
      have ak := al_below (.cells #[.slice none 0 0] 22) k0
      have hb := heap_alloc_new _ (.cells #[.slice none 0 0] 22) |> al_at k0
      have lb := k0.size
      have k1 := k0.alloc k0.size (.cells #[.slice none 0 0] 22)
      have e1 := next4 ak e0
      clear ak
      refine hK.out _ _ e1 (fun hHeld => ?_)
      clear hK K
      (try simp only [Act.put, List.setIfInBounds_toArray, List.set_cons_zero, List.set_cons_succ])
      generalize Z0.alloc (.cells #[.slice none 0 0] 22) = Z1 at *
      refine wpAnyH_ready (rs := [13, 15]) (by kernel_rfl) (by simp) ?_
      refine AllReadyH.cons (o := _) rfl (fun K hK => ?_) <| AllReadyH.cons (o := _) rfl (fun K hK => ?_) <| AllReadyH.nil
      · go_simp
        have ak := al_below (.cells #[.int .i32 r, .int .i64 s.sf, .int .i64 s.sb, .int .i64 s.sx, .int .i32 0, .int .i64 s.sf, .int .i64 s.sb, .int .i64 s.sx] 63) k1
        replace hb := al_old (.cells #[.int .i32 r, .int .i64 s.sf, .int .i64 s.sb, .int .i64 s.sx, .int .i32 0, .int .i64 s.sf, .int .i64 s.sb, .int .i64 s.sx] 63) hb
        have hg := heap_alloc_new _ (.cells #[.int .i32 r, .int .i64 s.sf, .int .i64 s.sb, .int .i64 s.sx, .int .i32 0, .int .i64 s.sf, .int .i64 s.sb, .int .i64 s.sx] 63) |> al_at k1
        have k2 := k1.alloc k1.size (.cells #[.int .i32 r, .int .i64 s.sf, .int .i64 s.sb, .int .i64 s.sx, .int .i32 0, .int .i64 s.sf, .int .i64 s.sb, .int .i64 s.sx] 63)
        have e2 := next4 ak e1
        clear ak
        refine hK.out _ _ e2 (fun hHeld => ?_)
        clear hK K
        (try simp only [Act.put, List.setIfInBounds_toArray, List.set_cons_zero, List.set_cons_succ])
        generalize Z1.alloc (.cells #[.int .i32 r, .int .i64 s.sf, .int .i64 s.sb, .int .i64 s.sx, .int .i32 0, .int .i64 s.sf, .int .i64 s.sb, .int .i64 s.sx] 63) = Z2 at *
        refine wpAnyH_ready (rs := [15]) (by kernel_rfl) (by simp) ?_
        refine AllReadyH.cons (o := _) rfl (fun K hK => ?_) <| AllReadyH.nil
        · go_simp
          refine (HWD.out _ (TX.out _ k2)).mono ?_
          rintro e Z3 ⟨rfl, bv⟩
          have k3 := k2.trans (bv.mono k2.size)
          have e3 := next4 bv e2
          replace hg := Grd.carry hg bv
          replace hb := Grd.carry hb bv
          clear bv
          go_wp2_with fail
          refine hK.out _ _ e3 (fun hHeld => ?_)
          clear hK K
          (try simp only [Act.put, List.setIfInBounds_toArray, List.set_cons_zero, List.set_cons_succ])
          refine wpAnyH_take (i := 16) (oi := _) (v := ?_) rfl (by kernel_rfl) (by kernel_rfl) (by kernel_rfl) (fun _ _ _ h => h) (Or.inl ⟨by rfl, ?_⟩) hHeld ?_
          rotate_left
          · intro w hSw
            (try dsimp only at hSw)
            go_simp
            (try with_reducible rfl)
          (try simp only [Act.put, List.setIfInBounds_toArray, List.set_cons_zero, List.set_cons_succ])
          have fb := Put.cell_one' hb
          have ff := Grd.frozen_of hb 0
          refine wpAnyH_ready (rs := [18]) (by kernel_rfl) (by simp) ?_
          refine AllReadyH.cons (o := _) rfl (fun K hK => ?_) AllReadyH.nil
          go_simp
          refine hK.out _ _ (off4 hb e3 (Nat.ne_of_gt (Nat.lt_of_lt_of_le l1 lb)) (Nat.ne_of_gt (Nat.lt_of_lt_of_le l2 lb))) (fun hHeld => ?_)
          clear hK K
          (try simp only [Act.put, List.setIfInBounds_toArray, List.set_cons_zero, List.set_cons_succ])
          refine wpAnyH_done (by kernel_rfl) ?_ _
          refine NoPanic.normal ?_
          go_wp2_with fail
          go_meet
          exact ⟨_, _, rfl, brush_of HMC.out hb hg k3 lb⟩
      · go_simp
        refine (HWD.out _ (TX.out _ k1)).mono ?_
        rintro e Z2 ⟨rfl, bv⟩
        have k2 := k1.trans (bv.mono k1.size)
        have e2 := next4 bv e1
        replace hb := Grd.carry hb bv
        clear bv
        go_wp2_with fail
        refine hK.out _ _ e2 (fun hHeld => ?_)
        clear hK K
        (try simp only [Act.put, List.setIfInBounds_toArray, List.set_cons_zero, List.set_cons_succ])
        refine wpAnyH_ready (rs := [13]) (by kernel_rfl) (by simp) ?_
        refine AllReadyH.cons (o := _) rfl (fun K hK => ?_) <| AllReadyH.nil
        · go_simp
          have ak := al_below (.cells #[.int .i32 r, .int .i64 s.sf, .int .i64 s.sb, .int .i64 s.sx, .int .i32 0, .int .i64 s.sf, .int .i64 s.sb, .int .i64 s.sx] 63) k2
          replace hb := al_old (.cells #[.int .i32 r, .int .i64 s.sf, .int .i64 s.sb, .int .i64 s.sx, .int .i32 0, .int .i64 s.sf, .int .i64 s.sb, .int .i64 s.sx] 63) hb
          have hg := heap_alloc_new _ (.cells #[.int .i32 r, .int .i64 s.sf, .int .i64 s.sb, .int .i64 s.sx, .int .i32 0, .int .i64 s.sf, .int .i64 s.sb, .int .i64 s.sx] 63) |> al_at k2
          have k3 := k2.alloc k2.size (.cells #[.int .i32 r, .int .i64 s.sf, .int .i64 s.sb, .int .i64 s.sx, .int .i32 0, .int .i64 s.sf, .int .i64 s.sb, .int .i64 s.sx] 63)
          have e3 := next4 ak e2
          clear ak
          refine hK.out _ _ e3 (fun hHeld => ?_)
          clear hK K
          (try simp only [Act.put, List.setIfInBounds_toArray, List.set_cons_zero, List.set_cons_succ])
          generalize Z2.alloc (.cells #[.int .i32 r, .int .i64 s.sf, .int .i64 s.sb, .int .i64 s.sx, .int .i32 0, .int .i64 s.sf, .int .i64 s.sb, .int .i64 s.sx] 63) = Z3 at *
          refine wpAnyH_take (i := 16) (oi := _) (v := ?_) rfl (by kernel_rfl) (by kernel_rfl) (by kernel_rfl) (fun _ _ _ h => h) (Or.inl ⟨by rfl, ?_⟩) hHeld ?_
          rotate_left
          · intro w hSw
            (try dsimp only at hSw)
            go_simp
            (try with_reducible rfl)
          (try simp only [Act.put, List.setIfInBounds_toArray, List.set_cons_zero, List.set_cons_succ])
          have fb := Put.cell_one' hb
          have ff := Grd.frozen_of hb 0
          refine wpAnyH_ready (rs := [18]) (by kernel_rfl) (by simp) ?_
          refine AllReadyH.cons (o := _) rfl (fun K hK => ?_) AllReadyH.nil
          go_simp
          refine hK.out _ _ (off4 hb e3 (Nat.ne_of_gt (Nat.lt_of_lt_of_le l1 lb)) (Nat.ne_of_gt (Nat.lt_of_lt_of_le l2 lb))) (fun hHeld => ?_)
          clear hK K
          (try simp only [Act.put, List.setIfInBounds_toArray, List.set_cons_zero, List.set_cons_succ])
          refine wpAnyH_done (by kernel_rfl) ?_ _
          refine NoPanic.normal ?_
          go_wp2_with fail
          go_meet
          exact ⟨_, _, rfl, brush_of HMC.out hb hg k3 lb⟩
  case rest =>
    obtain ⟨Bc, g, rfl, lb, hb, hM, kx⟩ := hcut
    have HM : Hid (CellsAt wc g 0 (cellsW (s.sf, s.sb, s.sx) r)) := hM
    have d0 := cell_stay kx q1
    have d4 := cell_stay kx c4
    have fb := cell_one' hb
    have HKC : Hid (Below W.heap.size W wc) := HKB.out.trans (kx.mono HKB.out.size)
    have HR := HA.out wc.drew Bc g (HKC.out.drew) d0 fb HM.out
    clear q1 c4 c6 c7 c8 hb hM kx HM fb HA
    go_upto_region 2 with fail
    go_region_with (first | (go_at_call 135; refine HR.mono ?_; rintro e V ⟨rfl, hV, bV, fV⟩))
    all_goals go_wp2_with fail
    all_goals go_end0
    all_goals exact ⟨rfl, hV, (HKC.out.drew.mono hNW).trans bV, (Framed.of_below HKC.out.drew).trans fV⟩
end Put
end Go.Proofs.YtnkeahfcpbepjaaDoor

/- printRune. -/
namespace Go.Proofs.YtnkeahfcpbepjaaDoor
open Go.ChangeShapes Go.WideShapes Go.ChangeAt Go.RowKit
namespace Put
open Grd (C SliceAt CellsAt gridErr z0 nilV flat rowsL)
open Sty (isSt)
open Txt (wd)
def fitsB (s : Scr) (k : Int) : Bool := decide (k ≤ s.w - s.x)
/-- Does a rune of k cells begin a new row? -/
def brkB (s : Scr) (k : Int) : Bool := s.late || (hasB s.modes 4 && !fitsB s k)
theorem other_int : Other 3 := by unfold Other; decide
theorem plain_fits : Plain 101 := by
  intro args W
  kernel_rfl
set_option maxHeartbeats 1000000 in
theorem fits_any (W : World) (M N p Bw Bp : Nat) (s : Scr) (rows : List (List C)) (k : Int) (hS : ShAt 109 W M N p s rows) (hw : W.cell? ⟨Bw, 0, none⟩ = some (.int .i64 k)) (hp : W.cell? ⟨Bp, 0, none⟩ = some (.pointer (some ⟨p, 0, none⟩))) (h0 : 0 ≤ s.x) (h1 : s.x ≤ 120) (w1 : 1 ≤ s.w) (w2 : s.w ≤ 120) :
    Calls Tryd.prog 101 #[.pointer (some ⟨Bw, 0, none⟩), .pointer (some ⟨Bp, 0, none⟩)] W fun e W' => e = .returned (.bool (fitsB s k)) ∧ W' = W.drew := by
  obtain ⟨c0, c1, c3, c4, c5, c9, c10, c11, c19, f⟩ := hS.words
  clear c1 c4 c5 c9 c10 c11 c19 f hS
  have hwr : IntKind.i64.wrap (s.w - s.x) = s.w - s.x := wrap_id _ (by omega) (by omega)
  unfold fitsB
  go_enter Tryd.func101, Tryd.ntmps101
  go_upto_region 1 with fail
  go_region
  go_wp2_with fail
  go_ret
  exact ⟨rfl, rfl⟩
/-- What printRune's own variables say: where its sheet is, and how wide its rune. -/
structure Own (X : World) (p Bp Bw : Nat) (k : Int) : Prop where
  bp : X.heap[Bp]? = some (.cells #[.pointer (some ⟨p, 0, none⟩)] 82 (0, 0))
  bw : X.heap[Bw]? = some (.cells #[.int .i64 k] 3 (0, 0))
theorem Own.next {X Y : World} {p Bp Bw : Nat} {k : Int} (h : Own X p Bp Bw k) (hf : Framed X Y) : Own Y p Bp Bw k := ⟨hf _ _ h.bp (other_cells other_ptr), hf _ _ h.bw (other_cells other_int)⟩
/-- All that stays true on the way through printRune. -/
structure Way (W X : World) (M N p Bp Bw : Nat) (k : Int) (s : Scr) (rows : List (List C)) : Prop where
  o : Own X p Bp Bw k
  s : ShAt 109 X M N p s rows
  b : Below N W X
  f : Framed W X
theorem Way.ran {W X Y : World} {M N p Bp Bw : Nat} {k : Int} {s s' : Scr} {rows rows' : List (List C)} {e : Ending} (h : Way W X M N p Bp Bw k s rows) (hr : Ran X M N p s' rows' e Y) : Way W Y M N p Bp Bw k s' rows' := ⟨h.o.next hr.2.2.2, hr.2.1, h.b.trans hr.2.2.1, h.f.trans hr.2.2.2⟩
theorem Way.drew {W X : World} {M N p Bp Bw : Nat} {k : Int} {s : Scr} {rows : List (List C)} (h : Way W X M N p Bp Bw k s rows) : Way W X.drew M N p Bp Bw k s rows := ⟨h.o.next (Framed.of_below ((Below.refl _ _).drew)), h.s.drew, h.b.drew, h.f.trans (Framed.of_below ((Below.refl _ _).drew))⟩
theorem Way.cells {W X : World} {M N p Bp Bw : Nat} {k : Int} {s : Scr} {rows : List (List C)} (h : Way W X M N p Bp Bw k s rows) : X.cell? ⟨Bp, 0, none⟩ = some (.pointer (some ⟨p, 0, none⟩)) ∧ X.cell? ⟨Bw, 0, none⟩ = some (.int .i64 k) := ⟨cell_one' h.o.bp, cell_one' h.o.bw⟩
theorem way_start {W W1 : World} {M N p : Nat} {k : Int} {s : Scr} {rows : List (List C)} (hS : ShAt 109 W M N p s rows) (kb : Below W.heap.size W (W.alloc (.cells #[.pointer (some ⟨p, 0, none⟩)] 82))) (hx : (W.alloc (.cells #[.pointer (some ⟨p, 0, none⟩)] 82)).heap[W.heap.size]? = some (.cells #[.pointer (some ⟨p, 0, none⟩)] 82 (0, 0))) (b1 : Below (W.alloc (.cells #[.pointer (some ⟨p, 0, none⟩)] 82)).heap.size (W.alloc (.cells #[.pointer (some ⟨p, 0, none⟩)] 82)) W1) :
    Way W (W1.alloc (.cells #[.int .i64 k] 3)) M N p W.heap.size W1.heap.size k s rows := by
  have hb : Below W.heap.size W (W1.alloc (.cells #[.int .i64 k] 3)) := (kb.trans (b1.mono kb.size)).alloc (kb.trans (b1.mono kb.size)).size _
  have hNW : N ≤ W.heap.size := by
    obtain ⟨cv, tv, gv, rv, gvs, vs, h⟩ := hS
    have := h.lo
    have := heap_lt h.blk
    omega
  refine ⟨⟨?_, heap_alloc_new W1 _⟩, hS.next hb, hb.mono hNW, Framed.of_below hb⟩
  have h1 := Grd.carry hx b1
  exact (Below.heap_alloc W1 _ _ (heap_lt h1)).trans h1
set_option maxHeartbeats 4000000 in
set_option maxRecDepth 100000 in
theorem print_skip (W : World) (M N p : Nat) (s : Scr) (rows : List (List C)) (r : Int) (hT : Txt.Tab W) (hS : ShAt 109 W M N p s rows) (hsk : wd r = 0 ∨ s.w < wd r) :
    Calls Tryd.prog 59 #[.pointer (some ⟨p, 0, none⟩), .int .i32 r] W (Ran W M N p s rows) := by
  have kb : Below W.heap.size W (W.alloc (.cells #[.pointer (some ⟨p, 0, none⟩)] 82)) := (Below.refl _ _).alloc (Nat.le_refl _) _
  have hx0 := heap_alloc_new W (.cells #[.pointer (some ⟨p, 0, none⟩)] 82)
  have HW := Txt.width_any r (W.alloc (.cells #[.pointer (some ⟨p, 0, none⟩)] 82)) (Grd.Tab.next hT kb)
  have HX0 : Hid _ := hx0
  have HKB : Hid _ := kb
  have HS : Hid (ShAt 109 W M N p s rows) := hS
  clear hx0 kb hS hT
  generalize wd r = k at *
  by_cases k0 : k = 0
  · have q0 : (k == 0) = true := by rw [beq_iff_eq]; exact k0
    clear k0 hsk
    go_enter Tryd.func59, Tryd.ntmps59
    go_wp2_with fail
    refine HW.mono ?_
    rintro e W1 ⟨rfl, b1⟩
    have hw := way_start HS.out HKB.out HX0.out b1 (k := k)
    clear HW b1 HX0 HKB
    go_upto_region 2 with fail
    generalize hB : W1.heap.size = Bw at *
    clear hB
    generalize (W1.alloc (.cells #[.int .i64 k] 3)) = X at *
    have HWY : Hid (Way W X M N p W.heap.size Bw k s rows) := hw
    obtain ⟨cp, cw⟩ := hw.cells
    clear hw HS
    go_region
    go_wp2_with fail
    refine bodyPost_ret (v := .tuple #[]) (results_none rfl _ _ _) rfl ?_
    exact ⟨rfl, HWY.out.drew.s, HWY.out.drew.b, HWY.out.drew.f⟩
  · have q0 : (k == 0) = false := by rw [beq_eq_false_iff_ne]; exact k0
    have q1 : s.w < k := by omega
    clear k0 hsk
    go_enter Tryd.func59, Tryd.ntmps59
    go_wp2_with fail
    refine HW.mono ?_
    rintro e W1 ⟨rfl, b1⟩
    have hw := way_start HS.out HKB.out HX0.out b1 (k := k)
    clear HW b1 HX0 HKB
    go_upto_region 2 with fail
    generalize hB : W1.heap.size = Bw at *
    clear hB
    generalize (W1.alloc (.cells #[.int .i64 k] 3)) = X at *
    have HWY : Hid (Way W X M N p W.heap.size Bw k s rows) := hw
    obtain ⟨cp, cw⟩ := hw.cells
    obtain ⟨c0, -⟩ := hw.s.words
    clear hw HS
    go_region
    go_wp2_with fail
    refine bodyPost_ret (v := .tuple #[]) (results_none rfl _ _ _) rfl ?_
    exact ⟨rfl, HWY.out.drew.s, HWY.out.drew.b, HWY.out.drew.f⟩
/-- What a new row gives: nothing, where none is begun. -/
structure Fed (W : World) (M N p : Nat) (k : Int) (s s1 : Scr) (rows rows1 : List (List C)) : Prop where
  go : brkB s k = true → ∀ X, Below N W X → ShAt 109 X M N p { s with x := 0 } rows → Calls Tryd.prog 103 #[.pointer (some ⟨p, 0, none⟩)] X (Ran X M N p s1 rows1)
  no : brkB s k = false → s1 = s ∧ rows1 = rows
  w : s1.w = s.w
  x0 : 0 ≤ s1.x
  x1 : s1.x ≤ 120
set_option maxHeartbeats 8000000 in
set_option maxRecDepth 100000 in
theorem print_main (W : World) (M N p : Nat) (s s1 : Scr) (rows rows1 rows2 rows3 : List (List C)) (r : Int) (hT : Txt.Tab W) (hS : ShAt 109 W M N p s rows) (hk0 : wd r ≠ 0) (hkw : wd r ≤ s.w) (h0 : 0 ≤ s.x) (h1 : s.x ≤ 120) (w1 : 1 ≤ s.w) (w2 : s.w ≤ 120)
    (hF : Fed W M N p (wd r) s s1 rows rows1) (hft : fitsB s1 (wd r) = true)
    (hR : hasB s1.modes 1 = true → ∀ X, Below N W X → ShAt 109 X M N p s1 rows1 → Calls Tryd.prog 104 #[.pointer (some ⟨p, 0, none⟩), .int .i64 (wd r)] X (Ran X M N p s1 rows2)) (hR2 : hasB s1.modes 1 = false → rows2 = rows1)
    (hW : ∀ X, Below N W X → ShAt 109 X M N p s1 rows2 → Calls Tryd.prog 105 #[.pointer (some ⟨p, 0, none⟩), .int .i32 r] X (Ran X M N p s1 rows3)) :
    Calls Tryd.prog 59 #[.pointer (some ⟨p, 0, none⟩), .int .i32 r] W (Ran W M N p { advS s1 (wd r) with last := r } rows3) := by
  have kb : Below W.heap.size W (W.alloc (.cells #[.pointer (some ⟨p, 0, none⟩)] 82)) := (Below.refl _ _).alloc (Nat.le_refl _) _
  have hx0 := heap_alloc_new W (.cells #[.pointer (some ⟨p, 0, none⟩)] 82)
  have HW := Txt.width_any r (W.alloc (.cells #[.pointer (some ⟨p, 0, none⟩)] 82)) (Grd.Tab.next hT kb)
  have HX0 : Hid _ := hx0
  have HKB : Hid _ := kb
  have HS : Hid (ShAt 109 W M N p s rows) := hS
  have hkr := Txt.wd_range r
  have HF : Hid (Fed W M N p (wd r) s s1 rows rows1) := hF
  have HFT : Hid (fitsB s1 (wd r) = true) := hft
  have HR : Hid (hasB s1.modes 1 = true → ∀ X, Below N W X → ShAt 109 X M N p s1 rows1 → Calls Tryd.prog 104 #[.pointer (some ⟨p, 0, none⟩), .int .i64 (wd r)] X (Ran X M N p s1 rows2)) := hR
  have HR2 : Hid (hasB s1.modes 1 = false → rows2 = rows1) := hR2
  have HWT : Hid (∀ X, Below N W X → ShAt 109 X M N p s1 rows2 → Calls Tryd.prog 105 #[.pointer (some ⟨p, 0, none⟩), .int .i32 r] X (Ran X M N p s1 rows3)) := hW
  clear hx0 kb hS hT hF hft hR hR2 hW
  generalize wd r = k at *
  have q0 : (k == 0) = false := by rw [beq_eq_false_iff_ne]; exact hk0
  have q1 : ¬ s.w < k := by omega
  have hpf := plain_fits
  unfold Plain at hpf
  go_enter Tryd.func59, Tryd.ntmps59
  go_wp2_with fail
  refine HW.mono ?_
  rintro e W1 ⟨rfl, b1⟩
  have hw := way_start HS.out HKB.out HX0.out b1 (k := k)
  clear HW b1 HX0 HKB
  go_upto_region 2 with fail
  generalize hB : W1.heap.size = Bw at *
  clear hB
  generalize (W1.alloc (.cells #[.int .i64 k] 3)) = X at *
  have HWY : Hid (Way W X M N p W.heap.size Bw k s rows) := hw
  obtain ⟨cp, cw⟩ := hw.cells
  obtain ⟨c0, -⟩ := hw.s.words
  clear hw HS
  go_region
  have HW2 : Hid (Way W X.drew M N p W.heap.size Bw k s rows) := HWY.out.drew
  clear cp cw c0 HWY
  generalize X.drew = Y at *
  go_upto_region 4 with fail
  go_cut [34] from 6 to 34 (fun c wx => c = .bool (brkB s k) ∧ Way W wx M N p W.heap.size Bw k s rows)
  case first =>
    have hw := HW2.out
    obtain ⟨cp, cw⟩ := hw.cells
    obtain ⟨c0, -, c3, -, c5, -⟩ := hw.s.words
    have HH := has_any 4 Y hw.s
    have HFI := fits_any Y M N p Bw W.heap.size s rows k hw.s cw cp h0 h1 w1 w2
    clear hw
    cases hl : s.late with
    | true =>
      have HB : Hid (brkB s k = true) := by unfold Hid brkB; rw [hl]; rfl
      rw [hl] at c5
      go_wp2_with fail
      go_meet
      exact ⟨by rw [HB.out], HW2.out⟩
    | false =>
      rw [hl] at c5
      cases hb : hasB s.modes 4 with
      | false =>
        have HB : Hid (brkB s k = false) := by unfold Hid brkB; rw [hl, hb]; rfl
        rw [hb] at HH
        go_wp2_with fail
        refine HH.mono ?_
        rintro e V ⟨rfl, hv⟩
        subst hv
        go_wp2_with fail
        go_meet
        exact ⟨by rw [HB.out], HW2.out⟩
      | true =>
        have HB : Hid (brkB s k = !fitsB s k) := by unfold Hid brkB; rw [hl, hb]; rfl
        rw [hb] at HH
        generalize fitsB s k = fb at *
        go_wp2_with fail
        refine HH.mono ?_
        rintro e V ⟨rfl, hv⟩
        subst hv
        go_wp2_with fail
        refine HFI.mono ?_
        rintro e V ⟨rfl, hv⟩
        subst hv
        go_wp2_with fail
        go_meet
        exact ⟨by rw [HB.out], HW2.out.drew⟩
  case rest =>
    obtain ⟨rfl, hw3⟩ := hcut
    have HW3 : Hid (Way W wc M N p W.heap.size Bw k s rows) := hw3
    clear hw3 HW2
    go_upto_if 34 with fail
    go_cut [] from 6 to 40 (fun wx => Way W wx M N p W.heap.size Bw k s1 rows1)
    case first =>
      cases hb : brkB s k with
      | true =>
        obtain ⟨cp, cw⟩ := HW3.out.cells
        obtain ⟨-, -, c3, -, -, -, -, -, -, f⟩ := HW3.out.s.words
        have f3 := f 3
        obtain ⟨hS4, hB4, hF4⟩ := HW3.out.s.put 3 (.int .i64 0) (s' := { s with x := 0 }) (fun _ _ _ _ => rfl) rfl rfl
        have HW4 : Hid (Way W (wc.setCell ⟨p, 3, none⟩ (.int .i64 0)) M N p W.heap.size Bw k { s with x := 0 } rows) := HW3.out.ran (e := .returned (.tuple #[])) ⟨rfl, hS4, hB4, hF4⟩
        have HFE := HF.out.go hb _ HW4.out.b HW4.out.s
        have d1 := HW4.out.cells.1
        clear hS4 hB4 hF4 f cw
        go_wp2_with fail
        refine HFE.mono ?_
        rintro e V hran
        have hrn := hran
        obtain ⟨rfl, -⟩ := hrn
        have HW5 : Hid (Way W V M N p W.heap.size Bw k s1 rows1) := HW4.out.ran hran
        clear hran cp c3 f3 d1
        go_wp2_with fail
        go_meet
        exact HW5.out
      | false =>
        obtain ⟨e1, e2⟩ := HF.out.no hb
        go_wp2_with fail
        go_meet
        rw [e1, e2]
        exact HW3.out
    case rest =>
      have HW5 : Hid (Way W wc M N p W.heap.size Bw k s1 rows1) := hcut
      clear hcut HW3
      have hw5 := HW5.out
      obtain ⟨cp, cw⟩ := hw5.cells
      have x0 := HF.out.x0
      have x1 := HF.out.x1
      have ew := HF.out.w
      have HEW : Hid (s1.w = s.w) := ew
      have HFI := fits_any wc M N p Bw W.heap.size s1 rows1 k hw5.s cw cp x0 x1 (by omega) (by omega)
      rw [HFT.out] at HFI
      clear hw5 cp cw ew
      go_wp2_with fail
      refine HFI.mono ?_
      rintro e V ⟨rfl, hv⟩
      subst hv
      have HW6 : Hid (Way W wc.drew M N p W.heap.size Bw k s1 rows1) := HW5.out.drew
      clear HFI HW5
      generalize wc.drew = Z at *
      have hw6 := HW6.out
      obtain ⟨cp, cw⟩ := hw6.cells
      have HH := has_any 1 Z hw6.s
      clear hw6
      go_wp2_with fail
      refine HH.mono ?_
      rintro e V ⟨rfl, hv⟩
      subst hv
      clear HH
      go_upto_if 45 with fail
      go_cut [] from 6 to 48 (fun wx => Way W wx M N p W.heap.size Bw k s1 rows2)
      case first =>
        cases hb : hasB s1.modes 1 with
        | true =>
          have HRM := HR.out hb _ HW6.out.b HW6.out.s
          go_wp2_with fail
          refine HRM.mono ?_
          rintro e V hran
          have hrn := hran
          obtain ⟨rfl, -⟩ := hrn
          have HW7 : Hid (Way W V M N p W.heap.size Bw k s1 rows2) := HW6.out.ran hran
          clear hran
          go_wp2_with fail
          go_meet
          exact HW7.out
        | false =>
          go_wp2_with fail
          go_meet
          rw [HR2.out hb]
          exact HW6.out
      case rest =>
        have HW7 : Hid (Way W wc M N p W.heap.size Bw k s1 rows2) := hcut
        clear hcut HW6 cp cw
        obtain ⟨cp, cw⟩ := HW7.out.cells
        have HWR := HWT.out _ HW7.out.b HW7.out.s
        go_wp2_with fail
        refine HWR.mono ?_
        rintro e V hran
        have hrn := hran
        obtain ⟨rfl, -⟩ := hrn
        have HW8 : Hid (Way W V M N p W.heap.size Bw k s1 rows3) := HW7.out.ran hran
        clear hran HW7 HWR cp cw
        obtain ⟨cp, cw⟩ := HW8.out.cells
        have HAD := advance_any V M N p s1 rows3 k HW8.out.s x0 x1 (by omega) (by omega) (by have := HEW.out; omega) (by have := HEW.out; omega)
        go_wp2_with fail
        refine HAD.mono ?_
        rintro e V2 hran
        have hrn := hran
        obtain ⟨rfl, -⟩ := hrn
        have HW9 : Hid (Way W V2 M N p W.heap.size Bw k (advS s1 k) rows3) := HW8.out.ran hran
        clear hran HW8 HAD cp cw
        obtain ⟨cp, cw⟩ := HW9.out.cells
        obtain ⟨-, -, -, -, -, -, -, -, c19, f⟩ := HW9.out.s.words
        have f19 := f 19
        obtain ⟨hS4, hB4, hF4⟩ := HW9.out.s.put 19 (.int .i32 r) (s' := { advS s1 k with last := r }) (fun _ _ _ _ => rfl) rfl rfl
        have HWZ : Hid (Way W (V2.setCell ⟨p, 19, none⟩ (.int .i32 r)) M N p W.heap.size Bw k { advS s1 k with last := r } rows3) := HW9.out.ran (e := .returned (.tuple #[])) ⟨rfl, hS4, hB4, hF4⟩
        clear hS4 hB4 hF4 f
        go_wp2_with fail
        go_end0
        exact ⟨rfl, HWZ.out.s, HWZ.out.b, HWZ.out.f⟩
end Put
end Go.Proofs.YtnkeahfcpbepjaaDoor

/- slices.Delete of one row. -/
namespace Go.Proofs.YtnkeahfcpbepjaaDoor
open Go.ChangeShapes Go.WideShapes Go.ChangeAt Go.RowKit
namespace Put
open Grd (C nilV)
def delRen : Go.Shelf.Ren := ⟨fun | 45 => 140 | n => n, fun | 0 => 0 | 3 => 3 | 4 => 4 | 22 => 30 | 23 => 22 | n => n, fun | n => n⟩
theorem delLays : SlLaysE.n45 Tryd.prog delRen := {
  mixed := by kernel_rfl
  f45 := Exists.intro "slices.Delete[[][]trellis/api.Cell,[]trellis/api.Cell]" ⟨by kernel_rfl, Tryd.func140.trans (congrArg some (by kernel_rfl))⟩
  t0 := Tryd.underlying0
  a0 := Tryd.isAgg0
  z0 := Tryd.sizeOf0
  v0 := Tryd.zeroValue0
  t3 := Tryd.underlying3
  a3 := Tryd.isAgg3
  z3 := Tryd.sizeOf3
  v3 := Tryd.zeroValue3
  t4 := Tryd.underlying4
  a4 := Tryd.isAgg4
  z4 := Tryd.sizeOf4
  v4 := Tryd.zeroValue4
  t22 := Tryd.underlying30
  a22 := Tryd.isAgg30
  z22 := Tryd.sizeOf30
  v22 := Tryd.zeroValue30
  a23 := Tryd.isAgg22
  z23 := Tryd.sizeOf22 }
/-- A slice's words. -/
abbrev Sl := Option Addr × Nat × Nat
def encS (x : Sl) : Value := .slice x.1 x.2.1 x.2.2
theorem encS_one : OneCell encS := fun _ => rfl
def IsSl (v : Value) : Prop := ∃ x : Sl, v = encS x
theorem sls_of : ∀ (vs : List Value), (∀ v, v ∈ vs → IsSl v) → ∃ zs : List Sl, vs = zs.map encS
  | [], _ => ⟨[], rfl⟩
  | v :: vs, h => by
    obtain ⟨x, hx⟩ := h v (by simp)
    obtain ⟨zs, hz⟩ := sls_of vs fun u hu => h u (by simp [hu])
    exact ⟨x :: zs, by rw [hx, hz]; rfl⟩
theorem info_rows1 : (Tryd.prog.info? 22).map (·.size) = some 1 := by kernel_rfl
theorem putRow_other {w : World} {g q k : Nat} {d : Array Sl} (h : k ≠ g) : (Sort.putRow encS (Sort.ahead w q) g 0 d).heap[k]? = w.heap[k]? := by
  simp [Sort.putRow, Sort.mapBlock, Sort.ahead, Array.getElem?_modify, Ne.symm h]
/-- One row goes. -/
theorem delete_own (N g n cap i : Nat) (vs : List Value) (w : World) (h : w.ownsRow N 22 1 (.slice (some ⟨g, 0, none⟩) n cap) n vs) (hv : ∀ v, v ∈ vs → IsSl v) (hi : i < n) :
    Calls Tryd.prog 140 #[.slice (some ⟨g, 0, none⟩) n cap, .int .i64 (i : Int), .int .i64 ((i + 1 : Nat) : Int)] w fun e w' => e = .returned (.slice (some ⟨g, 0, none⟩) (n - 1) cap) ∧ w'.ownsRow N 22 1 (.slice (some ⟨g, 0, none⟩) (n - 1) cap) (n - 1) (vs.eraseIdx i) ∧ (∀ k, k ≠ g → w'.heap[k]? = w.heap[k]?) ∧ Below g w w' := by
  obtain ⟨zs, rfl⟩ := sls_of vs hv
  obtain ⟨g', cap', e0, -, -, h1, h2, hl, hH⟩ := Lib.holds_of_ownsRow h (by intro e; cases e)
  injection e0 with e1 _ e3
  injection e1 with e1
  injection e1 with e1
  subst e1 e3
  obtain ⟨i0, hi0, hz⟩ := Option.map_eq_some_iff.1 info_rows1
  have key := AnyE.slices_Delete delLays encS encS_one (none, 0, 0) Tryd.zeroValue22 i0 hi0 hz g 0 cap i (i + 1) zs.toArray w hH (by simpa [hl] using h1) (by unfold maxLen at h2; omega) (by omega) (by simp; omega)
  have hsz : zs.toArray.size = n := by simp [hl]
  rw [hsz, Nat.add_sub_cancel_left] at key
  refine Calls.mono key ?_
  rintro e w' ⟨rfl, q, rfl⟩
  refine ⟨rfl, ?_, fun k hk => putRow_other hk, Lib.below_putRow (Below.refl _ _) (Nat.le_refl _)⟩
  have hlen : (zs.take i ++ zs.drop (i + 1) ++ List.replicate 1 ((none, 0, 0) : Sl)).length = n := by simp; omega
  have := Lib.ownsRow_putRow (q := q) (k := n - 1) h hlen (by omega)
  have e : (zs.take i ++ zs.drop (i + 1) ++ List.replicate 1 ((none, 0, 0) : Sl)).take (n - 1) = zs.eraseIdx i := by
    rw [List.eraseIdx_eq_take_drop_succ, List.take_left' (by simp; omega)]
  rw [e] at this
  have e2 : (zs.map encS).eraseIdx i = (zs.eraseIdx i).map encS := by rw [List.eraseIdx_eq_take_drop_succ, List.eraseIdx_eq_take_drop_succ, List.map_append, List.map_take, List.map_drop]
  rw [e2]
  exact this
end Put
end Go.Proofs.YtnkeahfcpbepjaaDoor

/- slices.Insert of one row, where there is room. -/
namespace Go.Proofs.YtnkeahfcpbepjaaDoor
open Go.ChangeShapes Go.WideShapes Go.ChangeAt Go.RowKit
namespace Put
open Grd (C nilV)
theorem wp_copyR {P : Program} (w : World) {o : Oper} {a : Act} {K : Act → World → Prop} {Q : Exit → Act → World → Prop} (d s : Operand) (t t' : TypeId)
    (ho : o.op = .call { callee := .builtin .copy, args := #[d, s], argTypes := #[t, t'] }) (v u : Value) (hd : a.eval d = v) (hs : a.eval s = u) {v' : Value} {w' : World}
    (hr : (Builtin.copy_ #[t, t'] o.type #[v, u]).run P w = .ok v' w') (h : K (a.put o.dst v') w') : o.wp P a w K Q := by
  unfold Oper.wp execOp
  simp only [ho, resolve, invoke, builtin, Sem.run_bind, Sem.run_pure, Result.andThen_ok, List.map_toArray, List.map_cons, List.map_nil, hd, hs, hr]
  exact h
theorem wpList_copyR {P : Program} (w : World) {ops : Array Oper} {rest : List Oper} {o : Oper} {a : Act} {Q : Exit → Act → World → Prop} (hgd : o.guard = none) (d s : Operand) (t t' : TypeId)
    (ho : o.op = .call { callee := .builtin .copy, args := #[d, s], argTypes := #[t, t'] }) (v u : Value) (hd : a.eval d = v) (hs : a.eval s = u) {v' : Value} {w' : World}
    (hr : (Builtin.copy_ #[t, t'] o.type #[v, u]).run P w = .ok v' w') (h : wpList P ops Q rest (a.put o.dst v') w') : wpList P ops Q (o :: rest) a w :=
  wpList_plain hgd fun _ hK => wp_copyR w d s t t' ho v u hd hs hr (hK _ _ h)
theorem step_copyR {P : Program} {ops : Array Oper} {o : Oper} {a : Act} {w : World} {K : Act → World → Prop} {Q : Exit → Act → World → Prop} {E : Prop}
    (hg : o.guard = none) (d x : Operand) (dT sT : TypeId) (hop : o.op = Op.call { callee := Callee.builtin Builtin.copy, args := #[d, x], argTypes := #[dT, sT] })
    (v u : Value) (hd : a.eval d = v) (hx : a.eval x = u) {v' : Value} {w' : World} (hr : (Builtin.copy_ #[dT, sT] o.type #[v, u]).run P w = .ok v' w') (hK : K (a.put o.dst v') w') :
    if Region.wanted o (yielded ops a.tmps) = true then Oper.wp P o a w K Q else E := by
  have hw : Region.wanted o (yielded ops a.tmps) = true := by simp [Region.wanted, hg]
  rw [if_pos hw]
  unfold Oper.wp
  simp [execOp, hop, resolve, invoke, builtin, hd, hx, hr, Result.andThen]
  exact hK
/-- Words set one behind the other. -/
def setL (cur : Array Value) (o : Nat) : List Value → Array Value
  | [] => cur
  | v :: r => setL (cur.setIfInBounds o v) (o + 1) r
theorem setL_size : ∀ (xs : List Value) (cur : Array Value) (o : Nat), (setL cur o xs).size = cur.size
  | [], _, _ => rfl
  | v :: r, cur, o => by
    show (setL (cur.setIfInBounds o v) (o + 1) r).size = _
    rw [setL_size r]
    simp
theorem setL_at : ∀ (xs : List Value) (cur : Array Value) (o j : Nat), j < cur.size → (setL cur o xs)[j]? = if o ≤ j ∧ j < o + xs.length then xs[j - o]? else cur[j]?
  | [], cur, o, j, h => by
    rw [if_neg (by simp)]
    rfl
  | v :: r, cur, o, j, h => by
    show (setL (cur.setIfInBounds o v) (o + 1) r)[j]? = _
    rw [setL_at r _ _ j (by simpa using h)]
    by_cases h1 : o + 1 ≤ j ∧ j < o + 1 + r.length
    · rw [if_pos h1, if_pos (by simp; omega), show j - o = (j - (o + 1)) + 1 by omega]
      rfl
    · rw [if_neg h1]
      by_cases h2 : j = o
      · subst h2
        rw [if_pos (by simp)]
        simp [h]
      · rw [if_neg (by simp; omega), Array.getElem?_setIfInBounds_ne (Ne.symm h2)]
theorem setL_heap (g : Nat) (e : TypeId) : ∀ (xs : List Value) (w : World) (o : Nat) (cur : Array Value), w.heap[g]? = some (.cells cur e (0, 0)) → (w.setCells g o xs).heap[g]? = some (.cells (setL cur o xs) e (0, 0))
  | [], _, _, _, h => h
  | v :: r, w, o, cur, h => setL_heap g e r _ _ _ (heap_setCell_same w g o cur e v h)
/-- One row more. -/
theorem ins_list (cur : Array Value) (vs : List Value) (n i : Nat) (v : Value) (hl : vs.length = n) (hi : i ≤ n) (hs : n + 1 ≤ cur.size) (ht : cur.toList.take n = vs) : (setL (setL cur (i + 1) (vs.drop i)) i [v]).toList.take (n + 1) = vs.insertIdx i v := by
  apply List.ext_getElem?
  intro j
  have hc : ∀ k, k < n → cur[k]? = vs[k]? := fun k hk => by rw [← ht, List.getElem?_take_of_lt hk, Array.getElem?_toList]
  by_cases hj : j < n + 1
  · rw [List.getElem?_take_of_lt hj, Array.getElem?_toList, setL_at _ _ _ _ (by rw [setL_size]; omega), List.getElem?_insertIdx]
    by_cases h1 : j < i
    · rw [if_neg (by simp; omega), setL_at _ _ _ _ (by omega), if_neg (by simp; omega), if_pos h1, hc j (by omega)]
    · rw [if_neg h1]
      by_cases h2 : j = i
      · subst h2
        rw [if_pos (by simp), if_pos rfl, if_pos (by omega)]
        simp
      · rw [if_neg (by simp; omega), setL_at _ _ _ _ (by omega), if_pos (by simp; omega), if_neg h2, List.getElem?_drop]
        congr 1
        omega
  · rw [List.getElem?_eq_none (by simp; omega), List.getElem?_eq_none (by rw [List.length_insertIdx]; split <;> omega)]
theorem ins_end (cur : Array Value) (vs : List Value) (n : Nat) (v : Value) (hl : vs.length = n) (hs : n + 1 ≤ cur.size) (ht : cur.toList.take n = vs) : (setL cur n [v]).toList.take (n + 1) = vs.insertIdx n v := by
  have := ins_list cur vs n n v hl (Nat.le_refl _) hs ht
  rw [List.drop_of_length_le (by omega)] at this
  exact this
theorem heap_setCells_off (g k : Nat) (h : k ≠ g) : ∀ (xs : List Value) (o : Nat) (w : World), (w.setCells g o xs).heap[k]? = w.heap[k]? := fun xs o w => Grd.heap_setCells_ne _ k h xs o w
set_option maxHeartbeats 4000000 in
set_option maxRecDepth 100000 in
theorem insert_end (N g n cap vb vc : Nat) (vs : List Value) (v : Value) (w : World) (h : w.ownsRow N 22 1 (.slice (some ⟨g, 0, none⟩) n cap) n vs) (hsv : IsSl v) (hroom : n + 1 ≤ cap) (hvb : w.cell? ⟨vb, 0, none⟩ = some v) :
    Calls Tryd.prog 139 #[.slice (some ⟨g, 0, none⟩) n cap, .int .i64 (n : Int), .slice (some ⟨vb, 0, none⟩) 1 vc] w fun e w' => e = .returned (.slice (some ⟨g, 0, none⟩) (n + 1) cap) ∧ w'.ownsRow N 22 1 (.slice (some ⟨g, 0, none⟩) (n + 1) cap) (n + 1) (vs.insertIdx n v) ∧ (∀ k, k ≠ g → w'.heap[k]? = w.heap[k]?) ∧ Below g w w' := by
  obtain ⟨h0, ⟨h1, -⟩ | ⟨g', cap', cur, hv, hb, hg, hn, hm, hs, ht⟩⟩ := h
  · injection h1 with h1
    cases h1
  injection hv with e1 _ e3
  injection e1 with e1
  injection e1 with e1
  subst e1 e3
  rw [Nat.mul_one] at h0 hs ht
  obtain ⟨x, rfl⟩ := hsv
  have hc63 : cap ≤ 9223372036854775807 := by unfold maxLen at hm; omega
  obtain ⟨i0, hi0, hz⟩ := Option.map_eq_some_iff.1 info_rows1
  have hsrc : Src Tryd.prog 1 30 (.slice (some ⟨vb, 0, none⟩) 1 vc) 1 [encS x] w := Src.ofSlice w und_rows ⟨vb, 0, none⟩ 1 vc [encS x] (by simp) (fun j u hj => by
    rw [Addr.add_lit]
    match j, hj with
    | 0, hj => rw [← Option.some.inj hj]; exact hvb) (by simp [encS, Value.oneCell'])
  have hcell : ∀ j, j < 1 → (w.cell? ⟨g, 0 + n + j, none⟩).isSome = true := fun j hj => by
    simp only [World.cell?, hg]
    simp only [Option.isSome_none, Bool.false_eq_true, if_false]
    rw [Array.getElem?_eq_getElem (by omega)]
    rfl
  have hfz : ∀ j, j < 1 → w.frozen? ⟨g, 0 + n + j, none⟩ = false := fun j _ => by simp [World.frozen?, hg]
  have HE : Hid ((w.setCells g n [encS x]).ownsRow N 22 1 (.slice (some ⟨g, 0, none⟩) (n + 1) cap) (n + 1) (vs.insertIdx n (encS x)) ∧ (∀ k, k ≠ g → (w.setCells g n [encS x]).heap[k]? = w.heap[k]?) ∧ Below g w (w.setCells g n [encS x])) := by
    refine ⟨⟨by rw [List.length_insertIdx, if_pos (by omega)]; omega, .inr ⟨g, cap, _, rfl, hb, setL_heap g _ [encS x] w n cur hg, hroom, hm, by rw [setL_size]; omega, ?_⟩⟩, fun k hk => heap_setCells_off g k hk _ _ _, Grd.below_cells (Nat.le_refl _) _ _ _ (Below.refl _ _)⟩
    rw [Nat.mul_one]
    exact ins_end cur vs n (encS x) h0 (by omega) ht
  clear hg ht hs
  go_enter Tryd.func139, Tryd.ntmps139
  go_wp2_with (at_builtin; refine wpList_append_room1 _ rfl _ _ 30 30 rfl 22 _ _ und_rows info_rows g 0 n cap rfl _ rfl 1 [encS x] hsrc hroom (by simpa using hcell) (by simpa using hfz) ?_)
  go_ret
  exact ⟨rfl, HE.out⟩
theorem isSome_setC (b : Nat) (vs : List Value) (o : Nat) (w : World) (h : ∀ j, j < vs.length → (w.cell? ⟨b, o + j, none⟩).isSome = true) (k : Nat) (hk : (w.cell? ⟨b, k, none⟩).isSome = true) : ((w.setCells b o vs).cell? ⟨b, k, none⟩).isSome = true := by
  by_cases hin : o ≤ k ∧ k < o + vs.length
  · have := World.cell?_setCells_in b vs o w h (k - o) (by omega)
    rw [show o + (k - o) = k by omega] at this
    rw [this]
    simp
  · rw [World.cell?_setCells_out b vs o w ⟨b, k, none⟩ (fun _ _ => by show k < o ∨ o + vs.length ≤ k; omega)]
    exact hk
set_option maxHeartbeats 4000000 in
set_option maxRecDepth 100000 in
theorem insert_shift (N g n cap i vb vc : Nat) (vs : List Value) (v : Value) (w : World) (h : w.ownsRow N 22 1 (.slice (some ⟨g, 0, none⟩) n cap) n vs) (hvs : ∀ u, u ∈ vs → IsSl u) (hsv : IsSl v) (hi : i < n) (hroom : n + 1 ≤ cap) (hvb : w.heap[vb]? = some (.cells #[v] 22 (0, 0))) (hne : vb ≠ g) :
    Calls Tryd.prog 139 #[.slice (some ⟨g, 0, none⟩) n cap, .int .i64 (i : Int), .slice (some ⟨vb, 0, none⟩) 1 vc] w fun e w' => e = .returned (.slice (some ⟨g, 0, none⟩) (n + 1) cap) ∧ w'.ownsRow N 22 1 (.slice (some ⟨g, 0, none⟩) (n + 1) cap) (n + 1) (vs.insertIdx i v) ∧ (∀ k, k ≠ g → w'.heap[k]? = w.heap[k]?) ∧ Below g w w' := by
  obtain ⟨h0, ⟨h1, -⟩ | ⟨g', cap', cur, hv, hb, hg, hn, hm, hs, ht⟩⟩ := h
  · injection h1 with h1
    cases h1
  injection hv with e1 _ e3
  injection e1 with e1
  injection e1 with e1
  subst e1 e3
  rw [Nat.mul_one] at h0 hs ht
  have hsv1 : v.oneCell' = true := by obtain ⟨x, rfl⟩ := hsv; rfl
  have hv1 : ∀ u, u ∈ vs → u.oneCell' = true := fun u hu => by obtain ⟨x, rfl⟩ := hvs u hu; rfl
  have hc63 : cap ≤ 9223372036854775807 := by unfold maxLen at hm; omega
  have hcell : ∀ (W : World), W.heap[g]? = w.heap[g]? → ∀ j, j < cap → (W.cell? ⟨g, 0 + j, none⟩).isSome = true := fun W hW j hj => by
    simp only [World.cell?, hW, hg]
    simp only [Option.isSome_none, Bool.false_eq_true, if_false]
    rw [Array.getElem?_eq_getElem (by omega)]
    rfl
  have hfz : ∀ j, w.frozen? ⟨g, j, none⟩ = false := fun j => by simp [World.frozen?, hg]
  have hcs : ∀ j u, vs[j]? = some u → w.cell? ⟨g, 0 + j, none⟩ = some u := fun j u hj => by
    have hlt := (List.getElem?_eq_some_iff.1 hj).1
    simp only [World.cell?, hg]
    simp only [Option.isSome_none, Bool.false_eq_true, if_false]
    rw [← hj, ← ht, List.getElem?_take_of_lt (by omega), Array.getElem?_toList, Nat.zero_add]
  have hvc : w.cell? ⟨vb, 0, none⟩ = some v := by simp [World.cell?, hvb]
  have hsa : w.shape? vb = some (22, 1) := by simp [World.shape?, hvb]
  have hsb : w.shape? g = some (22, cur.size) := by simp [World.shape?, hg]
  have hov : ∀ lb cb, (callFunc 157 #[.slice (some ⟨vb, 0, none⟩) 1 vc, .slice (some ⟨g, i + 1, none⟩) lb cb]).run Tryd.prog w = .ok (.value (.bool false)) w := fun lb cb => by
    rw [run_callFunc_extern Tryd.func157 (by kernel_rfl) (by kernel_rfl) (by kernel_rfl) (e := Extern.SlicesOverlaps.overlaps #[30, 30] #[4]) (by kernel_rfl),
      Lib.run_overlaps_apart w 30 4 22 und_rows 1 Tryd.sizeOf22 ⟨vb, 0, none⟩ ⟨g, i + 1, none⟩ 1 vc lb cb hne _ _ _ _ hsa hsb (by omega) (by simp [World.frozen?, hvb]) (by simp [World.frozen?, hvb])]
    rfl
  have hdl : (vs.drop i).length = n - i := by rw [List.length_drop, h0]
  have hcp1 : ∀ ty dc sc, (Builtin.copy_ #[30, 30] ty #[.slice (some ⟨g, i + 1, none⟩) (n - i) dc, .slice (some ⟨g, i, none⟩) (n + 1 - i) sc]).run Tryd.prog w.drew = .ok (goInt (vs.drop i).length) (w.drew.setCells g (i + 1) (vs.drop i)) := fun ty dc sc =>
    run_copy_cells w.drew _ _ ty 22 g (i + 1) (n - i) dc ⟨g, i, none⟩ (n + 1 - i) sc (vs.drop i) und_rows info_rows1 (by rw [hdl]; simp only [Nat.min_def]; split <;> omega)
      (fun j u hj => by rw [Addr.add_lit, ← Nat.zero_add (i + j)]; exact hcs (i + j) u (by rwa [List.getElem?_drop] at hj))
      (fun j hj => by rw [← Nat.zero_add (i + 1 + j)]; exact hcell w.drew rfl _ (by omega)) (fun j hj => hfz _) (fun u hu => hv1 u (List.mem_of_mem_drop hu))
  obtain ⟨W1, hW1⟩ : ∃ W1, W1 = w.drew.setCells g (i + 1) (vs.drop i) := ⟨_, rfl⟩
  have hg1 : W1.heap[g]? = some (.cells (setL cur (i + 1) (vs.drop i)) 22 (0, 0)) := by
    rw [hW1]
    exact setL_heap g _ (vs.drop i) w.drew (i + 1) cur hg
  have ho1 : ∀ k, k ≠ g → W1.heap[k]? = w.heap[k]? := fun k hk => by rw [hW1]; exact heap_setCells_off g k hk _ _ _
  have hb1 : Below g w W1 := by rw [hW1]; exact Grd.below_cells (Nat.le_refl _) _ _ _ ((Below.refl _ _).drew)
  have hcp2 : ∀ (W : World), W.heap = W1.heap → ∀ ty dc, (Builtin.copy_ #[30, 30] ty #[.slice (some ⟨g, i, none⟩) (n + 1 - i) dc, .slice (some ⟨vb, 0, none⟩) 1 vc]).run Tryd.prog W = .ok (goInt [v].length) (W.setCells g i [v]) := fun W hWh ty dc =>
    run_copy_cells W _ _ ty 22 g i (n + 1 - i) dc ⟨vb, 0, none⟩ 1 vc [v] und_rows info_rows1 (by simp only [List.length_singleton, Nat.min_def]; split <;> omega)
      (fun j u hj => by
        rw [Addr.add_lit]
        match j, hj with
        | 0, hj =>
          rw [← Option.some.inj hj]
          simp only [World.cell?, hWh, ho1 vb hne, hvb]
          rfl)
      (fun j hj => by
        simp only [World.cell?, hWh, hg1]
        simp only [Option.isSome_none, Bool.false_eq_true, if_false]
        rw [Array.getElem?_eq_getElem (by rw [setL_size]; simp at hj; omega)]
        rfl) (fun j hj => by simp [World.frozen?, hWh, hg1]) (by simpa using hsv1)
  have HE : Hid (∀ W : World, W.heap = W1.heap → Below g w W → (W.setCells g i [v]).ownsRow N 22 1 (.slice (some ⟨g, 0, none⟩) (n + 1) cap) (n + 1) (vs.insertIdx i v) ∧ (∀ k, k ≠ g → (W.setCells g i [v]).heap[k]? = w.heap[k]?) ∧ Below g w (W.setCells g i [v])) := fun W hW hbW => by
    refine ⟨⟨by rw [List.length_insertIdx, if_pos (by omega)]; omega, .inr ⟨g, cap, _, rfl, hb, setL_heap g _ [v] W i _ (by rw [hW]; exact hg1), hroom, hm, by rw [setL_size, setL_size]; omega, ?_⟩⟩, fun k hk => (heap_setCells_off g k hk _ _ _).trans (by rw [hW]; exact ho1 k hk), Grd.below_cells (Nat.le_refl _) _ _ _ hbW⟩
    rw [Nat.mul_one]
    exact ins_list cur vs n i v h0 (by omega) (by omega) ht
  have HB1 : Hid (Below g w W1) := hb1
  rw [← hW1] at hcp1
  clear hg ht hs hW1 hcs hcell hfz hvb hvc hg1 ho1 hb1 hsa hsb hv1 hvs hsv hsv1 hdl
  have mixed : Tryd.prog.follows .mixedOrders = true := by kernel_rfl
  have hz2 : ¬ ((i : Int) = (n : Int)) := by omega
  have hw1 : IntKind.i64.wrap ((i : Int) + 1) = (i : Int) + 1 := by rw [IntKind.wrap_i64]; omega
  have hb1 : (0 : Int) ≤ (i : Int) + 1 := by omega
  have htn : ((i : Int) + 1).toNat = i + 1 := by omega
  have hb2 : ¬ (cap = i + 1) := by omega
  have hb3 : (i : Int) ≤ (n : Int) + 1 := by omega
  have hb4 : ¬ (cap = i) := by omega
  have hin : i ≤ n := by omega
  go_enter Tryd.func139, Tryd.ntmps139
  go_wp2_with (simp only [hov])
  go_region_law_o (refine step_copyR rfl _ _ 30 30 rfl _ _ (by simp [Act.eval, Act.put]) (by simp [Act.eval, Act.put]) (hcp1 _ _ _) ?_)
  go_wp2_with (at_builtin; refine wpList_copyR _ rfl _ _ 30 30 rfl _ _ rfl rfl (hcp2 _ rfl _ _) ?_)
  go_ret
  exact ⟨rfl, HE.out _ rfl HB1.out⟩
/-- A row is put in, where there is room. -/
theorem insert_own (N g n cap i vb vc : Nat) (vs : List Value) (v : Value) (w : World) (h : w.ownsRow N 22 1 (.slice (some ⟨g, 0, none⟩) n cap) n vs) (hvs : ∀ u, u ∈ vs → IsSl u) (hsv : IsSl v) (hi : i ≤ n) (hroom : n + 1 ≤ cap) (hvb : w.heap[vb]? = some (.cells #[v] 22 (0, 0))) (hne : vb ≠ g) :
    Calls Tryd.prog 139 #[.slice (some ⟨g, 0, none⟩) n cap, .int .i64 (i : Int), .slice (some ⟨vb, 0, none⟩) 1 vc] w fun e w' => e = .returned (.slice (some ⟨g, 0, none⟩) (n + 1) cap) ∧ w'.ownsRow N 22 1 (.slice (some ⟨g, 0, none⟩) (n + 1) cap) (n + 1) (vs.insertIdx i v) ∧ (∀ k, k ≠ g → w'.heap[k]? = w.heap[k]?) ∧ Below g w w' := by
  rcases Nat.lt_or_eq_of_le hi with hlt | rfl
  · exact insert_shift N g n cap i vb vc vs v w h hvs hsv hlt hroom hvb hne
  · exact insert_end N g i cap vb vc vs v w h hsv hroom (by simp [World.cell?, hvb])
end Put
end Go.Proofs.YtnkeahfcpbepjaaDoor

/- (*sheet.Sheet).blanks, replace, Drop, Down: a row goes, and a blank one comes. -/
namespace Go.Proofs.YtnkeahfcpbepjaaDoor
open Go.ChangeShapes Go.WideShapes Go.ChangeAt Go.RowKit
namespace Put
open Grd (C SliceAt CellsAt gridErr z0 nilV flat rowsL OwnG RowB)
theorem getD_erase {α : Type} (l : List α) (i j : Nat) (d : α) : (l.eraseIdx i).getD j d = if j < i then l.getD j d else l.getD (j + 1) d := by
  simp only [List.getD, List.getElem?_eraseIdx]
  split <;> rfl
theorem getD_insert {α : Type} (l : List α) (i j : Nat) (x d : α) (hi : i ≤ l.length) : (l.insertIdx i x).getD j d = if j < i then l.getD j d else if j = i then x else l.getD (j - 1) d := by
  simp only [List.getD, List.getElem?_insertIdx]
  by_cases h1 : j < i
  · rw [if_pos h1, if_pos h1]
  · rw [if_neg h1, if_neg h1]
    by_cases h2 : j = i
    · subst h2
      rw [if_pos rfl, if_pos rfl, if_pos hi]
      rfl
    · rw [if_neg h2, if_neg h2]
theorem RowsIn.erase {W : World} {N : Nat} {vs : List Value} {rows : List (List C)} (h : RowsIn W N vs rows) (i : Nat) (hi : i < rows.length) : RowsIn W N (vs.eraseIdx i) (rows.eraseIdx i) := by
  have hl := h.1
  refine ⟨by rw [List.length_eraseIdx_of_lt (by omega), List.length_eraseIdx_of_lt hi, hl], fun j hj => ?_⟩
  rw [List.length_eraseIdx_of_lt hi] at hj
  rw [getD_erase, getD_erase]
  split
  · exact h.2 j (by omega)
  · exact h.2 (j + 1) (by omega)
theorem RowsIn.insert {W : World} {N : Nat} {vs : List Value} {rows : List (List C)} (h : RowsIn W N vs rows) (i : Nat) (hi : i ≤ rows.length) (v : Value) (row : List C) (hr : RowIn W N v row) : RowsIn W N (vs.insertIdx i v) (rows.insertIdx i row) := by
  have hl := h.1
  refine ⟨by rw [List.length_insertIdx_of_le_length (by omega), List.length_insertIdx_of_le_length hi, hl], fun j hj => ?_⟩
  rw [List.length_insertIdx_of_le_length hi] at hj
  rw [getD_insert _ _ _ _ _ (by omega), getD_insert _ _ _ _ _ hi]
  split
  · exact h.2 j (by omega)
  · split
    · exact hr
    · exact h.2 (j - 1) (by omega)
theorem RowsIn.sls {W : World} {N : Nat} {vs : List Value} {rows : List (List C)} (h : RowsIn W N vs rows) : ∀ v, v ∈ vs → IsSl v := by
  intro v hv
  obtain ⟨i, hi, rfl⟩ := List.mem_iff_getElem.1 hv
  obtain ⟨a, c, e⟩ := (h.2 i (by rw [← h.1]; exact hi)).shape
  have e2 : vs.getD i nilV = vs[i] := by simp [List.getD, hi]
  rw [e2] at e
  exact ⟨(a, _, c), e⟩
theorem sl_in {W : World} {N : Nat} {v : Value} {row : List C} (h : RowIn W N v row) : IsSl v := by
  obtain ⟨a, c, e⟩ := h.shape
  exact ⟨(a, _, c), e⟩
theorem ShA.keptR {W V : World} {M N p : Nat} {s : Scr} {rows : List (List C)} {cv tv gv rv : Value} {gvs vs : List Value} {rb : Nat} (h : ShA 109 W M N p s rows cv tv gv rv gvs vs) (hrb : rv.ownBlock = some rb) (ho : ∀ k, k < W.heap.size → k ≠ rb → V.heap[k]? = W.heap[k]?) : Kept M W V := fun k hk hS => ho k hk fun e => by
  obtain ⟨hlo, A, f, hA⟩ := owns_block h.rws rb hrb
  subst e
  rcases hS with hS | ⟨B, f', hS⟩
  · have := h.ml
    omega
  · rw [hA] at hS
    injection hS with hS
    injection hS with _ hS _
    exact absurd hS (by decide)
/-- Other rows in the same block. -/
theorem ShA.rowsNew {W V : World} {M N p : Nat} {s : Scr} {rows rows' : List (List C)} {cv tv gv rv rv' : Value} {gvs vs vs' : List Value} {rb : Nat} (h : ShA 109 W M N p s rows cv tv gv rv gvs vs) (hrb : rv.ownBlock = some rb) (hrb' : rv'.ownBlock = some rb)
    (ho : ∀ k, k < W.heap.size → k ≠ rb → V.heap[k]? = W.heap[k]?) (hw : V.ownsRow N 22 1 rv' rows'.length vs') (hr : RowsIn V M vs' rows') :
    ShA 109 (V.setCell ⟨p, 22, none⟩ rv') M N p s rows' cv tv gv rv' gvs vs' := by
  obtain ⟨hlo, A, f, hA⟩ := owns_block h.rws rb hrb
  have hpr : p ≠ rb := by
    intro e
    rw [← e, h.blk] at hA
    injection hA with hA
    injection hA with _ hA _
    exact absurd hA (by decide)
  have hp : V.heap[p]? = some (.cells (shA s cv tv gv rv) 109 (0, 0)) := (ho p (heap_lt h.blk) hpr).trans h.blk
  have hk1 : Kept M W V := fun k hk hS => ho k hk fun e => by
    subst e
    rcases hS with hS | ⟨B, f', hS⟩
    · have := h.ml
      omega
    · rw [hA] at hS
      injection hS with hS
      injection hS with _ hS _
      exact absurd hS (by decide)
  have hk2 : Kept M V (V.setCell ⟨p, 22, none⟩ rv') := Kept.store hp (by decide) (Nat.le_trans h.ml h.lo)
  have hof : ∀ {e : TypeId} {v : Value} {n : Nat} {xs : List Value}, e ≠ 109 → (∀ k, v.ownBlock = some k → k ≠ rb) → W.ownsRow N e 1 v n xs → (V.setCell ⟨p, 22, none⟩ rv').ownsRow N e 1 v n xs := fun hte hn hw => by
    refine own_off (owns_kept hw fun g hg => ?_) hp (Ne.symm hte)
    obtain ⟨-, B, f', hB⟩ := owns_block hw g hg
    exact ho g (heap_lt hB) (hn g hg)
  have hnb : ∀ k, tv.ownBlock = some k → k ≠ rb := fun k hk e => by
    subst e
    obtain ⟨-, B, f', hB⟩ := owns_block h.tabs k hk
    rw [hA] at hB
    injection hB with hB
    injection hB with _ hB _
    exact absurd hB (by decide)
  have hng : ∀ k, gv.ownBlock = some k → k ≠ rb := fun k hk e => h.two rb hrb (by rw [hk, e])
  refine ⟨store_at hp rfl, h.lo, h.ml, h.cvs, hof (by decide) hnb h.tabs, hof (by decide) hng h.gone, (h.gin.keep hk1).keep hk2, own_off hw hp (by decide), hr.keep hk2, fun k hk e => ?_⟩
  rw [hrb'] at hk
  exact hng k e (Option.some.inj hk).symm
theorem one4w (a : Int) (b c d : Int) : (#[.int .i32 a, .int .i64 b, .int .i64 c, .int .i64 d] : Array Value).all (·.oneCell') = true := by simp [Value.oneCell']
set_option maxHeartbeats 2000000 in
theorem blankS_any (p : Nat) (bk : Int) (V : World) (h : V.cell? ⟨p, 7, none⟩ = some (.int .i64 bk)) : Calls Tryd.prog 156 #[.pointer (some ⟨p, 0, none⟩)] V fun e V' => e = .returned (.agg #[.int .i32 32, .int .i64 0, .int .i64 bk, .int .i64 0]) ∧ Below V.heap.size V V' := by
  have x0 := heap_alloc_new V (.cells #[.int .i32 0, .int .i64 0, .int .i64 0, .int .i64 0] 63)
  have kb : Below V.heap.size V (V.alloc (.cells #[.int .i32 0, .int .i64 0, .int .i64 0, .int .i64 0] 63)) := (Below.refl _ _).alloc (Nat.le_refl _) _
  have h1 := cell_stay kb h
  have HX0 : Hid _ := x0
  have HKB : Hid _ := kb
  clear x0 kb h
  go_enter Tryd.func156, Tryd.ntmps156
  go_upto_region 1 with fail
  generalize V.alloc (.cells #[.int .i32 0, .int .i64 0, .int .i64 0, .int .i64 0] 63) = Y at *
  go_wp2_with (refine wpList_store_row rfl 63 (.tmp 2) _ rfl V.heap.size #[.int .i32 32, .int .i64 0, .int .i64 bk, .int .i64 0] rfl rfl _ _ HX0.out (by kernel_rfl) rfl (one4w _ _ _ _) ?_)
  (try simp only [Exit.inBlock, Exit.then])
  refine bodyPost_ret (v := .agg #[.int .i32 32, .int .i64 0, .int .i64 bk, .int .i64 0]) ?_ rfl ⟨rfl, below_setRow HKB.out (Nat.le_refl _) _⟩
  exact results_cell_row rfl _ _ V.heap.size _ _ _ _ rfl (setRow_heap _ _ _ _ _ _ HX0.out) Tryd.underlying63 rfl (by kernel_rfl)
theorem cells_one (V : World) (c : C) : CellsAt (V.alloc (.cells #[.int .i32 c.1, .int .i64 c.2.1, .int .i64 c.2.2.1, .int .i64 c.2.2.2] 63)) V.heap.size 0 [c] := fun j hj => by
  have h := heap_alloc_new V (.cells #[.int .i32 c.1, .int .i64 c.2.1, .int .i64 c.2.2.1, .int .i64 c.2.2.2] 63)
  generalize V.alloc (.cells #[.int .i32 c.1, .int .i64 c.2.1, .int .i64 c.2.2.1, .int .i64 c.2.2.2] 63) = X at *
  match j, hj with
  | 0, _ => exact ⟨by simp [World.cell?, h], by simp [World.cell?, h], by simp [World.cell?, h], by simp [World.cell?, h]⟩
set_option maxHeartbeats 2000000 in
theorem blanks_any (p n : Nat) (bk : Int) (W : World) (h7 : W.cell? ⟨p, 7, none⟩ = some (.int .i64 bk)) (hn1 : 1 ≤ n) (hn2 : n ≤ 120) :
    Calls Tryd.prog 137 #[.pointer (some ⟨p, 0, none⟩), .int .i64 (n : Int)] W fun e W' => ∃ a c g, e = .returned (.slice a n c) ∧ W.heap.size ≤ g ∧ RowB W' g (.slice a n c) (List.replicate n (32, 0, bk, 0)) ∧ Below W.heap.size W W' := by
  have HB := blankS_any p bk W h7
  have HRP : Hid (∀ V : World, Calls Tryd.prog 93 #[.slice (some ⟨V.heap.size, 0, none⟩) 1 1, .int .i64 (n : Int)] (V.alloc (.cells #[.int .i32 32, .int .i64 0, .int .i64 bk, .int .i64 0] 63)) fun e w' => ∃ v', e = .returned v' ∧ OwnG w' (V.alloc (.cells #[.int .i32 32, .int .i64 0, .int .i64 bk, .int .i64 0] 63)).heap.size v' (List.replicate n (32, 0, bk, 0)) ∧ Below (V.alloc (.cells #[.int .i32 32, .int .i64 0, .int .i64 bk, .int .i64 0] 63)).heap.size (V.alloc (.cells #[.int .i32 32, .int .i64 0, .int .i64 bk, .int .i64 0] 63)) w') := fun V => Grd.repeat_one V.heap.size 0 1 n (32, 0, bk, 0) _ (cells_one V (32, 0, bk, 0)) hn1 (by omega)
  clear h7
  go_enter Tryd.func137, Tryd.ntmps137
  go_wp2_with fail
  refine HB.mono ?_
  rintro e V1 ⟨rfl, b1⟩
  clear HB
  go_wp2_with fail
  refine (HRP.out V1).mono ?_
  rintro e V2 ⟨v2, rfl, ho, b2⟩
  have q2 := b1.alloc b1.size (.cells #[.int .i32 32, .int .i64 0, .int .i64 bk, .int .i64 0] 63)
  have q3 := q2.trans (b2.mono q2.size)
  obtain ⟨g, hg1, hr⟩ := own_rowB ho
  obtain ⟨cap, rest, hv, hc1, hc2, hh⟩ := hr
  subst hv
  go_wp2_with fail
  go_ret
  refine ⟨_, cap, g, rfl, by have := q2.size; omega, ⟨cap, rest, by rw [List.length_replicate], hc1, hc2, hh⟩, q3⟩
set_option maxHeartbeats 2000000 in
theorem blanks_zero (p : Nat) (bk : Int) (W : World) (h7 : W.cell? ⟨p, 7, none⟩ = some (.int .i64 bk)) :
    Calls Tryd.prog 137 #[.pointer (some ⟨p, 0, none⟩), .int .i64 0] W fun e W' => ∃ a c g, e = .returned (.slice a 0 c) ∧ W.heap.size ≤ g ∧ RowB W' g (.slice a 0 c) [] ∧ Below W.heap.size W W' := by
  have HB := blankS_any p bk W h7
  have HRP : Hid (∀ V : World, Calls Tryd.prog 93 #[.slice (some ⟨V.heap.size, 0, none⟩) 1 1, .int .i64 0] (V.alloc (.cells #[.int .i32 32, .int .i64 0, .int .i64 bk, .int .i64 0] 63)) fun e w' => ∃ v', e = .returned v' ∧ OwnG w' (V.alloc (.cells #[.int .i32 32, .int .i64 0, .int .i64 bk, .int .i64 0] 63)).heap.size v' [] ∧ Below (V.alloc (.cells #[.int .i32 32, .int .i64 0, .int .i64 bk, .int .i64 0] 63)).heap.size (V.alloc (.cells #[.int .i32 32, .int .i64 0, .int .i64 bk, .int .i64 0] 63)) w') := fun V => Grd.repeat_zero _ 0 1 (32, 0, bk, 0) _ (cells_one V (32, 0, bk, 0))
  clear h7
  go_enter Tryd.func137, Tryd.ntmps137
  go_wp2_with fail
  refine HB.mono ?_
  rintro e V1 ⟨rfl, b1⟩
  clear HB
  go_wp2_with fail
  refine (HRP.out V1).mono ?_
  rintro e V2 ⟨v2, rfl, ho, b2⟩
  have q2 := b1.alloc b1.size (.cells #[.int .i32 32, .int .i64 0, .int .i64 bk, .int .i64 0] 63)
  have q3 := q2.trans (b2.mono q2.size)
  obtain ⟨g, hg1, hr⟩ := own_rowB ho
  obtain ⟨cap, rest, hv, hc1, hc2, hh⟩ := hr
  subst hv
  go_wp2_with fail
  go_ret
  exact ⟨_, cap, g, rfl, by have := q2.size; omega, ⟨cap, rest, rfl, hc1, hc2, hh⟩, q3⟩
theorem blanks_all (p n : Nat) (bk : Int) (W : World) (h7 : W.cell? ⟨p, 7, none⟩ = some (.int .i64 bk)) (hn2 : n ≤ 120) :
    Calls Tryd.prog 137 #[.pointer (some ⟨p, 0, none⟩), .int .i64 (n : Int)] W fun e W' => ∃ a c g, e = .returned (.slice a n c) ∧ W.heap.size ≤ g ∧ RowB W' g (.slice a n c) (List.replicate n (32, 0, bk, 0)) ∧ Below W.heap.size W W' := by
  rcases Nat.eq_zero_or_pos n with rfl | h
  · exact blanks_zero p bk W h7
  · exact blanks_any p n bk W h7 h hn2
/-- A row goes, and a blank one comes. -/
def replR (rows : List (List C)) (n : Nat) (bk : Int) (gone fresh : Nat) : List (List C) := (rows.eraseIdx gone).insertIdx fresh (List.replicate n (32, 0, bk, 0))
theorem replR_len (rows : List (List C)) (n : Nat) (bk : Int) (gone fresh : Nat) (hg : gone < rows.length) (hf : fresh < rows.length) : (replR rows n bk gone fresh).length = rows.length := by
  unfold replR
  rw [List.length_insertIdx_of_le_length (by rw [List.length_eraseIdx_of_lt hg]; omega), List.length_eraseIdx_of_lt hg]
  omega
theorem replR_row (rows : List (List C)) (n : Nat) (bk : Int) (gone fresh : Nat) (hg : gone < rows.length) (hf : fresh < rows.length) (hn : ∀ i, i < rows.length → (rows.getD i []).length = n) (i : Nat) (hi : i < rows.length) : ((replR rows n bk gone fresh).getD i []).length = n := by
  have hl : (rows.eraseIdx gone).length = rows.length - 1 := List.length_eraseIdx_of_lt hg
  have he : ∀ j, j < rows.length - 1 → ((rows.eraseIdx gone).getD j []).length = n := fun j hj => by
    rw [getD_erase]
    split
    · exact hn j (by omega)
    · exact hn (j + 1) (by omega)
  unfold replR
  rw [getD_insert _ _ _ _ _ (by omega)]
  split
  · exact he i (by omega)
  · split
    · simp
    · exact he (i - 1) (by omega)
set_option linter.unusedSimpArgs false in
set_option maxHeartbeats 4000000 in
set_option maxRecDepth 100000 in
theorem replace_any (W : World) (M N p n : Nat) (s : Scr) (rows : List (List C)) (hS : ShAt 109 W M N p s rows) (gone fresh : Nat) (hw : s.w = n) (hn1 : 1 ≤ n) (hn2 : n ≤ 120) (hg : gone < rows.length) (hf : fresh < rows.length) (hrl : rows.length ≤ 60) :
    Calls Tryd.prog 163 #[.pointer (some ⟨p, 0, none⟩), .int .i64 (gone : Int), .int .i64 (fresh : Int)] W (Ran W M N p s (replR rows n s.sb gone fresh)) := by
  obtain ⟨cv, tv, gv, rv, gvs, vs, hS⟩ := hS
  obtain ⟨rb, rc, hrv, hrb, hrc1, hrc2, hvl, hrcell, A, hrA⟩ := own_cells hS.rws (by omega)
  subst hrv
  have HD := delete_own N rb rows.length rc gone vs W hS.rws hS.rin.sls hg
  obtain ⟨⟨c0, -⟩, ⟨-, -, -, -, -, -, -, -, -, -, -, c22⟩, f⟩ := sh_cells hS.blk
  have hpr : p ≠ rb := by
    intro e
    rw [← e, hS.blk] at hrA
    injection hrA with hrA
    injection hrA with _ hrA _
    exact absurd hrA (by decide)
  have hlo := hS.lo
  have hwg : IntKind.i64.wrap ((gone : Int) + 1) = ((gone + 1 : Nat) : Int) := by rw [wrap_id _ (by omega) (by omega)]; omega
  have HS : Hid (ShA 109 W M N p s rows cv tv gv (.slice (some ⟨rb, 0, none⟩) rows.length rc) gvs vs) := hS
  clear hS hrcell hvl f c0
  go_enter Tryd.func163, Tryd.ntmps163
  go_wp2_with fail
  refine HD.mono ?_
  rintro e V1 ⟨rfl, hO1, hk1, hb1⟩
  have hpV := (hk1 p hpr).trans HS.out.blk
  have c22' := (sh_cells hpV).2.1.2.2.2.2.2.2.2.2.2.2.2
  have f22 := (sh_cells hpV).2.2 22
  go_upto_region 1 with fail
  have hS1 : ShA 109 (V1.setCell ⟨p, 22, none⟩ (.slice (some ⟨rb, 0, none⟩) (rows.length - 1) rc)) M N p s (rows.eraseIdx gone) cv tv gv (.slice (some ⟨rb, 0, none⟩) (rows.length - 1) rc) gvs (vs.eraseIdx gone) :=
    HS.out.rowsNew (rb := rb) rfl rfl (fun k _ hk => hk1 k hk) (by rw [List.length_eraseIdx_of_lt hg]; exact hO1) ((HS.out.rin.erase gone hg).keep (HS.out.keptR (rb := rb) rfl fun k _ hk => hk1 k hk))
  have hB1 : Below N W (V1.setCell ⟨p, 22, none⟩ (.slice (some ⟨rb, 0, none⟩) (rows.length - 1) rc)) := (hb1.mono hrb).setCell hlo _
  have hF1 : Framed W (V1.setCell ⟨p, 22, none⟩ (.slice (some ⟨rb, 0, none⟩) (rows.length - 1) rc)) := fun k o hk ho => by
    have e1 : k ≠ rb := by
      intro e
      rw [e, hrA] at hk
      injection hk with hk
      exact not_other_rows (ho A _ _ hk.symm)
    exact Framed.store hpV not_other_sheet k o ((hk1 k e1).trans hk) ho
  have HS1 : Hid _ := hS1
  have HB1 : Hid _ := hB1
  have HF1 : Hid _ := hF1
  clear hS1 hB1 hF1 hO1 hk1 hb1 hpV c22' f22 c22 hrA HS HD
  generalize V1.setCell ⟨p, 22, none⟩ (.slice (some ⟨rb, 0, none⟩) (rows.length - 1) rc) = X at *
  have hX := HS1.out
  obtain ⟨⟨c0, -, -, -, -, -, -, c7, -⟩, ⟨-, -, -, -, -, -, -, -, -, -, -, c22⟩, -⟩ := sh_cells hX.blk
  rw [hw] at c0
  have b0 : Below X.heap.size X X.drew := (Below.refl _ _).drew
  have hNX : N ≤ X.heap.size := Nat.le_trans hlo (Nat.le_of_lt (heap_lt hX.blk))
  have HBL := blanks_any p n s.sb X.drew (cell_stay b0 c7) hn1 hn2
  have HIN : Hid (∀ (V2 : World) (a : Option Addr) (c g : Nat), Below X.heap.size X V2 → RowB V2 g (.slice a n c) (List.replicate n (32, 0, s.sb, 0)) → Calls Tryd.prog 139 #[.slice (some ⟨rb, 0, none⟩) (rows.length - 1) rc, .int .i64 (fresh : Int), .slice (some ⟨V2.heap.size, 0, none⟩) 1 1] (V2.alloc (.cells #[.slice a n c] 22)) fun e V3 => e = .returned (.slice (some ⟨rb, 0, none⟩) (rows.length - 1 + 1) rc) ∧ V3.cell? ⟨p, 22, none⟩ = some (.slice (some ⟨rb, 0, none⟩) (rows.length - 1) rc) ∧ V3.frozen? ⟨p, 22, none⟩ = false ∧ Hid (Ran W M N p s (replR rows n s.sb gone fresh) (.returned (.tuple #[])) (V3.setCell ⟨p, 22, none⟩ (.slice (some ⟨rb, 0, none⟩) (rows.length - 1 + 1) rc)))) := fun V2 a c g q1 hR => by
    have q2 := q1.alloc q1.size (.cells #[.slice a n c] 22)
    have hS2 := hX.next q2
    have hal := heap_alloc_new V2 (.cells #[.slice a n c] 22)
    have hri : RowIn V2 M (.slice a n c) (List.replicate n (32, 0, s.sb, 0)) := rowIn_rowB hR
    have hle : (rows.eraseIdx gone).length = rows.length - 1 := List.length_eraseIdx_of_lt hg
    obtain ⟨-, B, f', hB⟩ := owns_block hX.rws rb rfl
    have hne : V2.heap.size ≠ rb := by have h1 := heap_lt hB; have h2 := q1.size; omega
    have key := insert_own N rb (rows.length - 1) rc fresh V2.heap.size 1 (vs.eraseIdx gone) (.slice a n c) _ (by have := hS2.rws; rwa [hle] at this) hS2.rin.sls (sl_in hri) (by omega) (by omega) hal hne
    refine Calls.mono key ?_
    rintro e V3 ⟨rfl, hO3, hk3, hb3⟩
    have hp3 : V3.heap[p]? = _ := (hk3 p hpr).trans hS2.blk
    have hri3 : RowIn V3 M (.slice a n c) (List.replicate n (32, 0, s.sb, 0)) := (hri.keep (Kept.of_below ((Below.refl _ _).alloc (Nat.le_refl _) _))).keep (hS2.keptR (rb := rb) rfl fun k _ hk => hk3 k hk)
    have hS3 := hS2.rowsNew (rb := rb) (rv' := .slice (some ⟨rb, 0, none⟩) (rows.length - 1 + 1) rc) (rows' := replR rows n s.sb gone fresh) (vs' := (vs.eraseIdx gone).insertIdx fresh (.slice a n c)) rfl rfl (fun k _ hk => hk3 k hk) (by rw [replR_len rows n s.sb gone fresh hg hf, show rows.length = rows.length - 1 + 1 by omega]; exact hO3) ((hS2.rin.keep (hS2.keptR (rb := rb) rfl fun k _ hk => hk3 k hk)).insert fresh (by omega) _ _ hri3)
    refine ⟨rfl, (sh_cells hp3).2.1.2.2.2.2.2.2.2.2.2.2.2, (sh_cells hp3).2.2 22, rfl, ⟨_, _, _, _, _, _, hS3⟩, ((HB1.out.trans (q2.mono hNX)).trans (hb3.mono hrb)).setCell hlo _, ?_⟩
    refine (Framed.trans HF1.out (Framed.of_below q2)).trans ?_
    intro k o hk ho
    have e1 : k ≠ rb := by
      intro e
      have hB2 := Grd.carry hB q2
      rw [e, hB2] at hk
      injection hk with hk
      exact not_other_rows (ho B _ _ hk.symm)
    exact Framed.store hp3 not_other_sheet k o ((hk3 k e1).trans hk) ho
  have HC22 : Hid (∀ V, Below X.heap.size X V → V.cell? ⟨p, 22, none⟩ = some (.slice (some ⟨rb, 0, none⟩) (rows.length - 1) rc)) := fun V h => cell_stay h c22
  clear hX c7 HS1 HB1 HF1 hw
  generalize rows.length - 1 = m at *
  generalize replR rows n s.sb gone fresh = rows' at *
  go_region_with (first
    | (go_at_call 137; refine HBL.mono ?_; rintro e V2 ⟨a, c, g, rfl, hg2, hR, b2⟩; have q1 := b0.trans (b2.mono b0.size); have d22 := HC22.out _ q1; have e22 := HC22.out _ (q1.alloc q1.size (.cells #[.slice a n c] 22)); have hI := HIN.out V2 a c g q1 hR; clear hR b2)
    | (go_at_call 139; refine hI.mono ?_; rintro e V3 ⟨rfl, z22, zf, HE⟩))
  all_goals go_wp2_with fail
  all_goals go_end0
  all_goals exact HE.out
end Put
end Go.Proofs.YtnkeahfcpbepjaaDoor
