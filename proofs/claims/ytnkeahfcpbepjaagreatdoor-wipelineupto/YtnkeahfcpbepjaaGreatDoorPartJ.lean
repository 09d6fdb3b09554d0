/- What a row is with some cells blank. -/
import Derived.Test.YtnkeahfcpbepjaaGreatDoorPartF
import Derived.Test.YtnkeahfcpbepjaaGreatDoorPartH
import Derived.BigQuiet
import Derived.Test.YtnkeahfcpbepjaaGreatDoorPartI
import Derived.Deep.RegionHeld3
import Derived.Deep.RegionWith
import Derived.Deep.Cut
import Derived.Deep.CutRange
import Derived.Test.YtnkeahfcpbepjaaGreatDoorPartG
import Derived.BigRegion
import Derived.Test.YtnkeahfcpbepjaaGreatDoorPartE
import Derived.Shelf.SlicesE.Delete
import Derived.Lib.OwnBridge
namespace Go.Proofs.YtnkeahfcpbepjaaGreatDoor
namespace Put
open Grd (C z0 gridErr putRow mendL RightRow Meant)
open Sty (isSt)
open Txt (wd)
def wipeRow (bk : Int) (row : List C) (a b : Nat) : List C := mendL (putRow row (fun x => decide (a ≤ x ∧ x < b)) fun _ => (32, 0, bk, 0))
theorem wipe_len (bk : Int) (row : List C) (a b : Nat) : (wipeRow bk row a b).length = row.length := by
  unfold wipeRow
  rw [Grd.mendL_len, Grd.putRow_len]
theorem wipe_right (bk : Int) (row : List C) (a b : Nat) (h : RightRow row) (hs : isSt (0, bk, 0) = true) : RightRow (wipeRow bk row a b) := by
  unfold wipeRow
  exact Grd.mend_right _ (Grd.meant_fill row _ _ h.1 Grd.wd32 hs)
theorem wipe_at (bk : Int) (row : List C) (a b x : Nat) (hx : x < row.length) (h : a ≤ x ∧ x < b) : (wipeRow bk row a b).getD x z0 = (32, 0, bk, 0) := by
  unfold wipeRow
  rw [Grd.mendL_eq, Grd.mendM_at _ _ (by rw [Grd.putRow_len]; exact hx)]
  have e : (putRow row (fun x => decide (a ≤ x ∧ x < b)) fun _ => (32, 0, bk, 0)).getD x z0 = (32, 0, bk, 0) := by
    rw [Grd.putRow_at _ _ _ _ hx, if_pos (by simpa using h)]
  rw [e]
  split <;> rfl
/-- Wiping again changes nothing. -/
theorem wipe_wipe (bk : Int) (row : List C) (a b : Nat) (h : RightRow row) (hs : isSt (0, bk, 0) = true) : wipeRow bk (wipeRow bk row a b) a b = wipeRow bk row a b := by
  have hr := wipe_right bk row a b h hs
  have e : putRow (wipeRow bk row a b) (fun x => decide (a ≤ x ∧ x < b)) (fun _ => ((32, 0, bk, 0) : C)) = wipeRow bk row a b := by
    refine Grd.ext_getD _ _ (Grd.putRow_len _ _ _) fun x hx => ?_
    rw [Grd.putRow_len] at hx
    rw [Grd.putRow_at _ _ _ _ hx]
    by_cases hp : a ≤ x ∧ x < b
    · rw [if_pos (by simpa using hp), wipe_at bk row a b x (by rw [wipe_len] at hx; exact hx) hp]
    · rw [if_neg (by simpa using hp)]
  generalize hq : wipeRow bk row a b = q at *
  unfold wipeRow
  rw [e]
  exact Grd.mendL_fix _ hr.2
/-- A row that is wiped as a whole. -/
theorem wipe_whole (bk : Int) (row : List C) (b : Nat) (hb : row.length ≤ b) : wipeRow bk row 0 b = List.replicate row.length (32, 0, bk, 0) := by
  refine Grd.ext_getD _ _ (by rw [wipe_len, List.length_replicate]) fun x hx => ?_
  rw [wipe_len] at hx
  rw [wipe_at bk row 0 b x hx ⟨Nat.zero_le _, by omega⟩]
  simp [List.getD, hx]
theorem row_grid (n : Nat) (row : List C) (hn : row.length = n) (hz : gridErr n 1 row = 0) : RightRow row := by
  have h := ((Grd.gridErr_zero n 1 row).1 hz).2.2 0 (by omega)
  have e : Grd.rowAt n row 0 = row := by unfold Grd.rowAt; rw [Nat.zero_mul, List.drop_zero, ← hn, List.take_length]
  rw [e] at h
  exact h
theorem grid_row (n : Nat) (row row' : List C) (hn : row'.length = n) (hz : gridErr n 1 row = 0) (h : RightRow row') : gridErr n 1 row' = 0 := by
  obtain ⟨h1, -, -⟩ := (Grd.gridErr_zero n 1 row).1 hz
  refine (Grd.gridErr_zero n 1 row').2 ⟨h1, by rw [hn, Nat.mul_one], fun y hy => ?_⟩
  obtain rfl : y = 0 := by omega
  have e : Grd.rowAt n row' 0 = row' := by unfold Grd.rowAt; rw [Nat.zero_mul, List.drop_zero, ← hn, List.take_length]
  rw [e]
  exact h
end Put
end Go.Proofs.YtnkeahfcpbepjaaGreatDoor

/- The walk of grid.Fill. -/
namespace Go.Proofs.YtnkeahfcpbepjaaGreatDoor
open Go.ChangeShapes Go.WideShapes Go.ChangeAt Go.RowKit
namespace Grd
open Txt (wd)
open Sty (isSt)
def inside (at' long : Int) (size : Nat) (x : Nat) : Bool := decide (max (nearI at') 0 ≤ (x : Int) ∧ (x : Int) < min (nearI at' + nearI long) size)
def fillF (n hh : Nat) (rx ry rw rh : Int) (c : C) (y : Nat) (row : List C) : List C := if inside ry rh hh y then mendL (putRow row (inside rx rw n) fun _ => c) else row
def fillG (n hh : Nat) (cs : List C) (rx ry rw rh : Int) (c : C) : List C := preF n cs (fillF n hh rx ry rw rh c) hh
theorem fillF_len (n hh : Nat) (rx ry rw rh : Int) (c : C) : KeepLen n (fillF n hh rx ry rw rh c) := fun y row h => by
  unfold fillF
  split
  · rw [mendL_len, putRow_len, h]
  · exact h
theorem near_in (a : Int) : -1000 ≤ nearI a ∧ nearI a ≤ 1000 := by unfold nearI; omega
/-- The cells when the rows below k are done. -/
def upto (n hh : Nat) (cs : List C) (f : Nat → List C → List C) (k : Nat) : List C := preF n cs f (min k hh) ++ cs.drop (min k hh * n)
theorem upto_start (n hh : Nat) (cs : List C) (f : Nat → List C → List C) (k : Nat) (h : ∀ y, y < k → f y (rowAt n cs y) = rowAt n cs y) : upto n hh cs f k = cs := by
  unfold upto
  rw [preF_id n cs f _ (fun y hy => h y (by omega)), List.take_append_drop]
theorem upto_end (n hh : Nat) (cs : List C) (f : Nat → List C → List C) (hL : cs.length = n * hh) (k : Nat) (h : ∀ y, k ≤ y → f y (rowAt n cs y) = rowAt n cs y) : upto n hh cs f k = preF n cs f hh := by
  unfold upto
  by_cases hk : k ≤ hh
  · rw [Nat.min_eq_left hk]
    exact (preF_rest n hh cs f hL k (hh - k) (by omega) (fun y h1 _ => h y h1)).symm
  · rw [Nat.min_eq_right (by omega), List.drop_of_length_le (by rw [hL, Nat.mul_comm]; exact Nat.le_refl _), List.append_nil]
theorem upto_at (n hh : Nat) (cs : List C) (f : Nat → List C → List C) (k : Nat) (hk : k < hh) : upto n hh cs f k = preF n cs f k ++ (rowAt n cs k ++ cs.drop ((k + 1) * n)) := by
  unfold upto
  rw [Nat.min_eq_left (by omega), drop_row]
theorem upto_next (n hh : Nat) (cs : List C) (f : Nat → List C → List C) (k : Nat) (hk : k < hh) : upto n hh cs f (k + 1) = preF n cs f k ++ (f k (rowAt n cs k) ++ cs.drop ((k + 1) * n)) := by
  unfold upto
  rw [Nat.min_eq_left (by omega)]
  show (preF n cs f k ++ f k (rowAt n cs k)) ++ _ = _
  rw [List.append_assoc]
theorem upto_len (n hh : Nat) (cs : List C) (f : Nat → List C → List C) (hL : cs.length = n * hh) (hf : KeepLen n f) (k : Nat) : (upto n hh cs f k).length = cs.length := by
  unfold upto
  rw [List.length_append, preF_len n hh cs f hL hf _ (by omega), List.length_drop]
  have : min k hh * n ≤ cs.length := by rw [hL, Nat.mul_comm n hh]; exact Nat.mul_le_mul_right _ (by omega)
  omega
theorem flat_three (a b c : List C) (rest : List Value) : flat (a ++ (b ++ c)) ++ rest = flat a ++ (flat b ++ (flat c ++ rest)) := by
  rw [flat_append, flat_append]; simp only [List.append_assoc]
theorem alloc4 (w : World) (o0 o1 o2 o3 : Obj) : ((((w.alloc o0).alloc o1).alloc o2).alloc o3).heap[w.heap.size]? = some o0 ∧ ((((w.alloc o0).alloc o1).alloc o2).alloc o3).heap[w.heap.size + 1]? = some o1 ∧
    ((((w.alloc o0).alloc o1).alloc o2).alloc o3).heap[w.heap.size + 2]? = some o2 ∧ ((((w.alloc o0).alloc o1).alloc o2).alloc o3).heap[w.heap.size + 3]? = some o3 ∧
    Below w.heap.size w ((((w.alloc o0).alloc o1).alloc o2).alloc o3) ∧ ((((w.alloc o0).alloc o1).alloc o2).alloc o3).heap.size = w.heap.size + 4 := by
  have s1 : (w.alloc o0).heap.size = w.heap.size + 1 := by simp
  have s2 : ((w.alloc o0).alloc o1).heap.size = w.heap.size + 2 := by simp
  have s3 : (((w.alloc o0).alloc o1).alloc o2).heap.size = w.heap.size + 3 := by simp
  refine ⟨?_, ?_, ?_, ?_, (((Below.refl _ _).alloc (Nat.le_refl _) _).alloc (by omega) _ |>.alloc (by omega) _).alloc (by omega) _, by simp⟩
  · rw [Below.heap_alloc _ _ _ (by omega), Below.heap_alloc _ _ _ (by omega), Below.heap_alloc _ _ _ (by omega), heap_alloc_new]
  · rw [Below.heap_alloc _ _ _ (by omega), Below.heap_alloc _ _ _ (by omega), ← s1, heap_alloc_new]
  · rw [Below.heap_alloc _ _ _ (by omega), ← s2, heap_alloc_new]
  · rw [← s3, heap_alloc_new]
theorem alloc3 (w : World) (o0 o1 o2 : Obj) : (((w.alloc o0).alloc o1).alloc o2).heap[w.heap.size]? = some o0 ∧ (((w.alloc o0).alloc o1).alloc o2).heap[w.heap.size + 1]? = some o1 ∧
    (((w.alloc o0).alloc o1).alloc o2).heap[w.heap.size + 2]? = some o2 ∧
    Below w.heap.size w (((w.alloc o0).alloc o1).alloc o2) ∧ (((w.alloc o0).alloc o1).alloc o2).heap.size = w.heap.size + 3 := by
  have s1 : (w.alloc o0).heap.size = w.heap.size + 1 := by simp
  have s2 : ((w.alloc o0).alloc o1).heap.size = w.heap.size + 2 := by simp
  refine ⟨?_, ?_, ?_, (((Below.refl _ _).alloc (Nat.le_refl _) _).alloc (by omega) _).alloc (by omega) _, by simp⟩
  · rw [Below.heap_alloc _ _ _ (by omega), Below.heap_alloc _ _ _ (by omega), heap_alloc_new]
  · rw [Below.heap_alloc _ _ _ (by omega), ← s1, heap_alloc_new]
  · rw [← s2, heap_alloc_new]
end Grd
end Go.Proofs.YtnkeahfcpbepjaaGreatDoor

/- The walk of grid.Fill: the wrong cell, and the right one. -/
namespace Go.Proofs.YtnkeahfcpbepjaaGreatDoor
open Go.ChangeShapes Go.WideShapes Go.ChangeAt Go.RowKit
namespace Grd
open Txt (wd)
open Sty (isSt)
theorem check_ok (a h : Int) (v : Value) (cs : List C) (w : World) (hT : Txt.Tab w) (hS : SliceAt w v cs) (hok : gridErr a h cs = 0) :
    Calls Tryz.prog 75 #[.agg #[.int .i64 a, .int .i64 h, v]] w fun e w' => e = .returned (.int .i64 0) ∧ Below w.heap.size w w' := by
  have := check_any a h v cs w hT hS
  rwa [hok] at this
end Grd
end Go.Proofs.YtnkeahfcpbepjaaGreatDoor

/- The reference's FillGrid. -/
namespace Go.Proofs.YtnkeahfcpbepjaaGreatDoor
open Go.ChangeShapes Go.WideShapes Go.ChangeAt Go.RowKit Go.Maps
namespace Grd
/-- The rows below k as f makes them, the others as they were. -/
def rowsF (n hh : Nat) (cs : List C) (f : Nat → List C → List C) (k : Nat) : List (List C) := (List.range hh).map fun y => if y < k then f y (rowAt n cs y) else rowAt n cs y
theorem rowsF_len (n hh : Nat) (cs : List C) (f : Nat → List C → List C) (k : Nat) : (rowsF n hh cs f k).length = hh := by simp [rowsF]
theorem rowsF_at (n hh : Nat) (cs : List C) (f : Nat → List C → List C) (k i : Nat) (hi : i < hh) : (rowsF n hh cs f k).getD i [] = if i < k then f i (rowAt n cs i) else rowAt n cs i := by
  simp [rowsF, List.getD, hi]
theorem rowsF_zero (n hh : Nat) (cs : List C) (f : Nat → List C → List C) : rowsF n hh cs f 0 = rowsL n cs hh := by simp [rowsF, rowsL]
theorem rowsF_set (n hh : Nat) (cs : List C) (f : Nat → List C → List C) (k : Nat) (_hk : k < hh) : rowsF n hh cs f (k + 1) = (rowsF n hh cs f k).set k (f k (rowAt n cs k)) := by
  refine List.ext_getElem (by simp [rowsF]) fun i h1 h2 => ?_
  rw [List.getElem_set]
  simp only [rowsF, List.getElem_map, List.getElem_range]
  by_cases hik : k = i
  · subst hik; simp
  · rw [if_neg hik]
    by_cases hlt : i < k
    · rw [if_pos hlt, if_pos (by omega)]
    · rw [if_neg hlt, if_neg (by omega)]
theorem rowsF_same (n hh : Nat) (cs : List C) (f : Nat → List C → List C) (k : Nat) (hk : k < hh) (hf : f k (rowAt n cs k) = rowAt n cs k) : rowsF n hh cs f (k + 1) = rowsF n hh cs f k := by
  refine List.ext_getElem (by simp [rowsF]) fun i h1 h2 => ?_
  simp only [rowsF, List.getElem_map, List.getElem_range]
  by_cases hik : i = k
  · subst hik; simp [hf]
  · by_cases hlt : i < k
    · rw [if_pos hlt, if_pos (by omega)]
    · rw [if_neg hlt, if_neg (by omega)]
theorem rowsF_flat (n hh : Nat) (cs : List C) (f : Nat → List C → List C) : (rowsF n hh cs f hh).flatten = preF n cs f hh := by
  have key : ∀ k, ((List.range k).map fun y => f y (rowAt n cs y)).flatten = preF n cs f k := by
    intro k
    induction k with
    | zero => rfl
    | succ k ih =>
      rw [List.range_succ, List.map_append, List.flatten_append, ih]
      simp [preF]
  rw [← key hh]
  congr 1
  unfold rowsF
  refine List.map_congr_left fun y hy => ?_
  rw [if_pos (List.mem_range.1 hy)]
theorem RowsAt.set {w w' : World} {base : Nat} {vs : List Value} {gs : List Nat} {rows : List (List C)} (h : RowsAt w base vs gs rows) (k : Nat) (hk : k < rows.length) (g : Nat) (v : Value) (row : List C)
    (hb : base ≤ g) (hr : RowB w' g v row) (hne : ∀ i, i < rows.length → i ≠ k → gs.getD i 0 ≠ g) (hkeep : ∀ i, i < rows.length → i ≠ k → w'.heap[gs.getD i 0]? = w.heap[gs.getD i 0]?) :
    RowsAt w' base (vs.set k v) (gs.set k g) (rows.set k row) := by
  obtain ⟨h1, h2, h3, h4⟩ := h
  have gset : ∀ {α : Type} (l : List α) (x d : α) (i : Nat), k < l.length → (l.set k x).getD i d = if i = k then x else l.getD i d := fun l x d i hkl => by
    simp only [List.getD, List.getElem?_set]
    by_cases hik : k = i
    · subst hik; simp [hkl]
    · simp [hik, Ne.symm hik]
  refine ⟨by simp [h1], by simp [h2], ?_, fun i hi => ?_⟩
  · rw [List.nodup_iff_pairwise_ne, List.pairwise_iff_getElem]
    intro i j hi hj hij
    rw [List.length_set] at hi hj
    rw [List.nodup_iff_pairwise_ne, List.pairwise_iff_getElem] at h3
    have e : ∀ q (hq : q < gs.length), gs.getD q 0 = gs[q] := fun q hq => by simp [List.getD, hq]
    rw [List.getElem_set, List.getElem_set]
    by_cases hik : k = i
    · rw [if_pos hik, if_neg (by omega), ← e j hj]
      exact fun he => hne j (by omega) (by omega) he.symm
    · rw [if_neg hik]
      by_cases hjk : k = j
      · rw [if_pos hjk, ← e i hi]; exact hne i (by omega) (by omega)
      · rw [if_neg hjk]; exact h3 i j hi hj hij
  · rw [List.length_set] at hi
    rw [gset gs _ _ _ (by omega), gset vs _ _ _ (by omega), gset rows _ _ _ hk]
    by_cases hik : i = k
    · rw [if_pos hik, if_pos hik, if_pos hik]; exact ⟨hb, hr⟩
    · rw [if_neg hik, if_neg hik, if_neg hik]
      obtain ⟨q1, cap, rest, q2, q3, q4, q5⟩ := h4 i hi
      exact ⟨q1, cap, rest, q2, q3, q4, by rw [hkeep i hi hik]; exact q5⟩
theorem RowsAt.ne {w : World} {base : Nat} {vs : List Value} {gs : List Nat} {rows : List (List C)} (h : RowsAt w base vs gs rows) (i k : Nat) (hi : i < rows.length) (hk : k < rows.length) (hne : i ≠ k) : gs.getD i 0 ≠ gs.getD k 0 := by
  obtain ⟨h1, h2, h3, h4⟩ := h
  rw [List.nodup_iff_pairwise_ne, List.pairwise_iff_getElem] at h3
  have e : ∀ q (hq : q < gs.length), gs.getD q 0 = gs[q] := fun q hq => by simp [List.getD, hq]
  rw [e i (by omega), e k (by omega)]
  rcases Nat.lt_or_ge i k with h | h
  · exact h3 i k (by omega) (by omega) h
  · exact fun q => h3 k i (by omega) (by omega) (by omega) q.symm
theorem inside_iff (p l : Int) (size x : Nat) (hx : x < size) : inside p l size x = decide (nearI p ≤ (x : Int) ∧ (x : Int) < nearI p + max 0 (nearI l)) := by
  unfold inside; rw [decide_eq_decide]; omega
end Grd
end Go.Proofs.YtnkeahfcpbepjaaGreatDoor

/- The desk's blank and Wipe. -/
namespace Go.Proofs.YtnkeahfcpbepjaaGreatDoor
open Go.ChangeShapes Go.WideShapes Go.ChangeAt Go.RowKit
namespace Put
open Grd (C SliceAt CellsAt gridErr z0 nilV rowsL RowsAt RowB flat words putRow mendL)
theorem one4d (a : Int) (b c d : Int) : (#[.int .i32 a, .int .i64 b, .int .i64 c, .int .i64 d] : Array Value).all (·.oneCell') = true := by simp [Value.oneCell']
set_option maxHeartbeats 2000000 in
theorem dblank_any (p : Nat) (bk : Int) (V : World) (h : V.cell? ⟨p, 7, none⟩ = some (.int .i64 bk)) : Calls Tryz.prog 99 #[.pointer (some ⟨p, 0, none⟩)] V fun e V' => e = .returned (.agg #[.int .i32 32, .int .i64 0, .int .i64 bk, .int .i64 0]) ∧ Below V.heap.size V V' := by
  have x0 := heap_alloc_new V (.cells #[.int .i32 0, .int .i64 0, .int .i64 0, .int .i64 0] 91)
  have kb : Below V.heap.size V (V.alloc (.cells #[.int .i32 0, .int .i64 0, .int .i64 0, .int .i64 0] 91)) := (Below.refl _ _).alloc (Nat.le_refl _) _
  have h1 := cell_stay kb h
  have HX0 : Hid _ := x0
  have HKB : Hid _ := kb
  clear x0 kb h
  go_enter Tryz.func99, Tryz.ntmps99
  go_upto_region 1 with fail
  generalize V.alloc (.cells #[.int .i32 0, .int .i64 0, .int .i64 0, .int .i64 0] 91) = Y at *
  go_wp2_with (refine wpList_store_row rfl 91 (.tmp 2) _ rfl V.heap.size #[.int .i32 32, .int .i64 0, .int .i64 bk, .int .i64 0] rfl rfl _ _ HX0.out (by kernel_rfl) rfl (one4d _ _ _ _) ?_)
  (try simp only [Exit.inBlock, Exit.then])
  refine bodyPost_ret (v := .agg #[.int .i32 32, .int .i64 0, .int .i64 bk, .int .i64 0]) ?_ rfl ⟨rfl, below_setRow HKB.out (Nat.le_refl _) _⟩
  exact results_cell_row rfl _ _ V.heap.size _ _ _ _ rfl (setRow_heap _ _ _ _ _ _ HX0.out) Tryz.underlying91 rfl (by kernel_rfl)
theorem gsD {gs : List Nat} {i : Nat} (h : i < gs.length) : gs.getD i 0 ∈ gs := by
  have e : gs.getD i 0 = gs[i] := by simp [List.getD, h]
  rw [e]
  exact List.getElem_mem h
/-- The rows that are gone stay where a row's own block turns. -/
theorem gone_kept {W W' : World} {N g : Nat} {gvs : List Value} {gone : List (List C)} (h : RowsIn W N gvs gone) (hg : ∀ i, i < gone.length → gone.getD i [] ≠ [] → blkOf (gvs.getD i nilV) ≠ some g) (ho : ∀ k, k ≠ g → W'.heap[k]? = W.heap[k]?) : RowsIn W' N gvs gone := by
  refine ⟨h.1, fun i hi => ?_⟩
  rcases h.2 i hi with h1 | ⟨h1, b, o, c, hv, h2, h3, h4, h5⟩
  · exact .inl h1
  · have hb : b ≠ g := fun e => hg i hi h1 (by rw [hv, ← e]; rfl)
    exact .inr ⟨h1, b, o, c, hv, h2, h3, cells_kept h4 (ho b hb), h5.keep (ho b hb)⟩
/-- A cell of a row is stored in its place. -/
theorem DkA.cell {W : World} {N p : Nat} {s : Scr} {rows : List (List C)} {cv tv gv rv : Value} {gvs vs : List Value} {gs : List Nat} (h : DkA W N p s rows cv tv gv rv gvs vs gs) (y x : Nat) (hy : y < rows.length) (hx : x < (rows.getD y []).length) (c : C) :
    DkA (W.setCells (gs.getD y 0) (x * 4) (words c)) N p s (rows.set y ((rows.getD y []).set x c)) cv tv gv rv gvs vs gs := by
  obtain ⟨hg, cap, rest, hv, hc1, hc2, hh⟩ := h.rin.2.2.2 y hy
  have hgl : y < gs.length := by rw [h.rin.2.1]; exact hy
  have ho : ∀ k, k ≠ gs.getD y 0 → (W.setCells (gs.getD y 0) (x * 4) (words c)).heap[k]? = W.heap[k]? := fun k hk => Grd.heap_setCells_ne _ k hk _ _ _
  have hst := Grd.store_cell (w := W) (pre := []) (post := rest) (by rw [List.nil_append]; exact hh) x hx c
  rw [List.length_nil, Nat.zero_add, List.nil_append] at hst
  have hne : p ≠ gs.getD y 0 := fun e => by
    have hb := h.blk
    rw [e, hh] at hb
    injection hb with hb
    injection hb with _ hb _
    exact absurd hb (by decide)
  have hr : RowsAt (W.setCells (gs.getD y 0) (x * 4) (words c)) N (vs.set y (vs.getD y nilV)) (gs.set y (gs.getD y 0)) (rows.set y ((rows.getD y []).set x c)) := h.rin.set y hy (gs.getD y 0) (vs.getD y nilV) _ hg ⟨cap, rest, by rw [List.length_set]; exact hv, by rw [List.length_set]; exact hc1, hc2, hst⟩ (fun i hi hn => h.rin.ne i y hi hy hn) (fun i hi hn => ho _ (h.rin.ne i y hi hy hn))
  rw [set_getD _ _ _ (by rw [h.rin.1]; exact hy), set_getD _ _ _ hgl] at hr
  refine ⟨(ho p hne).trans h.blk, h.lo, h.cvs, own_apart h.tabs hh (by decide) ho, h.gone.apart hh (by decide) ho, gone_kept h.gin (fun i hi hn e => h.gof i hi hn _ e (gsD hgl)) ho, h.gof, ?_, hr, h.two⟩
  rw [List.length_set]
  exact own_apart h.rws hh (by decide) ho
/-- Another row in the place of one. -/
theorem DkA.row {W : World} {N p : Nat} {s : Scr} {rows : List (List C)} {cv tv gv : Value} {gvs vs : List Value} {gs : List Nat} {G c : Nat} (h : DkA W N p s rows cv tv gv (.slice (some ⟨G, 0, none⟩) rows.length c) gvs vs gs) (y : Nat) (hy : y < rows.length) (g : Nat) (v : Value) (row : List C) (hg : N ≤ g) (hr : RowB W g v row)
    (hn1 : ∀ i, i < rows.length → gs.getD i 0 ≠ g) (hn2 : ∀ i, i < s.gone.length → s.gone.getD i [] ≠ [] → blkOf (gvs.getD i nilV) ≠ some g) :
    DkA (W.setCell ⟨G, y, none⟩ v) N p s (rows.set y row) cv tv gv (.slice (some ⟨G, 0, none⟩) rows.length c) gvs (vs.set y v) (gs.set y g) := by
  obtain ⟨G', c', hv, hGN, -, -, -, -, A, hA⟩ := own_cells h.rws (by omega)
  injection hv with hv1 _ hv3
  injection hv1 with hv1
  injection hv1 with hv1
  subst hv1
  have ho : ∀ k, k ≠ G → (W.setCell ⟨G, y, none⟩ v).heap[k]? = W.heap[k]? := fun k hk => store_off hk
  have hne : p ≠ G := fun e => by
    have hb := h.blk
    rw [e, hA] at hb
    injection hb with hb
    injection hb with _ hb _
    exact absurd hb (by decide)
  have hgG : g ≠ G := fun e => by
    obtain ⟨B, hB⟩ := rowB_type hr
    rw [e, hA] at hB
    injection hB with hB
    injection hB with _ hB _
    exact absurd hB (by decide)
  have hgi : ∀ i, i < rows.length → gs.getD i 0 ≠ G := fun i hi e => by
    obtain ⟨B, hB⟩ := rowB_type (h.rin.2.2.2 i hi).2
    rw [e, hA] at hB
    injection hB with hB
    injection hB with _ hB _
    exact absurd hB (by decide)
  have hr2 : RowB (W.setCell ⟨G, y, none⟩ v) g v row := by
    obtain ⟨cap, rest, q0, q1, q2, q3⟩ := hr
    exact ⟨cap, rest, q0, q1, q2, (ho g hgG).trans q3⟩
  refine ⟨(ho p hne).trans h.blk, h.lo, h.cvs, own_apart h.tabs hA (by decide) ho, ?_, ?_, ?_, ?_, ?_, h.two⟩
  · refine h.gone.kept fun q hq => ho q fun e => ?_
    subst e
    exact h.two q rfl hq
  · exact h.gin.keep (Kept.apart hA (by decide) hGN ho)
  · intro i hi hn q hq hm
    rcases List.mem_or_eq_of_mem_set hm with h1 | h1
    · exact h.gof i hi hn q hq h1
    · exact hn2 i hi hn (by rw [← h1]; exact hq)
  · rw [List.length_set]
    exact own_set h.rws
  · exact h.rin.set y hy g v row hg hr2 (fun i hi _ => hn1 i hi) (fun i hi _ => ho _ (hgi i hi))
/-- Cells from one up to another are blank. -/
def putTo (bk : Int) (row : List C) (a k : Nat) : List C := putRow row (fun x => decide (a ≤ x ∧ x < k)) fun _ => (32, 0, bk, 0)
theorem putTo_len (bk : Int) (row : List C) (a k : Nat) : (putTo bk row a k).length = row.length := Grd.putRow_len _ _ _
theorem putTo_start (bk : Int) (row : List C) (a : Nat) : putTo bk row a a = row := Grd.putRow_none _ _ _ fun x _ => by
  rw [decide_eq_false_iff_not]
  omega
theorem putTo_next (bk : Int) (row : List C) (a k : Nat) (hk : k < row.length) (ha : a ≤ k) : (putTo bk row a k).set k (32, 0, bk, 0) = putTo bk row a (k + 1) := Grd.putRow_set row _ _ (fun _ => (32, 0, bk, 0)) k hk fun x _ => by
  by_cases e : x = k
  · subst e
    simp
    omega
  · simp only [e, decide_false, Bool.or_false]
    rw [decide_eq_decide]
    omega
theorem wipe_put (bk : Int) (row : List C) (a k : Nat) : wipeRow bk row a k = mendL (putTo bk row a k) := rfl
theorem wipe_cells {V : World} {p G y g x : Nat} {u v : Value} {vs : List Value} (h1 : p ≠ g) (h2 : G ≠ g) (h : V.cell? ⟨p, 22, none⟩ = some u ∧ V.cell? ⟨G, y, none⟩ = some v) : (V.setCells g x vs).cell? ⟨p, 22, none⟩ = some u ∧ (V.setCells g x vs).cell? ⟨G, y, none⟩ = some v := by
  have e : ∀ k i, k ≠ g → (V.setCells g x vs).cell? ⟨k, i, none⟩ = V.cell? ⟨k, i, none⟩ := fun k i hk => by simp [World.cell?, Grd.heap_setCells_ne g k hk vs x V]
  exact ⟨(e p 22 h1).trans h.1, (e G y h2).trans h.2⟩
theorem cell_off {V : World} {p G i j : Nat} {v : Value} (h : p ≠ G) : (V.setCell ⟨G, i, none⟩ v).cell? ⟨p, j, none⟩ = V.cell? ⟨p, j, none⟩ := by
  simp [World.cell?, store_off (W := V) (p := G) (i := i) (v := v) h]
theorem rowB_shape {W : World} {g : Nat} {v : Value} {row : List C} (h : RowB W g v row) : ∃ a c, v = .slice a row.length c := by
  obtain ⟨cap, rest, hv, -⟩ := h
  exact ⟨_, cap, hv⟩
set_option maxHeartbeats 8000000 in
set_option maxRecDepth 100000 in
theorem deskWipe_any (W : World) (N p : Nat) (s : Scr) (rows : List (List C)) (hN : N ≤ W.heap.size) (hD : DkAt W N p s rows) (n y a b : Nat) (hw : s.w = n) (hn : n ≤ 120) (hy : y < rows.length) (hyb : y ≤ 60) (hrl : rows.length ≤ 60) (_ha : a ≤ n) (_hb : b ≤ 240) (hab : a ≤ min b n) (hrow : (rows.getD y []).length = n) (hn1 : 1 ≤ n) :
    Calls Tryz.prog 96 #[.pointer (some ⟨p, 0, none⟩), .int .i64 (y : Int), .int .i64 (a : Int), .int .i64 (b : Int)] W fun e W' => e = .returned (.tuple #[]) ∧ DkAt W' N p s (rows.set y (wipeRow s.sb (rows.getD y []) a (min b n))) ∧ Below N W W' := by
  have m1 := Grd.max2 (a : Int) 0
  rw [show max (a : Int) 0 = (a : Int) by omega] at m1
  have m2 := Grd.min2 (b : Int) (n : Int)
  rw [show min (b : Int) (n : Int) = ((min b n : Nat) : Int) by omega] at m2
  obtain ⟨row, hr⟩ : ∃ row, row = rows.getD y [] := ⟨_, rfl⟩
  rw [← hr] at hrow ⊢
  obtain ⟨e, he⟩ : ∃ e, e = min b n := ⟨_, rfl⟩
  rw [← he] at hab m2 ⊢
  have hen : e ≤ n := by omega
  have HR : Hid (row = rows.getD y []) := hr
  have HW : Hid (s.w = n) := hw
  have HD0 : Hid (DkAt W N p s (rows.set y (putTo s.sb row a a))) := by unfold Hid; rw [putTo_start, hr, set_getD _ _ _ hy]; exact hD
  clear hD hr hw he
  go_enter Tryz.func96, Tryz.ntmps96
  go_wp2_with fail
  go_loopg [8] n (fun q i wr => ∃ k : Nat, i = .int .i64 (k : Int) ∧ a ≤ k ∧ k ≤ e ∧ e - k ≤ q ∧ DkAt wr N p s (rows.set y (putTo s.sb row a k)) ∧ Below N W wr)
  case atStart => exact ⟨a, rfl, Nat.le_refl _, hab, by omega, HD0.out, Below.refl _ _⟩
  case round =>
    clear HD0
    obtain ⟨k, rfl, hk1, hk2, hq, hDk, hBk⟩ := hrel
    obtain ⟨cv, tv, gv, rv, gvs, vs, gs, hA⟩ := hDk
    have hyl : y < (rows.set y (putTo s.sb row a k)).length := by rw [List.length_set]; exact hy
    obtain ⟨G, rc, hrv, hGN, hrc1, hrc2, hvl, hcell, A, hGA⟩ := own_cells hA.rws (by omega)
    obtain ⟨hg, cap, rest, hvv, hc1, hc2, hgh⟩ := hA.rin.2.2.2 y hyl
    have hgy : (rows.set y (putTo s.sb row a k)).getD y [] = putTo s.sb row a k := getD_set_same _ _ _ _ hy
    rw [hgy, putTo_len, hrow] at hvv hc1
    rw [hgy] at hgh
    have d1 := hcell y hyl
    rw [hvv] at d1
    obtain ⟨⟨c0, -, -, -, -, -, -, c7, -⟩, ⟨-, -, -, -, -, -, -, -, -, -, -, c22⟩, -⟩ := sh_cells hA.blk
    rw [HW.out] at c0
    rw [List.length_set] at hrv hrc1
    rw [hrv] at c22
    have HBK : Hid (Below N W wr) := hBk
    have hsz := hBk.size
    have hpl := heap_lt hA.blk
    have hGl := heap_lt hGA
    have hgl := heap_lt hgh
    have hpG : p ≠ gs.getD y 0 := fun e => by
      have hb := hA.blk
      rw [e, hgh] at hb
      injection hb with hb
      injection hb with _ hb _
      exact absurd hb (by decide)
    have hGg : G ≠ gs.getD y 0 := fun e => by
      rw [e, hgh] at hGA
      injection hGA with hb
      injection hb with _ hb _
      exact absurd hb (by decide)
    obtain ⟨g, hgE⟩ : ∃ g, g = gs.getD y 0 := ⟨_, rfl⟩
    by_cases hlt : k < e
    · have lt1 : (k : Int) < (e : Int) := by omega
      have lt2 : (k : Int) < (n : Int) := by omega
      have hkr : k < (putTo s.sb row a k).length := by rw [putTo_len, hrow]; omega
      have HNX : Hid (∀ V, Below wr.heap.size wr V → DkAt (V.setCells g (k * 4) (words (32, 0, s.sb, 0))) N p s (rows.set y (putTo s.sb row a (k + 1)))) := fun V hV => by
        have h1 := (hA.next hV).cell y k hyl (by rw [hgy]; exact hkr) (32, 0, s.sb, 0)
        rw [hgy, putTo_next s.sb row a k (by omega) hk1, List.set_set, ← hgE] at h1
        exact ⟨_, _, _, _, _, _, _, h1⟩
      have HFR : Hid (∀ V, Below wr.heap.size wr V → (∀ i, V.frozen? ⟨g, i, none⟩ = false) ∧ CellsAt V g 0 (putTo s.sb row a k)) := fun V hV => by
        have hx := Grd.carry hgh hV
        rw [← hgE] at hx
        exact ⟨fun i => frozen_cells hx i, Grd.cellsAt_flat hx⟩
      rw [← hgE] at d1 hg hpG hGg
      have HNG : Hid (N ≤ g) := hg
      have HCE : Hid (∀ V, Below wr.heap.size wr V → V.cell? ⟨p, 22, none⟩ = some (.slice (some ⟨G, 0, none⟩) rows.length rc) ∧ V.cell? ⟨G, y, none⟩ = some (.slice (some ⟨g, 0, none⟩) n cap)) := fun V hV => ⟨cell_stay hV c22, cell_stay hV d1⟩
      have HBL : Hid (∀ V, Below wr.heap.size wr V → Calls Tryz.prog 99 #[.pointer (some ⟨p, 0, none⟩)] V fun e V' => e = .returned (.agg #[.int .i32 32, .int .i64 0, .int .i64 s.sb, .int .i64 0]) ∧ Below V.heap.size V V') := fun V hV => dblank_any p s.sb V (cell_stay hV c7)
      have HPK : Hid (p ≠ g ∧ G ≠ g) := ⟨hpG, hGg⟩
      have HNW : Hid (N ≤ wr.heap.size) := by unfold Hid; omega
      clear hA hcell hGA hgh hgy hvv hBk hg hpG hGg hgE hvl hrv hkr
      have b0 : Below wr.heap.size wr wr.drew := (Below.refl _ _).drew
      have s0 := HCE.out _ b0
      go_upto_region 3 with fail
      go_region_held3 (fun w' => w'.cell? ⟨p, 22, none⟩ = some (.slice (some ⟨G, 0, none⟩) rows.length rc) ∧ w'.cell? ⟨G, y, none⟩ = some (.slice (some ⟨g, 0, none⟩) n cap))
        (first | exact s2 | exact s1 | exact s0)
        (first | (go_at_call 99; refine (HBL.out _ b0).mono ?_; rintro e V ⟨rfl, b1⟩; have q1 := b0.trans (b1.mono b0.size); have s1 := HCE.out _ q1; obtain ⟨fr, hcs⟩ := HFR.out _ q1; obtain ⟨o0, o1, o2, o3⟩ := hcs k (by rw [putTo_len, hrow]; omega); rw [Nat.zero_add] at o0 o1 o2 o3; have f0 := fr (k * 4); have f1 := fr (k * 4 + 1); have f2 := fr (k * 4 + 2); have f3 := fr (k * 4 + 3); have s2 := wipe_cells (g := g) (x := k * 4) (vs := words (32, 0, s.sb, 0)) HPK.out.1 HPK.out.2 s1; have HV : Hid (Below wr.heap.size wr V) := q1; clear b1 fr hcs))
      go_wp2_with fail
      go_roundg (e - (k + 1))
      case measure => omega
      case rel => exact ⟨k + 1, by go_num, by omega, by omega, by omega, HNX.out _ HV.out, HBK.out.trans ((HV.out.mono HNW.out).trans (((((Below.refl _ _).setCell HNG.out _).setCell HNG.out _).setCell HNG.out _).setCell HNG.out _))⟩
    · have lt1 : ¬ (k : Int) < (e : Int) := by omega
      have hke : k = e := by omega
      subst hke
      have HMR : Hid (∀ V, Below wr.heap.size wr V → Calls Tryz.prog 100 #[.slice (some ⟨gs.getD y 0, 0, none⟩) n cap] V fun e w' => ∃ v' g', e = .returned v' ∧ V.heap.size ≤ g' ∧ RowB w' g' v' (mendL (putTo s.sb row a k)) ∧ Below V.heap.size V w') := fun V hV => by
        have hx := Grd.cellsAt_flat (Grd.carry hgh hV)
        have h := Grd.mendRow_any (gs.getD y 0) 0 cap (putTo s.sb row a k) V hx (by rw [putTo_len, hrow]; omega)
        rw [putTo_len, hrow] at h
        exact h
      have HCE : Hid (∀ V, Below wr.heap.size wr V → V.cell? ⟨p, 22, none⟩ = some (.slice (some ⟨G, 0, none⟩) rows.length rc) ∧ V.cell? ⟨G, y, none⟩ = some (.slice (some ⟨gs.getD y 0, 0, none⟩) n cap)) := fun V hV => ⟨cell_stay hV c22, cell_stay hV d1⟩
      have HPG : Hid (p ≠ G) := fun e' => by
        have hb := hA.blk
        rw [e', hGA] at hb
        injection hb with hb
        injection hb with _ hb _
        exact absurd hb (by decide)
      have HFR : Hid (∀ V, Below wr.heap.size wr V → V.frozen? ⟨G, y, none⟩ = false) := fun V hV => frozen_cells (Grd.carry hGA hV) y
      rw [show rv = _ from hrv] at hA
      have HEND : Hid (∀ V g' v', Below wr.heap.size wr V → wr.heap.size ≤ g' → RowB V g' v' (mendL (putTo s.sb row a k)) → DkAt (V.setCell ⟨G, y, none⟩ v') N p s (rows.set y (wipeRow s.sb row a k)) ∧ Below N wr (V.setCell ⟨G, y, none⟩ v')) := fun V g' v' hV hg' hr' => by
        have hl : (rows.set y (putTo s.sb row a k)).length = rows.length := List.length_set
        have h1 := DkA.row (G := G) (c := rc) (by rw [hl]; exact hA.next hV) y hyl g' v' _ (by omega) hr' (fun i hi => by have := hA.rin.lt i hi; omega) (fun i hi hn e' => by
          rcases hA.gin.2 i hi with ⟨he', -⟩ | ⟨-, b', o', c', hv', -, -, hC', -⟩
          · exact hn he'
          · rw [hv'] at e'
            have e2 : b' = g' := by simpa [blkOf] using e'
            have := lt_of_cells hC' hn
            omega)
        rw [List.set_set, ← wipe_put] at h1
        exact ⟨⟨_, _, _, _, _, _, _, h1⟩, (hV.mono (by omega)).setCell hGN _⟩
      clear hA hcell hGA hgh hgy hvv hBk hgE hvl hrv hpG hGg c7
      clear hgl hc1
      generalize gs.getD y 0 = g' at *
      have b0 : Below wr.heap.size wr wr.drew := (Below.refl _ _).drew
      go_upto_region 4 with fail
      go_region_with (first | (go_at_call 100; refine (HMR.out _ b0).mono ?_; rintro e V ⟨v', g2, rfl, hg', hr', b1⟩; have q1 := b0.trans (b1.mono b0.size); have s1 := HCE.out _ q1; obtain ⟨c1', s1'⟩ := s1; have fr := HFR.out _ q1; obtain ⟨na, nc, rfl⟩ := rowB_shape hr'; have HE : Hid _ := HEND.out V g2 _ q1 (by simpa using hg') hr'; clear b1 hr' q1 hg'))
      all_goals go_wp2_with fail
      all_goals go_end0
      all_goals exact ⟨rfl, HE.out.1, HBK.out.trans HE.out.2⟩
end Put
end Go.Proofs.YtnkeahfcpbepjaaGreatDoor

/- What stays of a sheet whose words change; Has. -/
namespace Go.Proofs.YtnkeahfcpbepjaaGreatDoor
open Go.ChangeShapes Go.WideShapes Go.ChangeAt Go.RowKit
namespace Put
open Grd (C SliceAt CellsAt gridErr z0 nilV flat rowsL)
theorem ShA.set {t : TypeId} (ht : IsSheet t) {W : World} {M N p : Nat} {s s' : Scr} {rows : List (List C)} {cv tv gv rv : Value} {gvs vs : List Value} (h : ShA t W M N p s rows cv tv gv rv gvs vs) (i : Nat) (v : Value) (e : (shA s cv tv gv rv).setIfInBounds i v = shA s' cv tv gv rv) (h1 : s'.tabs = s.tabs) (h2 : s'.gone = s.gone) : ShA t (W.setCell ⟨p, i, none⟩ v) M N p s' rows cv tv gv rv gvs vs :=
  h.put ht (store_at h.blk e) (fun _ hk => store_off hk) h1 h2
theorem ShAt.set {t : TypeId} (ht : IsSheet t) {W : World} {M N p : Nat} {s s' : Scr} {rows : List (List C)} (h : ShAt t W M N p s rows) (i : Nat) (v : Value) (e : ∀ cv tv gv rv, (shA s cv tv gv rv).setIfInBounds i v = shA s' cv tv gv rv) (h1 : s'.tabs = s.tabs) (h2 : s'.gone = s.gone) : ShAt t (W.setCell ⟨p, i, none⟩ v) M N p s' rows := by
  obtain ⟨cv, tv, gv, rv, gvs, vs, h⟩ := h
  exact ⟨cv, tv, gv, rv, gvs, vs, h.set ht i v (e _ _ _ _) h1 h2⟩
theorem ShAt.next {t : TypeId} {W W' : World} {M N p : Nat} {s : Scr} {rows : List (List C)} (h : ShAt t W M N p s rows) (hb : Below W.heap.size W W') : ShAt t W' M N p s rows := by
  obtain ⟨cv, tv, gv, rv, gvs, vs, h⟩ := h
  exact ⟨cv, tv, gv, rv, gvs, vs, h.next hb⟩
theorem ShAt.lo {t : TypeId} {W : World} {M N p : Nat} {s : Scr} {rows : List (List C)} (h : ShAt t W M N p s rows) : N ≤ p := by
  obtain ⟨cv, tv, gv, rv, gvs, vs, h⟩ := h
  exact h.lo
theorem ShAt.drew {t : TypeId} {W : World} {M N p : Nat} {s : Scr} {rows : List (List C)} (h : ShAt t W M N p s rows) : ShAt t W.drew M N p s rows := h.next ((Below.refl _ _).drew)
/-- The words of a sheet that are numbers. -/
theorem ShAt.words {t : TypeId} {W : World} {M N p : Nat} {s : Scr} {rows : List (List C)} (h : ShAt t W M N p s rows) :
    W.cell? ⟨p, 0, none⟩ = some (.int .i64 s.w) ∧ W.cell? ⟨p, 1, none⟩ = some (.int .i64 s.h) ∧ W.cell? ⟨p, 3, none⟩ = some (.int .i64 s.x) ∧ W.cell? ⟨p, 4, none⟩ = some (.int .i64 s.y) ∧ W.cell? ⟨p, 5, none⟩ = some (.bool s.late) ∧ W.cell? ⟨p, 9, none⟩ = some (.int .i64 s.top) ∧ W.cell? ⟨p, 10, none⟩ = some (.int .i64 s.bot) ∧ W.cell? ⟨p, 11, none⟩ = some (.int .i64 s.modes) ∧ W.cell? ⟨p, 19, none⟩ = some (.int .i32 s.last) ∧ ∀ i, W.frozen? ⟨p, i, none⟩ = false := by
  obtain ⟨cv, tv, gv, rv, gvs, vs, h⟩ := h
  obtain ⟨⟨c0, c1, -, c3, c4, c5, -, -, -, c9, c10⟩, ⟨c11, -, -, -, -, -, -, -, c19, -⟩, f⟩ := sh_cells h.blk
  exact ⟨c0, c1, c3, c4, c5, c9, c10, c11, c19, f⟩
theorem ShAt.fin {t : TypeId} (ht : IsSheet t) {W : World} {M N p : Nat} {s s' : Scr} {rows : List (List C)} (h : ShAt t W M N p s rows) (i : Nat) (v : Value) (e : ∀ cv tv gv rv, (shA s cv tv gv rv).setIfInBounds i v = shA s' cv tv gv rv) (h1 : s'.tabs = s.tabs) (h2 : s'.gone = s.gone) : ∀ v', v' = v → ShAt t (W.setCell ⟨p, i, none⟩ v').drew M N p s' rows ∧ Below N W (W.setCell ⟨p, i, none⟩ v').drew := fun v' hv => by
  subst hv
  exact ⟨(h.set ht i _ e h1 h2).drew, ((Below.refl _ _).setCell h.lo _).drew⟩
theorem wrap_id (a : Int) (h0 : -9223372036854775808 ≤ a) (h1 : a ≤ 9223372036854775807) : IntKind.i64.wrap a = a := by
  rw [IntKind.wrap_i64]
  omega
theorem int_wrap (a : Int) (h0 : -9223372036854775808 ≤ a) (h1 : a ≤ 9223372036854775807) : Value.int .i64 (IntKind.i64.wrap a) = Value.int .i64 a := by rw [wrap_id a h0 h1]
/-- Are these bits set? -/
def hasB (m b : Int) : Bool := bits .and .i64 m b == b
theorem has_any {M N p : Nat} {s : Scr} {rows : List (List C)} (b : Int) (W : World) (hS : ShAt 64 W M N p s rows) : Calls Tryz.prog 55 #[.pointer (some ⟨p, 0, none⟩), .int .i64 b] W fun e w' => e = .returned (.bool (hasB s.modes b)) ∧ W = w' := by
  obtain ⟨c0, c1, c3, c4, c5, c9, c10, c11, c19, f⟩ := hS.words
  clear c0 c1 c3 c4 c5 c9 c10 c19 f hS
  go_enter Tryz.func55, Tryz.ntmps55
  go_wp2_with fail
  go_ret
  exact ⟨rfl, rfl⟩
end Put
end Go.Proofs.YtnkeahfcpbepjaaGreatDoor

/- (*sheet.Sheet).alter: a row is made anew. -/
namespace Go.Proofs.YtnkeahfcpbepjaaGreatDoor
open Go.ChangeShapes Go.WideShapes Go.ChangeAt Go.RowKit
namespace Put
open Grd (C SliceAt CellsAt gridErr z0 nilV flat rowsL OwnG RowB)
/-- Blocks of other types than those that a sheet writes to are kept. -/
def Other (t : TypeId) : Prop := t ≠ 64 ∧ t ≠ 4 ∧ t ≠ 22
def OtherO (o : Obj) : Prop := ∀ (A : Array Value) (t : TypeId) (f : Nat × Nat), o = .cells A t f → Other t
def Framed (W W' : World) : Prop := ∀ (k : Nat) (o : Obj), W.heap[k]? = some o → OtherO o → W'.heap[k]? = some o
theorem Framed.refl (W : World) : Framed W W := fun _ _ h _ => h
theorem Framed.trans {a b c : World} (h : Framed a b) (k : Framed b c) : Framed a c := fun i o hi ho => k i o (h i o hi ho) ho
theorem Framed.of_below {W W' : World} (h : Below W.heap.size W W') : Framed W W' := fun k _ hk _ => (h.block k (heap_lt hk)).trans hk
theorem Framed.store {W : World} {p i : Nat} {v : Value} {A : Array Value} {t : TypeId} (hp : W.heap[p]? = some (.cells A t (0, 0))) (ht : ¬ Other t) : Framed W (W.setCell ⟨p, i, none⟩ v) := fun k o hk ho => by
  have hne : k ≠ p := by
    intro e
    rw [e, hp] at hk
    injection hk with hk
    exact ht (ho A t (0, 0) hk.symm)
  exact (store_off hne).trans hk
theorem other_cells {A : Array Value} {t : TypeId} {f : Nat × Nat} (h : Other t) : OtherO (.cells A t f) := fun B u g e => by
  injection e with _ e _
  rw [← e]
  exact h
theorem not_other_sheet : ¬ Other 64 := fun h => h.1 rfl
theorem not_other_rows : ¬ Other 22 := fun h => h.2.2 rfl
theorem not_other_bool : ¬ Other 4 := fun h => h.2.1 rfl
theorem Framed.cell {W W' : World} (h : Framed W W') {k i : Nat} {A : Array Value} {t : TypeId} (hk : W.heap[k]? = some (.cells A t (0, 0))) (ho : Other t) : W'.cell? ⟨k, i, none⟩ = W.cell? ⟨k, i, none⟩ := by
  have h1 := h k _ hk (other_cells ho)
  simp only [World.cell?, h1, hk]
/-- What a sheet is behind a call that changes it. -/
def Ran (W : World) (M N p : Nat) (s' : Scr) (rows' : List (List C)) (e : Ending) (W' : World) : Prop := e = .returned (.tuple #[]) ∧ ShAt 64 W' M N p s' rows' ∧ Below N W W' ∧ Framed W W'
theorem own_rowB {W : World} {base : Nat} {v : Value} {row : List C} (h : OwnG W base v row) : ∃ g, base ≤ g ∧ RowB W g v row := by
  obtain ⟨g, cap, rest, ⟨t, rfl⟩, hv, hg, h1, h2, h3⟩ := h
  exact ⟨g, hg, cap, rest, hv, h1, h2, h3⟩
theorem ShA.storeRow {V : World} {M N p : Nat} {s : Scr} {rows : List (List C)} {cv tv gv rv : Value} {gvs vs : List Value} (h : ShA 64 V M N p s rows cv tv gv rv gvs vs) {rb rc y : Nat} (hrv : rv = .slice (some ⟨rb, 0, none⟩) rows.length rc) {v : Value} {row' : List C} (hr : RowIn V M v row') : ShA 64 (V.setCell ⟨rb, y, none⟩ v) M N p s (rows.set y row') cv tv gv rv gvs (vs.set y v) := by
  obtain ⟨hlo, A, f, hA⟩ := owns_block h.rws rb (by rw [hrv]; rfl)
  have hA0 : ∃ A, V.heap[rb]? = some (.cells A 22 (0, 0)) := by
    have h1 := h.rws
    rw [hrv] at h1
    obtain ⟨-, ⟨h1, -⟩ | ⟨g', cap, cur, hv, -, hh, -⟩⟩ := h1
    · injection h1 with h1
      cases h1
    · injection hv with hv1 _ _
      injection hv1 with hv1
      injection hv1 with hv1
      subst hv1
      exact ⟨cur, hh⟩
  obtain ⟨B, hB⟩ := hA0
  have hne : p ≠ rb := by
    intro e
    rw [← e, h.blk] at hB
    injection hB with hB
    injection hB with _ hB _
    exact absurd hB (by decide)
  have hK : Kept M V (V.setCell ⟨rb, y, none⟩ v) := Kept.store hB (by decide) (Nat.le_trans h.ml hlo)
  refine ⟨(store_off hne).trans h.blk, h.lo, h.ml, h.cvs, own_off h.tabs hB (by decide), owns_kept h.gone fun g hg => store_off fun e => h.two rb (by rw [hrv]; rfl) (by rw [hg, e]), h.gin.keep hK, ?_, (h.rin.set y v row' hr).keep hK, h.two⟩
  have h1 := h.rws
  rw [hrv] at h1 ⊢
  rw [List.length_set]
  exact own_set h1
end Put
end Go.Proofs.YtnkeahfcpbepjaaGreatDoor

/- halves.Mend of any row: halves of two runes that came together become blanks, too. -/
namespace Go.Proofs.YtnkeahfcpbepjaaGreatDoor
open Go.ChangeShapes Go.WideShapes Go.ChangeAt Go.RowKit
namespace Grd
open Txt (wd)
/-- Does the cell have the half of another rune behind it? -/
def partB (cs : List C) (x : Nat) : Bool := decide (wd (cs.getD x z0).1 = 2) && decide (x + 1 < cs.length ∧ (cs.getD (x + 1) z0).1 = 0 ∧ (cs.getD x z0).2 ≠ (cs.getD (x + 1) z0).2)
/-- First halves of runes whose second half isn't theirs: blanks. -/
def unpart (cs : List C) : List C := (List.range cs.length).map fun x => if partB cs x then (32, (cs.getD x z0).2) else cs.getD x z0
theorem unpart_len (cs : List C) : (unpart cs).length = cs.length := by simp [unpart]
theorem unpart_at (cs : List C) (x : Nat) (hx : x < cs.length) : (unpart cs).getD x z0 = if partB cs x then (32, (cs.getD x z0).2) else cs.getD x z0 := by
  simp [unpart, List.getD, hx]
theorem unpart_alike (cs : List C) (h : Alike cs) : unpart cs = cs := by
  refine List.ext_getElem (unpart_len cs) fun i h1 h2 => ?_
  have e1 : (unpart cs).getD i z0 = (unpart cs)[i] := by simp [List.getD, h1]
  have e2 : cs.getD i z0 = cs[i] := by simp [List.getD, h2]
  rw [← e1, ← e2, unpart_at cs i h2]
  have hp : partB cs i = false := by
    unfold partB
    by_cases hw : wd (cs.getD i z0).1 = 2
    · by_cases hq : i + 1 < cs.length ∧ (cs.getD (i + 1) z0).1 = 0 ∧ (cs.getD i z0).2 ≠ (cs.getD (i + 1) z0).2
      · exact absurd (h i hq.1 hw hq.2.1) hq.2.2
      · rw [decide_eq_false hq, Bool.and_false]
    · rw [decide_eq_false hw, Bool.false_and]
  rw [hp]
  rfl
theorem wd_blank : wd 32 ≠ 2 := by decide +kernel
theorem wd_zero : wd 0 ≠ 2 := by decide +kernel
def mendStepG (cs : List C) (x : Nat) : List C := if loose cs x || partB cs x then setR cs x else cs
def mendToG (cs : List C) : Nat → List C
  | 0 => cs
  | k + 1 => mendStepG (mendToG cs k) k
theorem mendStepG_len (cs : List C) (x : Nat) : (mendStepG cs x).length = cs.length := by
  unfold mendStepG setR
  split <;> simp
theorem mendToG_len (cs : List C) : ∀ k, (mendToG cs k).length = cs.length
  | 0 => rfl
  | k + 1 => by
    show (mendStepG (mendToG cs k) k).length = _
    rw [mendStepG_len, mendToG_len cs k]
theorem step_at (cs : List C) (k j : Nat) (hk : k < cs.length) (b : Bool) : (if b then setR cs k else cs).getD j z0 = if j = k ∧ b = true then (32, (cs.getD k z0).2) else cs.getD j z0 := by
  cases b with
  | false => simp
  | true =>
    rw [if_pos rfl, setR_at cs k j hk]
    by_cases e : j = k
    · rw [if_pos e, if_pos ⟨e, rfl⟩]
    · rw [if_neg e, if_neg (fun h => e h.1)]
/-- Cell by cell: what is mended is what mending the other row makes; what isn't yet is as it was. -/
theorem mendG_at (cs : List C) : ∀ k, k ≤ cs.length → ∀ j, j < cs.length → (mendToG cs k).getD j z0 = (if j < k then (mendTo (unpart cs) k).getD j z0 else cs.getD j z0) ∧ (k ≤ j → (mendTo (unpart cs) k).getD j z0 = (unpart cs).getD j z0)
  | 0, _, j, _ => by
    rw [if_neg (by omega)]
    exact ⟨rfl, fun _ => rfl⟩
  | k + 1, hk, j, hj => by
    have ih := mendG_at cs k (by omega)
    have hkl : k < cs.length := by omega
    have lA := mendToG_len cs k
    have lB : (mendTo (unpart cs) k).length = cs.length := by rw [mendTo_len, unpart_len]
    have Ak : (mendToG cs k).getD k z0 = cs.getD k z0 := by rw [(ih k hkl).1, if_neg (by omega)]
    have Bk : (mendTo (unpart cs) k).getD k z0 = (unpart cs).getD k z0 := (ih k hkl).2 (Nat.le_refl _)
    have Ak1 : k + 1 < cs.length → (mendToG cs k).getD (k + 1) z0 = cs.getD (k + 1) z0 := fun h => by rw [(ih (k + 1) h).1, if_neg (by omega)]
    have Bk1 : k + 1 < cs.length → (mendTo (unpart cs) k).getD (k + 1) z0 = (unpart cs).getD (k + 1) z0 := fun h => (ih (k + 1) h).2 (by omega)
    have Ap : 0 < k → (mendToG cs k).getD (k - 1) z0 = (mendTo (unpart cs) k).getD (k - 1) z0 := fun h => by rw [(ih (k - 1) (by omega)).1, if_pos (by omega)]
    have pA : partB (mendToG cs k) k = partB cs k := by
      unfold partB
      rw [Ak, lA]
      by_cases h1 : k + 1 < cs.length
      · rw [Ak1 h1]
      · have e1 : ¬ (k + 1 < cs.length ∧ ((mendToG cs k).getD (k + 1) z0).1 = 0 ∧ (cs.getD k z0).2 ≠ ((mendToG cs k).getD (k + 1) z0).2) := fun h => h1 h.1
        have e2 : ¬ (k + 1 < cs.length ∧ (cs.getD (k + 1) z0).1 = 0 ∧ (cs.getD k z0).2 ≠ (cs.getD (k + 1) z0).2) := fun h => h1 h.1
        rw [decide_eq_false e1, decide_eq_false e2]
    have zero1 : k + 1 < cs.length → (((unpart cs).getD (k + 1) z0).1 = 0 ↔ (cs.getD (k + 1) z0).1 = 0) := fun h1 => by
      rw [unpart_at cs (k + 1) h1]
      by_cases hp : partB cs (k + 1) = true
      · rw [if_pos hp]
        unfold partB at hp
        simp only [Bool.and_eq_true, decide_eq_true_eq] at hp
        constructor
        · intro h
          exact absurd (show (32 : Int) = 0 from h) (by decide)
        · intro h
          rw [h] at hp
          exact absurd hp.1 wd_zero
      · rw [if_neg hp]
    -- the cell k, behind both steps
    have key : (if loose (mendToG cs k) k || partB (mendToG cs k) k then ((32 : Int), ((mendToG cs k).getD k z0).2) else (mendToG cs k).getD k z0) = (if loose (mendTo (unpart cs) k) k then ((32 : Int), ((mendTo (unpart cs) k).getD k z0).2) else (mendTo (unpart cs) k).getD k z0) := by
      rw [pA]
      by_cases hp : partB cs k = true
      · have hu : (unpart cs).getD k z0 = (32, (cs.getD k z0).2) := by rw [unpart_at cs k hkl, if_pos hp]
        have hlB : loose (mendTo (unpart cs) k) k = false := by
          unfold loose
          rw [Bk, hu]
          show (if (32 : Int) = 0 then _ else _) = false
          rw [if_neg (by decide)]
          show (decide (wd 32 = 2) && _) = false
          rw [decide_eq_false wd_blank]
          rfl
        rw [hp, Bool.or_true, if_pos rfl, hlB, if_neg (by decide), Bk, hu, Ak]
      · have hp' : partB cs k = false := by simpa using hp
        have hu : (unpart cs).getD k z0 = cs.getD k z0 := by rw [unpart_at cs k hkl, if_neg hp]
        have hll : loose (mendToG cs k) k = loose (mendTo (unpart cs) k) k := by
          unfold loose
          rw [Ak, Bk, hu, lA, lB]
          by_cases h0 : (cs.getD k z0).1 = 0
          · rw [if_pos h0, if_pos h0]
            by_cases hk0 : k = 0
            · simp [hk0]
            · rw [Ap (by omega)]
          · rw [if_neg h0, if_neg h0]
            by_cases h1 : k + 1 = cs.length
            · simp [h1]
            · have h2 : k + 1 < cs.length := by omega
              rw [Ak1 h2, Bk1 h2]
              congr 2
              rw [decide_eq_decide]
              exact not_congr (zero1 h2).symm
        rw [hp', Bool.or_false, hll, Ak, Bk, hu]
    have eA : (mendToG cs (k + 1)).getD j z0 = if j = k ∧ (loose (mendToG cs k) k || partB (mendToG cs k) k) = true then (32, ((mendToG cs k).getD k z0).2) else (mendToG cs k).getD j z0 := step_at _ k j (by rw [lA]; exact hkl) _
    have eB : (mendTo (unpart cs) (k + 1)).getD j z0 = if j = k ∧ loose (mendTo (unpart cs) k) k = true then (32, ((mendTo (unpart cs) k).getD k z0).2) else (mendTo (unpart cs) k).getD j z0 := step_at _ k j (by rw [lB]; exact hkl) _
    by_cases e : j = k
    · rw [eA, eB]
      subst e
      refine ⟨?_, fun h => by omega⟩
      rw [if_pos (by omega : j < j + 1)]
      simp only [true_and]
      exact key
    · have eA' : (mendToG cs (k + 1)).getD j z0 = (mendToG cs k).getD j z0 := by rw [eA, if_neg (fun h => e h.1)]
      have eB' : (mendTo (unpart cs) (k + 1)).getD j z0 = (mendTo (unpart cs) k).getD j z0 := by rw [eB, if_neg (fun h => e h.1)]
      rw [eA', eB']
      by_cases hlt : j < k
      · rw [if_pos (by omega : j < k + 1), (ih j hj).1, if_pos hlt]
        exact ⟨rfl, fun h => by omega⟩
      · rw [if_neg (by omega : ¬ j < k + 1), (ih j hj).1, if_neg hlt]
        exact ⟨rfl, fun _ => (ih j hj).2 (by omega)⟩
theorem mendG_eq (cs : List C) : mendToG cs cs.length = mendL (unpart cs) := by
  have hl : (mendL (unpart cs)).length = cs.length := by unfold mendL; rw [mendTo_len, unpart_len]
  refine List.ext_getElem (by rw [mendToG_len, hl]) fun i h1 h2 => ?_
  have hi : i < cs.length := by rw [mendToG_len] at h1; exact h1
  have e1 : (mendToG cs cs.length).getD i z0 = (mendToG cs cs.length)[i] := by simp [List.getD, h1]
  have e2 : (mendL (unpart cs)).getD i z0 = (mendL (unpart cs))[i] := by simp [List.getD, h2]
  rw [← e1, ← e2, (mendG_at cs cs.length (Nat.le_refl _) i hi).1, if_pos hi]
  unfold mendL
  rw [unpart_len]
end Grd
end Go.Proofs.YtnkeahfcpbepjaaGreatDoor

/- halves.isParted and Mend of any row: the walks. -/
namespace Go.Proofs.YtnkeahfcpbepjaaGreatDoor
open Go.ChangeShapes Go.WideShapes Go.ChangeAt Go.RowKit
namespace Grd
open Txt (wd)
set_option maxHeartbeats 1000000 in
theorem parted_two (b o c : Nat) (cs : List C) (x : Nat) (r f bk xx f2 b2 x2 : Int) (w : World) (hT : Txt.Tab w) (hx : x + 1 < cs.length) (hn : cs.length ≤ 1000000)
    (h0 : w.cell? ⟨b, o + x * 4, none⟩ = some (.int .i32 r)) (h1 : w.cell? ⟨b, o + x * 4 + 1, none⟩ = some (.int .i64 f)) (h2 : w.cell? ⟨b, o + x * 4 + 2, none⟩ = some (.int .i64 bk)) (h3 : w.cell? ⟨b, o + x * 4 + 3, none⟩ = some (.int .i64 xx))
    (p1 : w.cell? ⟨b, o + (x + 1) * 4 + 1, none⟩ = some (.int .i64 f2)) (p2 : w.cell? ⟨b, o + (x + 1) * 4 + 2, none⟩ = some (.int .i64 b2)) (p3 : w.cell? ⟨b, o + (x + 1) * 4 + 3, none⟩ = some (.int .i64 x2)) (hw : wd r = 2) (d : Bool) (hd : d = decide ((f, bk, xx) ≠ (f2, b2, x2))) :
    Calls Tryz.prog 165 #[.slice (some ⟨b, o, none⟩) cs.length c, .int .i64 (x : Int)] w fun e w' => e = .returned (.bool d) ∧ Below w.heap.size w w' := by
  have HT : Hid (Txt.Tab w) := hT
  have hx0 : x < cs.length := by omega
  have hwr : IntKind.i64.wrap ((x : Int) + 1) = (x : Int) + 1 := by unfold IntKind.wrap; simp [IntKind.bits, IntKind.signed]; omega
  have hx1 : (0 : Int) ≤ (x : Int) + 1 := by omega
  have hx2 : (x : Int) + 1 < (cs.length : Int) := by omega
  have hx3 : ((x : Int) + 1).toNat = x + 1 := by omega
  have nq : ∀ w, (binOp .neq 26 (.agg #[.int .i64 f, .int .i64 bk, .int .i64 xx]) (.agg #[.int .i64 f2, .int .i64 b2, .int .i64 x2])).run Tryz.prog w = .ok (.bool d) w := fun w => by
    rw [Sty.neq_agg, hd]
    simp
  clear hd
  have y0 : ∀ d os, (Sort.grow (redrawn w d) os).cell? ⟨b, o + x * 4, none⟩ = some (.int .i32 r) := fun d os => cell_regrown h0 d os
  have y1 : ∀ d os, (Sort.grow (redrawn w d) os).cell? ⟨b, o + x * 4 + 1, none⟩ = some (.int .i64 f) := fun d os => cell_regrown h1 d os
  have y2 : ∀ d os, (Sort.grow (redrawn w d) os).cell? ⟨b, o + x * 4 + 2, none⟩ = some (.int .i64 bk) := fun d os => cell_regrown h2 d os
  have y3 : ∀ d os, (Sort.grow (redrawn w d) os).cell? ⟨b, o + x * 4 + 3, none⟩ = some (.int .i64 xx) := fun d os => cell_regrown h3 d os
  have u1 : ∀ d os, (Sort.grow (redrawn w d) os).cell? ⟨b, o + (x + 1) * 4 + 1, none⟩ = some (.int .i64 f2) := fun d os => cell_regrown p1 d os
  have u2 : ∀ d os, (Sort.grow (redrawn w d) os).cell? ⟨b, o + (x + 1) * 4 + 2, none⟩ = some (.int .i64 b2) := fun d os => cell_regrown p2 d os
  have u3 : ∀ d os, (Sort.grow (redrawn w d) os).cell? ⟨b, o + (x + 1) * 4 + 3, none⟩ = some (.int .i64 x2) := fun d os => cell_regrown p3 d os
  have K4 : Hid (∀ d os, Calls Tryz.prog 79 #[.int .i32 r] (Sort.grow (redrawn w d) os) fun e w'' => e = .returned (.int .i64 2) ∧ ∃ p : Regrown, w'' = Sort.grow (redrawn w p.d) p.os) := fun d os => Calls.regrown_of (width_to r _ (Tab.next HT.out (below_regrown w d os)) 2 hw)
  clear hT hw h0 h1 h2 h3 p1 p2 p3
  go_enter Tryz.func165, Tryz.ntmps165
  go_wp2_with fail
  refine wp_region_quiet_below (by kernel_rfl) (by kernel_rfl) ?_
  repeat (first | go_big_quiet_skip | quiet_step (first | (go_at_call 79; exact K4.out _ _)))
  refine wpQuiet_nil ?_
  intro _ hw'
  obtain ⟨⟨dq, os⟩, hw''⟩ := hw'
  subst hw''
  have k3 : Below w.heap.size w (Sort.grow (redrawn w dq) os) := below_regrown w dq os
  generalize Sort.grow (redrawn w dq) os = W3 at *
  go_wp2_with fail
  go_ret
  exact ⟨rfl, k3⟩
/-- What isParted says of a cell that isn't loose. -/
theorem parted_any (b o c : Nat) (cs : List C) (x : Nat) (w : World) (hT : Txt.Tab w) (hC : CellsAt w b o cs) (hx : x < cs.length) (hn : cs.length ≤ 1000000) (hl : loose cs x = false) :
    Calls Tryz.prog 165 #[.slice (some ⟨b, o, none⟩) cs.length c, .int .i64 (x : Int)] w fun e w' => e = .returned (.bool (partB cs x)) ∧ Below w.heap.size w w' := by
  obtain ⟨h0, h1, h2, h3⟩ := hC x hx
  by_cases hw : wd (cs.getD x z0).1 = 2
  · have hn0 : ¬ (cs.getD x z0).1 = 0 := by intro e; rw [e] at hw; exact absurd hw (by decide +kernel)
    unfold loose at hl
    rw [if_neg hn0] at hl
    simp only [hw, decide_true, Bool.true_and, Bool.or_eq_false_iff, decide_eq_false_iff_not, Decidable.not_not] at hl
    have hx1 : x + 1 < cs.length := by omega
    obtain ⟨-, p1, p2, p3⟩ := hC (x + 1) hx1
    refine parted_two b o c cs x _ _ _ _ _ _ _ w hT hx1 hn h0 h1 h2 h3 p1 p2 p3 hw _ ?_
    unfold partB
    rw [decide_eq_true hw, Bool.true_and, decide_eq_decide]
    exact ⟨fun h => h.2.2, fun h => ⟨hx1, hl.2, h⟩⟩
  · have e : partB cs x = false := by unfold partB; rw [decide_eq_false hw, Bool.false_and]
    rw [e]
    exact parted_thin b o c cs x _ w hT hx h0 hw
set_option maxHeartbeats 2000000 in
theorem mendG_any (g c : Nat) (cs : List C) (pre post : List Value) (t : TypeId) (w : World) (hh : w.heap[g]? = some (.cells (pre ++ (flat cs ++ post)).toArray t (0, 0))) (hn : cs.length ≤ 1000000) (hT : Txt.Tab w) (hg : 0 < g) :
    Calls Tryz.prog 147 #[.slice (some ⟨g, pre.length, none⟩) cs.length c] w fun e w' => e = .returned (.tuple #[]) ∧ w'.heap[g]? = some (.cells (pre ++ (flat (mendL (unpart cs)) ++ post)).toArray t (0, 0)) ∧ Apart g [g] w w' := by
  have HT : Hid (∀ W, Apart g [g] w W → Txt.Tab W) := fun W b => hT.below b.1 hg
  have HG : Hid (g < w.heap.size) := blk_lt hh
  clear hT hg
  generalize hl : cs.length = L at *
  have HL : Hid (cs.length = L) := hl
  clear hl
  generalize hp : pre.length = o at *
  have HP : Hid (pre.length = o) := hp
  clear hp
  go_enter Tryz.func147, Tryz.ntmps147
  go_wp2_with fail
  go_loopg [5] L (fun q i wr => ∃ k : Nat, i = .int .i64 (k : Int) ∧ k ≤ L ∧ L - k ≤ q ∧ Apart g [g] w wr ∧ wr.heap[g]? = some (.cells (pre ++ (flat (mendToG cs k) ++ post)).toArray t (0, 0)))
  case atStart => exact ⟨0, rfl, by omega, by omega, Apart.refl _ _ _, hh⟩
  case round =>
    obtain ⟨k, rfl, hk, hq, hb, hv⟩ := hrel
    clear hh
    have hlen : (mendToG cs k).length = L := by rw [mendToG_len, HL.out]
    by_cases hlt : k < L
    · have lt1 : ((k : Int) < (L : Int)) := by omega
      have hC : CellsAt wr g o (mendToG cs k) := by have := cellsAt_mid hv; rwa [HP.out] at this
      have hcell := (hC k (by rw [hlen]; exact hlt)).1
      have KL := isLoose_any g o c (mendToG cs k) k wr (HT.out wr hb) hC (by rw [hlen]; exact hlt) (by rw [hlen]; exact hn)
      rw [hlen] at KL
      cases hlo : loose (mendToG cs k) k with
      | false =>
        cases hpa : partB (mendToG cs k) k with
        | false =>
          rw [hlo] at KL
          have HK : Hid (Calls Tryz.prog 158 #[.slice (some ⟨g, o, none⟩) L c, .int .i64 (k : Int)] wr fun e w' => e = .returned (.bool false) ∧ Below wr.heap.size wr w') := KL
          have HKP : Hid (∀ W, Below wr.heap.size wr W → Calls Tryz.prog 165 #[.slice (some ⟨g, o, none⟩) L c, .int .i64 (k : Int)] W fun e w' => e = .returned (.bool false) ∧ Below W.heap.size W w') := fun W bW => by
            have := parted_any g o c (mendToG cs k) k W (Tab.next (HT.out wr hb) bW) (hC.below bW) (by rw [hlen]; exact hlt) (by rw [hlen]; exact hn) hlo
            rwa [hlen, hpa] at this
          have HE : Hid (mendToG cs (k + 1) = mendToG cs k) := by
            show mendStepG (mendToG cs k) k = _
            unfold mendStepG
            rw [hlo, hpa]
            rfl
          clear KL hlo hC hcell hlen
          go_wp2_with (first
            | (go_at_call 158; refine HK.out.mono ?_; rintro e W1 ⟨rfl, b1⟩)
            | (go_at_call 165; refine (HKP.out _ b1).mono ?_; rintro e W2 ⟨rfl, b2⟩; have b3 := b1.trans (b2.mono b1.size)))
          go_roundg (L - (k + 1))
          case measure => omega
          case rel => exact ⟨k + 1, rfl, by omega, by omega, hb.step b3 (Nat.le_of_lt (blk_lt hv)), by rw [HE.out]; exact carry hv b3⟩
        | true =>
          rw [hlo] at KL
          have HK : Hid (Calls Tryz.prog 158 #[.slice (some ⟨g, o, none⟩) L c, .int .i64 (k : Int)] wr fun e w' => e = .returned (.bool false) ∧ Below wr.heap.size wr w') := KL
          have HKP : Hid (∀ W, Below wr.heap.size wr W → Calls Tryz.prog 165 #[.slice (some ⟨g, o, none⟩) L c, .int .i64 (k : Int)] W fun e w' => e = .returned (.bool true) ∧ Below W.heap.size W w') := fun W bW => by
            have := parted_any g o c (mendToG cs k) k W (Tab.next (HT.out wr hb) bW) (hC.below bW) (by rw [hlen]; exact hlt) (by rw [hlen]; exact hn) hlo
            rwa [hlen, hpa] at this
          have HE : Hid (pre ++ (flat (mendToG cs (k + 1)) ++ post) = (pre ++ (flat (mendToG cs k) ++ post)).set (o + k * 4) (.int .i32 32)) := by
            have e : mendToG cs (k + 1) = setR (mendToG cs k) k := by
              show mendStepG (mendToG cs k) k = _
              unfold mendStepG
              rw [hlo, hpa]
              rfl
            unfold Hid
            rw [e, ← HP.out]
            exact (row_set pre post _ k (by rw [hlen]; exact hlt)).symm
          generalize ((mendToG cs k).getD k z0).1 = rr at hcell
          clear KL hlo hC hlen
          go_wp2_with (first
            | (go_at_call 158; refine HK.out.mono ?_; rintro e W0 ⟨rfl, b0⟩)
            | (go_at_call 165; refine (HKP.out _ b0).mono ?_; rintro e W1 ⟨rfl, b2⟩; have b1 := b0.trans (b2.mono b0.size); have hcell1 := cell_keep b1 hcell; have hv1 := carry hv b1; have hfz : W1.frozen? ⟨g, o + k * 4, none⟩ = false := frozen_of hv1 _))
          go_roundg (L - (k + 1))
          case measure => omega
          case rel =>
            refine ⟨k + 1, rfl, by omega, by omega, (hb.step b1 (Nat.le_of_lt (blk_lt hv))).setCell g _ _ (by simp) (Nat.le_refl _), ?_⟩
            rw [HE.out]
            have := heap_setCell_same W1 g (o + k * 4) _ t (.int .i32 32) hv1
            simpa using this
      | true =>
        rw [hlo] at KL
        have HK : Hid (Calls Tryz.prog 158 #[.slice (some ⟨g, o, none⟩) L c, .int .i64 (k : Int)] wr fun e w' => e = .returned (.bool true) ∧ Below wr.heap.size wr w') := KL
        have HE : Hid (pre ++ (flat (mendToG cs (k + 1)) ++ post) = (pre ++ (flat (mendToG cs k) ++ post)).set (o + k * 4) (.int .i32 32)) := by
          have e : mendToG cs (k + 1) = setR (mendToG cs k) k := by
            show mendStepG (mendToG cs k) k = _
            unfold mendStepG
            rw [hlo]
            rfl
          unfold Hid
          rw [e, ← HP.out]
          exact (row_set pre post _ k (by rw [hlen]; exact hlt)).symm
        generalize ((mendToG cs k).getD k z0).1 = rr at hcell
        clear KL hlo hC hlen
        go_wp2_with (first | (go_at_call 158; refine HK.out.mono ?_; rintro e W1 ⟨rfl, b1⟩; have hcell1 := cell_keep b1 hcell; have hv1 := carry hv b1; have hfz : W1.frozen? ⟨g, o + k * 4, none⟩ = false := frozen_of hv1 _))
        go_roundg (L - (k + 1))
        case measure => omega
        case rel =>
          refine ⟨k + 1, rfl, by omega, by omega, (hb.step b1 (Nat.le_of_lt (blk_lt hv))).setCell g _ _ (by simp) (Nat.le_refl _), ?_⟩
          rw [HE.out]
          have := heap_setCell_same W1 g (o + k * 4) _ t (.int .i32 32) hv1
          simpa using this
    · have lt1 : ¬ ((k : Int) < (L : Int)) := by omega
      have hkL : k = L := by omega
      go_wp2_with fail
      go_end0
      refine ⟨rfl, ?_, hb⟩
      rw [← mendG_eq, HL.out, ← hkL]
      exact hv
end Grd
end Go.Proofs.YtnkeahfcpbepjaaGreatDoor

/- Package sheet: relay: a row is made anew, and its halves mended. -/
namespace Go.Proofs.YtnkeahfcpbepjaaGreatDoor
open Go.ChangeShapes Go.WideShapes Go.ChangeAt Go.RowKit
namespace Put
open Grd (C SliceAt CellsAt gridErr z0 nilV flat rowsL RowB OwnG mendL)
/-- What a function makes of a row: new cells. -/
def Relays (hf : FuncId) (caps : Array Value) (W : World) (v : Value) (row' : List C) : Prop :=
  ∀ W1, Below W.heap.size W W1 → Calls Tryz.prog hf (#[v] ++ caps) W1 fun e W2 => ∃ g cap rest, e = .returned (.slice (some ⟨g, 0, none⟩) row'.length cap) ∧ W1.heap.size ≤ g ∧ row'.length ≤ cap ∧ cap ≤ 9223372036854775807 ∧ W2.heap[g]? = some (.cells (flat row' ++ rest).toArray 91 (0, 0)) ∧ Below W1.heap.size W1 W2
set_option maxHeartbeats 8000000 in
set_option maxRecDepth 100000 in
theorem relayG_any (W : World) (M N p : Nat) (s : Scr) (rows : List (List C)) (cv tv gv rv : Value) (gvs vs : List Value) (hS : ShA 64 W M N p s rows cv tv gv rv gvs vs) (hT : Txt.Tab W) (y : Nat) (hy : y < rows.length) (hf : FuncId) (hpl : Plain hf) (caps : Array Value) (row' : List C) (hR : Relays hf caps W (vs.getD y nilV) row') (hl : row'.length ≤ 1000000) :
    Calls Tryz.prog 107 #[.pointer (some ⟨p, 0, none⟩), .int .i64 (y : Int), .func (.func hf) #[] caps] W (Ran W M N p s (rows.set y (mendL (Grd.unpart row')))) := by
  obtain ⟨rb, rc, hrv, hrb, hrc1, hrc2, hvl, hrcell, A, hrA⟩ := own_cells hS.rws (by omega)
  obtain ⟨va, vc, hsh⟩ := (hS.rin.2 y hy).shape
  have hyI : (0 : Int) ≤ (y : Int) := by omega
  have hyI2 : (y : Int) < (rows.length : Int) := by omega
  have d1 := hrcell y hy
  have HW : Hid (ShA 64 W M N p s rows cv tv gv rv gvs vs) := hS
  rw [hsh] at d1 hR
  have HR : Hid (Relays hf caps W (.slice va (rows.getD y []).length vc) row') := hR
  have HRA : Hid (W.heap[rb]? = some (.cells A 22 (0, 0))) := hrA
  have HRV : Hid (rv = .slice (some ⟨rb, 0, none⟩) rows.length rc) := hrv
  have HT : Hid (Txt.Tab W) := hT
  have hml := hS.ml
  have hNW : N ≤ W.heap.size := Nat.le_trans hS.lo (Nat.le_of_lt (heap_lt hS.blk))
  obtain ⟨row, hrow⟩ : ∃ row, row = rows.getD y [] := ⟨_, rfl⟩
  rw [← hrow] at d1 HR
  have SK : Hid (∀ V, Below W.heap.size W V → V.cell? ⟨p, 22, none⟩ = some (.slice (some ⟨rb, 0, none⟩) rows.length rc) ∧ V.cell? ⟨rb, y, none⟩ = some (.slice va row.length vc) ∧ V.frozen? ⟨rb, y, none⟩ = false) := fun V h => by
    have hblk := Grd.carry HW.out.blk h
    obtain ⟨-, ⟨-, -, -, -, -, -, -, -, -, -, -, c22⟩, -⟩ := sh_cells hblk
    rw [HRV.out] at c22
    exact ⟨c22, cell_stay h d1, Grd.frozen_of (Grd.carry HRA.out h) _⟩
  unfold Plain at hpl
  obtain ⟨c22, dy, fy⟩ := SK.out W (Below.refl _ _)
  clear hS hR hrA hrcell hsh hrow hrv d1 hT fy
  go_enter Tryz.func107, Tryz.ntmps107
  go_wp2_with fail
  refine (HR.out W (Below.refl _ _)).mono ?_
  rintro e V ⟨g, cap, rest, rfl, hgW, hcap1, hcap2, hgh, q1⟩
  have hTV : Txt.Tab V := Grd.Tab.next HT.out q1
  have HMD := Grd.mendG_any g cap row' [] rest _ V hgh hl hTV (Nat.lt_of_lt_of_le (Txt.Tab.pos HT.out) hgW)
  have HQ1 : Hid (Below W.heap.size W V) := q1
  clear c22 dy q1 hgh hTV HR
  go_wp2_with fail
  refine HMD.mono ?_
  rintro e V2 ⟨rfl, hg2, ap⟩
  have q2 : Below W.heap.size W V2 := HQ1.out.trans (ap.1.mono hgW)
  obtain ⟨c22, dy, fy⟩ := SK.out _ q2
  have HQ2 : Hid (Below W.heap.size W V2) := q2
  have hri : RowIn V2 M (.slice (some ⟨g, 0, none⟩) row'.length cap) (mendL (Grd.unpart row')) := rowIn_rowB (g := g) ⟨cap, rest, by rw [Grd.mendL_len, Grd.unpart_len], by rw [Grd.mendL_len, Grd.unpart_len]; exact hcap1, hcap2, hg2⟩
  have HRI : Hid (RowIn V2 M (.slice (some ⟨g, 0, none⟩) row'.length cap) (mendL (Grd.unpart row'))) := hri
  clear hri ap hg2 q2 HMD SK HQ1
  go_wp2_with fail
  all_goals go_end0
  all_goals exact ⟨rfl, ⟨_, _, _, _, _, _, (ShA.next HW.out HQ2.out).storeRow HRV.out HRI.out⟩, (HQ2.out.mono hNW).setCell hrb _, (Framed.of_below HQ2.out).trans (Framed.store (Grd.carry HRA.out HQ2.out) not_other_rows)⟩
theorem relay_any (W : World) (M N p : Nat) (s : Scr) (rows : List (List C)) (cv tv gv rv : Value) (gvs vs : List Value) (hS : ShA 64 W M N p s rows cv tv gv rv gvs vs) (hT : Txt.Tab W) (y : Nat) (hy : y < rows.length) (hf : FuncId) (hpl : Plain hf) (caps : Array Value) (row' : List C) (hR : Relays hf caps W (vs.getD y nilV) row') (hAl : Grd.Alike row') (hl : row'.length ≤ 1000000) :
    Calls Tryz.prog 107 #[.pointer (some ⟨p, 0, none⟩), .int .i64 (y : Int), .func (.func hf) #[] caps] W (Ran W M N p s (rows.set y (mendL row'))) := by
  have h := relayG_any W M N p s rows cv tv gv rv gvs vs hS hT y hy hf hpl caps row' hR hl
  rwa [Grd.unpart_alike row' hAl] at h
/-- Three rows behind each other. -/
theorem concat3o (V : World) (b1 o1 b2 o2 b3 o3 x k m c1 c2 c3 : Nat) (r1 r2 r3 : List C) (h1 : CellsAt V b1 o1 r1) (h2 : CellsAt V b2 o2 r2) (h3 : CellsAt V b3 o3 r3) (l1 : r1.length = x) (l2 : r2.length = k) (l3 : r3.length = m) (hm : x + (k + m) ≤ 1000) :
    Calls Tryz.prog 97 #[.slice (some ⟨V.heap.size, 0, none⟩) 3 3] (V.alloc (.cells #[.slice (some ⟨b1, o1, none⟩) x c1, .slice (some ⟨b2, o2, none⟩) k c2, .slice (some ⟨b3, o3, none⟩) m c3] 22)) fun e w' => ∃ v', e = .returned v' ∧ w'.ownsRow (V.alloc (.cells #[.slice (some ⟨b1, o1, none⟩) x c1, .slice (some ⟨b2, o2, none⟩) k c2, .slice (some ⟨b3, o3, none⟩) m c3] 22)).heap.size 91 4 v' (x + (k + m)) (flat (r1 ++ (r2 ++ r3))) ∧ Below (V.alloc (.cells #[.slice (some ⟨b1, o1, none⟩) x c1, .slice (some ⟨b2, o2, none⟩) k c2, .slice (some ⟨b3, o3, none⟩) m c3] 22)).heap.size (V.alloc (.cells #[.slice (some ⟨b1, o1, none⟩) x c1, .slice (some ⟨b2, o2, none⟩) k c2, .slice (some ⟨b3, o3, none⟩) m c3] 22)) w' := by
  have kb : Below V.heap.size V (V.alloc (.cells #[.slice (some ⟨b1, o1, none⟩) x c1, .slice (some ⟨b2, o2, none⟩) k c2, .slice (some ⟨b3, o3, none⟩) m c3] 22)) := (Below.refl _ _).alloc (Nat.le_refl _) _
  have hnew := heap_alloc_new V (.cells #[.slice (some ⟨b1, o1, none⟩) x c1, .slice (some ⟨b2, o2, none⟩) k c2, .slice (some ⟨b3, o3, none⟩) m c3] 22)
  have hcell : ∀ (j : Nat) (v : Value), (#[.slice (some ⟨b1, o1, none⟩) x c1, .slice (some ⟨b2, o2, none⟩) k c2, .slice (some ⟨b3, o3, none⟩) m c3] : Array Value)[j]? = some v → (V.alloc (.cells #[.slice (some ⟨b1, o1, none⟩) x c1, .slice (some ⟨b2, o2, none⟩) k c2, .slice (some ⟨b3, o3, none⟩) m c3] 22)).cell? ⟨V.heap.size, 0 + j, none⟩ = some v := fun j v h => by
    rw [Nat.zero_add]
    unfold World.cell?
    rw [hnew]
    exact h
  have hfl : [r1, r2, r3].flatten = r1 ++ (r2 ++ r3) := by simp
  have hlen : (r1 ++ (r2 ++ r3)).length = x + (k + m) := by rw [List.length_append, List.length_append, l1, l2, l3]
  have key := concat_any V.heap.size 0 3 [r1, r2, r3] (V.alloc (.cells #[.slice (some ⟨b1, o1, none⟩) x c1, .slice (some ⟨b2, o2, none⟩) k c2, .slice (some ⟨b3, o3, none⟩) m c3] 22)) (fun j hj => by
    have hj3 : j < 3 := hj
    match j, hj3 with
    | 0, _ => exact ⟨b1, o1, c1, by show World.cell? _ _ = some (Value.slice _ r1.length c1); rw [l1]; exact hcell 0 _ rfl, h1.below kb⟩
    | 1, _ => exact ⟨b2, o2, c2, by show World.cell? _ _ = some (Value.slice _ r2.length c2); rw [l2]; exact hcell 1 _ rfl, h2.below kb⟩
    | 2, _ => exact ⟨b3, o3, c3, by show World.cell? _ _ = some (Value.slice _ r3.length c3); rw [l3]; exact hcell 2 _ rfl, h3.below kb⟩) (r1 ++ (r2 ++ r3)) hfl (by rw [hlen]; omega) (by simp)
  rw [hlen] at key
  exact key
/-- A row with the cells from a on, up to b, made anew. -/
def ovR (row mid : List C) (a b : Nat) : List C := row.take a ++ (mid ++ row.drop b)
theorem ovR_len (row mid : List C) (a b : Nat) (h : a + mid.length = b) (hb : b ≤ row.length) : (ovR row mid a b).length = row.length := by
  unfold ovR
  rw [List.length_append, List.length_append, List.length_take, List.length_drop]
  omega
theorem ovR_at (row mid : List C) (a b : Nat) (h : a + mid.length = b) (hb : b ≤ row.length) (i : Nat) : (ovR row mid a b).getD i z0 = if i < a then row.getD i z0 else if i < b then mid.getD (i - a) z0 else row.getD i z0 := by
  have e1 : (row.take a).length = a := by rw [List.length_take]; omega
  unfold ovR
  simp only [List.getD]
  by_cases h1 : i < a
  · rw [if_pos h1, List.getElem?_append_left (by omega), List.getElem?_take_of_lt h1]
  · rw [if_neg h1, List.getElem?_append_right (by omega), e1]
    by_cases h2 : i < b
    · rw [if_pos h2, List.getElem?_append_left (by omega)]
    · rw [if_neg h2, List.getElem?_append_right (by omega), List.getElem?_drop, show b + (i - a - mid.length) = i by omega]
/-- What slices.Concat makes of a row's ends and cells between. -/
theorem over3 (V : World) (rb ro g go c a b k vc L : Nat) (row mid : List C) (hC : CellsAt V rb ro row) (hM : CellsAt V g go mid) (hk : mid.length = k) (hb : a + k = b) (hL : row.length = L) (hbl : b ≤ L) (hl : L ≤ 120) (oo cc : Nat) (ho : (oo = ro + b * 4) ∨ b = L) :
    Calls Tryz.prog 97 #[.slice (some ⟨V.heap.size, 0, none⟩) 3 3] (V.alloc (.cells #[.slice (some ⟨rb, ro, none⟩) a c, .slice (some ⟨g, go, none⟩) k vc, .slice (some ⟨rb, oo, none⟩) (L - b) cc] 22)) fun e w' => ∃ v', e = .returned v' ∧ w'.ownsRow (V.alloc (.cells #[.slice (some ⟨rb, ro, none⟩) a c, .slice (some ⟨g, go, none⟩) k vc, .slice (some ⟨rb, oo, none⟩) (L - b) cc] 22)).heap.size 91 4 v' L (flat (ovR row mid a b)) ∧ Below (V.alloc (.cells #[.slice (some ⟨rb, ro, none⟩) a c, .slice (some ⟨g, go, none⟩) k vc, .slice (some ⟨rb, oo, none⟩) (L - b) cc] 22)).heap.size (V.alloc (.cells #[.slice (some ⟨rb, ro, none⟩) a c, .slice (some ⟨g, go, none⟩) k vc, .slice (some ⟨rb, oo, none⟩) (L - b) cc] 22)) w' := by
  have hC1 := hC.part 0 a (by omega)
  rw [Nat.zero_mul, Nat.add_zero, List.drop_zero] at hC1
  have hC2 : CellsAt V rb oo (row.drop b) := by
    by_cases hbL : b = L
    · intro j hj
      rw [List.length_drop] at hj
      omega
    · rcases ho with rfl | h
      · have h := hC.part b (L - b) (by omega)
        rwa [List.take_of_length_le (by rw [List.length_drop]; omega)] at h
      · exact absurd h hbL
  have key := concat3o V rb ro g go rb oo a k (L - b) c vc cc (row.take a) mid (row.drop b) hC1 hM hC2 (by rw [List.length_take]; omega) hk (by rw [List.length_drop, hL]) (by omega)
  rw [show a + (k + (L - b)) = L by omega] at key
  exact key
end Put
end Go.Proofs.YtnkeahfcpbepjaaGreatDoor

/- slices.Delete of one row. -/
namespace Go.Proofs.YtnkeahfcpbepjaaGreatDoor
open Go.ChangeShapes Go.WideShapes Go.ChangeAt Go.RowKit
namespace Put
open Grd (C nilV)
def delRen : Go.Shelf.Ren := ⟨fun | 45 => 145 | n => n, fun | 0 => 0 | 3 => 3 | 4 => 4 | 22 => 30 | 23 => 22 | n => n, fun | n => n⟩
theorem delLays : SlLaysE.n45 Tryz.prog delRen := {
  mixed := by kernel_rfl
  f45 := Exists.intro "slices.Delete[[][]trellis/api.Cell,[]trellis/api.Cell]" ⟨by kernel_rfl, Tryz.func145.trans (congrArg some (by kernel_rfl))⟩
  t0 := Tryz.underlying0
  a0 := Tryz.isAgg0
  z0 := Tryz.sizeOf0
  v0 := Tryz.zeroValue0
  t3 := Tryz.underlying3
  a3 := Tryz.isAgg3
  z3 := Tryz.sizeOf3
  v3 := Tryz.zeroValue3
  t4 := Tryz.underlying4
  a4 := Tryz.isAgg4
  z4 := Tryz.sizeOf4
  v4 := Tryz.zeroValue4
  t22 := Tryz.underlying30
  a22 := Tryz.isAgg30
  z22 := Tryz.sizeOf30
  v22 := Tryz.zeroValue30
  a23 := Tryz.isAgg22
  z23 := Tryz.sizeOf22 }
/-- A slice's words. -/
abbrev Sl := Option Addr × Nat × Nat
def encS (x : Sl) : Value := .slice x.1 x.2.1 x.2.2
theorem encS_one : OneCell encS := fun _ => rfl
def IsSl (v : Value) : Prop := ∃ x : Sl, v = encS x
theorem sls_of : ∀ (vs : List Value), (∀ v, v ∈ vs → IsSl v) → ∃ zs : List Sl, vs = zs.map encS
  | [], _ => ⟨[], rfl⟩
  | v :: vs, h => by
    obtain ⟨x, hx⟩ := h v (by simp)
    obtain ⟨zs, hz⟩ := sls_of vs fun u hu => h u (by simp [hu])
    exact ⟨x :: zs, by rw [hx, hz]; rfl⟩
theorem info_rows1 : (Tryz.prog.info? 22).map (·.size) = some 1 := by kernel_rfl
theorem putRow_other {w : World} {g q k : Nat} {d : Array Sl} (h : k ≠ g) : (Sort.putRow encS (Sort.ahead w q) g 0 d).heap[k]? = w.heap[k]? := by
  simp [Sort.putRow, Sort.mapBlock, Sort.ahead, Array.getElem?_modify, Ne.symm h]
/-- One row goes. -/
theorem delete_own (N g n cap i : Nat) (vs : List Value) (w : World) (h : w.ownsRow N 22 1 (.slice (some ⟨g, 0, none⟩) n cap) n vs) (hv : ∀ v, v ∈ vs → IsSl v) (hi : i < n) :
    Calls Tryz.prog 145 #[.slice (some ⟨g, 0, none⟩) n cap, .int .i64 (i : Int), .int .i64 ((i + 1 : Nat) : Int)] w fun e w' => e = .returned (.slice (some ⟨g, 0, none⟩) (n - 1) cap) ∧ w'.ownsRow N 22 1 (.slice (some ⟨g, 0, none⟩) (n - 1) cap) (n - 1) (vs.eraseIdx i) ∧ (∀ k, k ≠ g → w'.heap[k]? = w.heap[k]?) ∧ Below g w w' := by
  obtain ⟨zs, rfl⟩ := sls_of vs hv
  obtain ⟨g', cap', e0, -, -, h1, h2, hl, hH⟩ := Lib.holds_of_ownsRow h (by intro e; cases e)
  injection e0 with e1 _ e3
  injection e1 with e1
  injection e1 with e1
  subst e1 e3
  obtain ⟨i0, hi0, hz⟩ := Option.map_eq_some_iff.1 info_rows1
  have key := AnyE.slices_Delete delLays encS encS_one (none, 0, 0) Tryz.zeroValue22 i0 hi0 hz g 0 cap i (i + 1) zs.toArray w hH (by simpa [hl] using h1) (by unfold maxLen at h2; omega) (by omega) (by simp; omega)
  have hsz : zs.toArray.size = n := by simp [hl]
  rw [hsz, Nat.add_sub_cancel_left] at key
  refine Calls.mono key ?_
  rintro e w' ⟨rfl, q, rfl⟩
  refine ⟨rfl, ?_, fun k hk => putRow_other hk, Lib.below_putRow (Below.refl _ _) (Nat.le_refl _)⟩
  have hlen : (zs.take i ++ zs.drop (i + 1) ++ List.replicate 1 ((none, 0, 0) : Sl)).length = n := by simp; omega
  have := Lib.ownsRow_putRow (q := q) (k := n - 1) h hlen (by omega)
  have e : (zs.take i ++ zs.drop (i + 1) ++ List.replicate 1 ((none, 0, 0) : Sl)).take (n - 1) = zs.eraseIdx i := by
    rw [List.eraseIdx_eq_take_drop_succ, List.take_left' (by simp; omega)]
  rw [e] at this
  have e2 : (zs.map encS).eraseIdx i = (zs.eraseIdx i).map encS := by rw [List.eraseIdx_eq_take_drop_succ, List.eraseIdx_eq_take_drop_succ, List.map_append, List.map_take, List.map_drop]
  rw [e2]
  exact this
end Put
end Go.Proofs.YtnkeahfcpbepjaaGreatDoor
