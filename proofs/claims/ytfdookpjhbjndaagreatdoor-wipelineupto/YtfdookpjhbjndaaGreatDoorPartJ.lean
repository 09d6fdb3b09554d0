/- The walk of grid.Fill. -/
import Derived.Test.YtfdookpjhbjndaaGreatDoorPartF
import Derived.Test.YtfdookpjhbjndaaGreatDoorPartH
import Derived.BigQuiet
import Derived.Test.YtfdookpjhbjndaaGreatDoorPartI
import Derived.Deep.RegionHeld3
import Derived.Deep.RegionWith
import Derived.Deep.Cut
import Derived.Deep.CutRange
import Derived.Test.YtfdookpjhbjndaaGreatDoorPartG
import Derived.BigRegion
import Derived.Test.YtfdookpjhbjndaaGreatDoorPartE
namespace Go.Proofs.YtfdookpjhbjndaaGreatDoor
open Go.ChangeShapes Go.WideShapes Go.ChangeAt Go.RowKit
namespace Grd
open Txt (wd)
open Sty (isSt)
def inside (at' long : Int) (size : Nat) (x : Nat) : Bool := decide (max (nearI at') 0 ≤ (x : Int) ∧ (x : Int) < min (nearI at' + nearI long) size)
def fillF (n hh : Nat) (rx ry rw rh : Int) (c : C) (y : Nat) (row : List C) : List C := if inside ry rh hh y then mendL (putRow row (inside rx rw n) fun _ => c) else row
def fillG (n hh : Nat) (cs : List C) (rx ry rw rh : Int) (c : C) : List C := preF n cs (fillF n hh rx ry rw rh c) hh
theorem fillF_len (n hh : Nat) (rx ry rw rh : Int) (c : C) : KeepLen n (fillF n hh rx ry rw rh c) := fun y row h => by
  unfold fillF
  split
  · rw [mendL_len, putRow_len, h]
  · exact h
theorem near_in (a : Int) : -1000 ≤ nearI a ∧ nearI a ≤ 1000 := by unfold nearI; omega
/-- The cells when the rows below k are done. -/
def upto (n hh : Nat) (cs : List C) (f : Nat → List C → List C) (k : Nat) : List C := preF n cs f (min k hh) ++ cs.drop (min k hh * n)
theorem upto_start (n hh : Nat) (cs : List C) (f : Nat → List C → List C) (k : Nat) (h : ∀ y, y < k → f y (rowAt n cs y) = rowAt n cs y) : upto n hh cs f k = cs := by
  unfold upto
  rw [preF_id n cs f _ (fun y hy => h y (by omega)), List.take_append_drop]
theorem upto_end (n hh : Nat) (cs : List C) (f : Nat → List C → List C) (hL : cs.length = n * hh) (k : Nat) (h : ∀ y, k ≤ y → f y (rowAt n cs y) = rowAt n cs y) : upto n hh cs f k = preF n cs f hh := by
  unfold upto
  by_cases hk : k ≤ hh
  · rw [Nat.min_eq_left hk]
    exact (preF_rest n hh cs f hL k (hh - k) (by omega) (fun y h1 _ => h y h1)).symm
  · rw [Nat.min_eq_right (by omega), List.drop_of_length_le (by rw [hL, Nat.mul_comm]; exact Nat.le_refl _), List.append_nil]
theorem upto_at (n hh : Nat) (cs : List C) (f : Nat → List C → List C) (k : Nat) (hk : k < hh) : upto n hh cs f k = preF n cs f k ++ (rowAt n cs k ++ cs.drop ((k + 1) * n)) := by
  unfold upto
  rw [Nat.min_eq_left (by omega), drop_row]
theorem upto_next (n hh : Nat) (cs : List C) (f : Nat → List C → List C) (k : Nat) (hk : k < hh) : upto n hh cs f (k + 1) = preF n cs f k ++ (f k (rowAt n cs k) ++ cs.drop ((k + 1) * n)) := by
  unfold upto
  rw [Nat.min_eq_left (by omega)]
  show (preF n cs f k ++ f k (rowAt n cs k)) ++ _ = _
  rw [List.append_assoc]
theorem upto_len (n hh : Nat) (cs : List C) (f : Nat → List C → List C) (hL : cs.length = n * hh) (hf : KeepLen n f) (k : Nat) : (upto n hh cs f k).length = cs.length := by
  unfold upto
  rw [List.length_append, preF_len n hh cs f hL hf _ (by omega), List.length_drop]
  have : min k hh * n ≤ cs.length := by rw [hL, Nat.mul_comm n hh]; exact Nat.mul_le_mul_right _ (by omega)
  omega
theorem flat_three (a b c : List C) (rest : List Value) : flat (a ++ (b ++ c)) ++ rest = flat a ++ (flat b ++ (flat c ++ rest)) := by
  rw [flat_append, flat_append]; simp only [List.append_assoc]
theorem alloc4 (w : World) (o0 o1 o2 o3 : Obj) : ((((w.alloc o0).alloc o1).alloc o2).alloc o3).heap[w.heap.size]? = some o0 ∧ ((((w.alloc o0).alloc o1).alloc o2).alloc o3).heap[w.heap.size + 1]? = some o1 ∧
    ((((w.alloc o0).alloc o1).alloc o2).alloc o3).heap[w.heap.size + 2]? = some o2 ∧ ((((w.alloc o0).alloc o1).alloc o2).alloc o3).heap[w.heap.size + 3]? = some o3 ∧
    Below w.heap.size w ((((w.alloc o0).alloc o1).alloc o2).alloc o3) ∧ ((((w.alloc o0).alloc o1).alloc o2).alloc o3).heap.size = w.heap.size + 4 := by
  have s1 : (w.alloc o0).heap.size = w.heap.size + 1 := by simp
  have s2 : ((w.alloc o0).alloc o1).heap.size = w.heap.size + 2 := by simp
  have s3 : (((w.alloc o0).alloc o1).alloc o2).heap.size = w.heap.size + 3 := by simp
  refine ⟨?_, ?_, ?_, ?_, (((Below.refl _ _).alloc (Nat.le_refl _) _).alloc (by omega) _ |>.alloc (by omega) _).alloc (by omega) _, by simp⟩
  · rw [Below.heap_alloc _ _ _ (by omega), Below.heap_alloc _ _ _ (by omega), Below.heap_alloc _ _ _ (by omega), heap_alloc_new]
  · rw [Below.heap_alloc _ _ _ (by omega), Below.heap_alloc _ _ _ (by omega), ← s1, heap_alloc_new]
  · rw [Below.heap_alloc _ _ _ (by omega), ← s2, heap_alloc_new]
  · rw [← s3, heap_alloc_new]
theorem alloc3 (w : World) (o0 o1 o2 : Obj) : (((w.alloc o0).alloc o1).alloc o2).heap[w.heap.size]? = some o0 ∧ (((w.alloc o0).alloc o1).alloc o2).heap[w.heap.size + 1]? = some o1 ∧
    (((w.alloc o0).alloc o1).alloc o2).heap[w.heap.size + 2]? = some o2 ∧
    Below w.heap.size w (((w.alloc o0).alloc o1).alloc o2) ∧ (((w.alloc o0).alloc o1).alloc o2).heap.size = w.heap.size + 3 := by
  have s1 : (w.alloc o0).heap.size = w.heap.size + 1 := by simp
  have s2 : ((w.alloc o0).alloc o1).heap.size = w.heap.size + 2 := by simp
  refine ⟨?_, ?_, ?_, (((Below.refl _ _).alloc (Nat.le_refl _) _).alloc (by omega) _).alloc (by omega) _, by simp⟩
  · rw [Below.heap_alloc _ _ _ (by omega), Below.heap_alloc _ _ _ (by omega), heap_alloc_new]
  · rw [Below.heap_alloc _ _ _ (by omega), ← s1, heap_alloc_new]
  · rw [← s2, heap_alloc_new]
theorem near_same (n : Int) (w : World) : Calls Tryz.prog 120 #[.int .i64 n] w fun e w' => e = .returned (.int .i64 (nearI n)) ∧ w' = w := (near_any n w).mono fun _ _ h => ⟨h.1, h.2.symm⟩
theorem reach_same (p l : Int) (s : Int) (w : World) : Calls Tryz.prog 119 #[.int .i64 (nearI p), .int .i64 (nearI l), .int .i64 s] w fun e w' => e = .returned (.tuple #[.int .i64 (max (nearI p) 0), .int .i64 (min (nearI p + nearI l) s)]) ∧ w' = w :=
  (reach_any _ _ s w (by have := near_in p; omega) (by have := near_in p; omega) (by have := near_in l; omega) (by have := near_in l; omega)).mono fun _ _ h => ⟨h.1, h.2.symm⟩
set_option maxHeartbeats 1000000 in
theorem fill_bad1 (a h : Int) (v : Value) (cs : List C) (rx ry rw rh r f bk x : Int) (w : World) (hT : Txt.Tab w) (hS : SliceAt w v cs) (hok : gridErr a h cs ≠ 0) :
    Calls Tryz.prog 86 #[.agg #[.int .i64 a, .int .i64 h, v], .agg #[.int .i64 rx, .int .i64 ry, .int .i64 rw, .int .i64 rh], .agg #[.int .i32 r, .int .i64 f, .int .i64 bk, .int .i64 x]] w fun e w' => e = .returned (.tuple #[.agg #[.int .i64 0, .int .i64 0, .slice none 0 0], .int .i64 (gridErr a h cs)]) ∧ Below w.heap.size w w' := by
  obtain ⟨_, _, _, x3, kk, hsz⟩ := alloc4 w (.cells #[.int .i64 a, .int .i64 h, v] 24) (.cells #[.int .i64 rx, .int .i64 ry, .int .i64 rw, .int .i64 rh] 85) (.cells #[.int .i32 r, .int .i64 f, .int .i64 bk, .int .i64 x] 69) (.cells #[.int .i64 0, .int .i64 0, .slice none 0 0] 24)
  have HK := check_any a h v cs _ (Tab.next hT kk) (hS.below kk)
  generalize hW0 : ((((w.alloc (.cells #[.int .i64 a, .int .i64 h, v] 24)).alloc (.cells #[.int .i64 rx, .int .i64 ry, .int .i64 rw, .int .i64 rh] 85)).alloc (.cells #[.int .i32 r, .int .i64 f, .int .i64 bk, .int .i64 x] 69)).alloc (.cells #[.int .i64 0, .int .i64 0, .slice none 0 0] 24)) = W0 at x3 kk hsz HK
  have HW0 : Hid (_ = W0) := hW0
  generalize gridErr a h cs = er at *
  have HK' : Hid (Calls Tryz.prog 111 #[.agg #[.int .i64 a, .int .i64 h, v]] W0 fun e w' => e = .returned (.int .i64 er) ∧ Below W0.heap.size W0 w') := HK
  have ne : (er != 0) = true := by simpa using hok
  clear HK hW0 hok
  go_enter Tryz.func86, Tryz.ntmps86
  go_wp2_with (first
    | (go_at_call 111; rw [HW0.out]; refine HK'.out.mono ?_; rintro e W1 ⟨rfl, b1⟩; have y3 := carry x3 b1)
    | (refine wpList_store_row rfl 24 (.tmp 6) _ rfl (w.heap.size + 3) #[.int .i64 0, .int .i64 0, .slice none 0 0] rfl rfl _ _ y3 (by kernel_rfl) rfl (one3v _ _ _ _ _) ?_))
  (try simp only [Exit.inBlock, Exit.then])
  refine bodyPost_ret (v := .tuple #[.agg #[.int .i64 0, .int .i64 0, .slice none 0 0], .int .i64 er]) ?_ rfl ⟨rfl, below_setRow (kk.trans (b1.mono kk.size)) (by omega) _⟩
  exact results_row_tmp rfl _ _ (w.heap.size + 3) _ _ _ _ rfl (setRow_heap _ _ _ _ _ _ y3) Tryz.underlying24 rfl (by kernel_rfl) _ rfl
end Grd
end Go.Proofs.YtfdookpjhbjndaaGreatDoor

/- What a row is with some cells blank. -/
namespace Go.Proofs.YtfdookpjhbjndaaGreatDoor
namespace Put
open Grd (C z0 gridErr putRow mendL RightRow Meant)
open Sty (isSt)
open Txt (wd)
def wipeRow (bk : Int) (row : List C) (a b : Nat) : List C := mendL (putRow row (fun x => decide (a ≤ x ∧ x < b)) fun _ => (32, 0, bk, 0))
theorem wipe_len (bk : Int) (row : List C) (a b : Nat) : (wipeRow bk row a b).length = row.length := by
  unfold wipeRow
  rw [Grd.mendL_len, Grd.putRow_len]
theorem wipe_right (bk : Int) (row : List C) (a b : Nat) (h : RightRow row) (hs : isSt (0, bk, 0) = true) : RightRow (wipeRow bk row a b) := by
  unfold wipeRow
  exact Grd.mend_right _ (Grd.meant_fill row _ _ h.1 Grd.wd32 hs)
theorem wipe_at (bk : Int) (row : List C) (a b x : Nat) (hx : x < row.length) (h : a ≤ x ∧ x < b) : (wipeRow bk row a b).getD x z0 = (32, 0, bk, 0) := by
  unfold wipeRow
  rw [Grd.mendL_eq, Grd.mendM_at _ _ (by rw [Grd.putRow_len]; exact hx)]
  have e : (putRow row (fun x => decide (a ≤ x ∧ x < b)) fun _ => (32, 0, bk, 0)).getD x z0 = (32, 0, bk, 0) := by
    rw [Grd.putRow_at _ _ _ _ hx, if_pos (by simpa using h)]
  rw [e]
  split <;> rfl
/-- Wiping again changes nothing. -/
theorem wipe_wipe (bk : Int) (row : List C) (a b : Nat) (h : RightRow row) (hs : isSt (0, bk, 0) = true) : wipeRow bk (wipeRow bk row a b) a b = wipeRow bk row a b := by
  have hr := wipe_right bk row a b h hs
  have e : putRow (wipeRow bk row a b) (fun x => decide (a ≤ x ∧ x < b)) (fun _ => ((32, 0, bk, 0) : C)) = wipeRow bk row a b := by
    refine Grd.ext_getD _ _ (Grd.putRow_len _ _ _) fun x hx => ?_
    rw [Grd.putRow_len] at hx
    rw [Grd.putRow_at _ _ _ _ hx]
    by_cases hp : a ≤ x ∧ x < b
    · rw [if_pos (by simpa using hp), wipe_at bk row a b x (by rw [wipe_len] at hx; exact hx) hp]
    · rw [if_neg (by simpa using hp)]
  generalize hq : wipeRow bk row a b = q at *
  unfold wipeRow
  rw [e]
  exact Grd.mendL_fix _ hr.2
/-- A row that is wiped as a whole. -/
theorem wipe_whole (bk : Int) (row : List C) (b : Nat) (hb : row.length ≤ b) : wipeRow bk row 0 b = List.replicate row.length (32, 0, bk, 0) := by
  refine Grd.ext_getD _ _ (by rw [wipe_len, List.length_replicate]) fun x hx => ?_
  rw [wipe_len] at hx
  rw [wipe_at bk row 0 b x hx ⟨Nat.zero_le _, by omega⟩]
  simp [List.getD, hx]
/-- What grid.Fill makes of one row. -/
theorem fill_wipe (n : Nat) (row : List C) (a b : Nat) (bk : Int) (hn : row.length = n) (hn2 : n ≤ 120) (ha : a ≤ n) (hb : b ≤ n) : Grd.fillG n 1 row a 0 ((b : Int) - a) 1 (32, 0, bk, 0) = wipeRow bk row a b := by
  unfold Grd.fillG
  simp only [Grd.preF, List.nil_append]
  have e : Grd.rowAt n row 0 = row := by unfold Grd.rowAt; rw [Nat.zero_mul, List.drop_zero, ← hn, List.take_length]
  rw [e]
  unfold Grd.fillF
  have e1 : Grd.inside 0 1 1 0 = true := by decide
  rw [if_pos e1]
  unfold wipeRow
  refine congrArg mendL (Grd.putRow_congr _ _ _ _ _ fun x hx => ⟨?_, fun _ => rfl⟩)
  unfold Grd.inside Grd.nearI
  rw [Bool.eq_iff_iff]
  simp
  omega
theorem row_grid (n : Nat) (row : List C) (hn : row.length = n) (hz : gridErr n 1 row = 0) : RightRow row := by
  have h := ((Grd.gridErr_zero n 1 row).1 hz).2.2 0 (by omega)
  have e : Grd.rowAt n row 0 = row := by unfold Grd.rowAt; rw [Nat.zero_mul, List.drop_zero, ← hn, List.take_length]
  rw [e] at h
  exact h
theorem grid_row (n : Nat) (row row' : List C) (hn : row'.length = n) (hz : gridErr n 1 row = 0) (h : RightRow row') : gridErr n 1 row' = 0 := by
  obtain ⟨h1, -, -⟩ := (Grd.gridErr_zero n 1 row).1 hz
  refine (Grd.gridErr_zero n 1 row').2 ⟨h1, by rw [hn, Nat.mul_one], fun y hy => ?_⟩
  obtain rfl : y = 0 := by omega
  have e : Grd.rowAt n row' 0 = row' := by unfold Grd.rowAt; rw [Nat.zero_mul, List.drop_zero, ← hn, List.take_length]
  rw [e]
  exact h
end Put
end Go.Proofs.YtfdookpjhbjndaaGreatDoor

/- The walk of grid.Fill: the wrong cell, and the right one. -/
namespace Go.Proofs.YtfdookpjhbjndaaGreatDoor
open Go.ChangeShapes Go.WideShapes Go.ChangeAt Go.RowKit
namespace Grd
open Txt (wd)
open Sty (isSt)
theorem check_ok (a h : Int) (v : Value) (cs : List C) (w : World) (hT : Txt.Tab w) (hS : SliceAt w v cs) (hok : gridErr a h cs = 0) :
    Calls Tryz.prog 111 #[.agg #[.int .i64 a, .int .i64 h, v]] w fun e w' => e = .returned (.int .i64 0) ∧ Below w.heap.size w w' := by
  have := check_any a h v cs w hT hS
  rwa [hok] at this
set_option maxHeartbeats 1000000 in
theorem fill_bad2 (a h : Int) (v : Value) (cs : List C) (rx ry rw rh r f bk x : Int) (w : World) (hT : Txt.Tab w) (hS : SliceAt w v cs) (hok : gridErr a h cs = 0) (hr : wd r ≠ 1) :
    Calls Tryz.prog 86 #[.agg #[.int .i64 a, .int .i64 h, v], .agg #[.int .i64 rx, .int .i64 ry, .int .i64 rw, .int .i64 rh], .agg #[.int .i32 r, .int .i64 f, .int .i64 bk, .int .i64 x]] w fun e w' => e = .returned (.tuple #[.agg #[.int .i64 0, .int .i64 0, .slice none 0 0], .int .i64 4]) ∧ Below w.heap.size w w' := by
  obtain ⟨_, _, x2, x3, kk, hsz⟩ := alloc4 w (.cells #[.int .i64 a, .int .i64 h, v] 24) (.cells #[.int .i64 rx, .int .i64 ry, .int .i64 rw, .int .i64 rh] 85) (.cells #[.int .i32 r, .int .i64 f, .int .i64 bk, .int .i64 x] 69) (.cells #[.int .i64 0, .int .i64 0, .slice none 0 0] 24)
  have HK := check_ok a h v cs _ (Tab.next hT kk) (hS.below kk) hok
  have HT : Hid (∀ W, Below w.heap.size w W → Txt.Tab W) := fun W k => Tab.next hT k
  clear hT hS hok
  generalize hW0 : ((((w.alloc (.cells #[.int .i64 a, .int .i64 h, v] 24)).alloc (.cells #[.int .i64 rx, .int .i64 ry, .int .i64 rw, .int .i64 rh] 85)).alloc (.cells #[.int .i32 r, .int .i64 f, .int .i64 bk, .int .i64 x] 69)).alloc (.cells #[.int .i64 0, .int .i64 0, .slice none 0 0] 24)) = W0 at x2 x3 kk hsz HK
  have HW0 : Hid (_ = W0) := hW0
  have HK' : Hid (Calls Tryz.prog 111 #[.agg #[.int .i64 a, .int .i64 h, v]] W0 fun e w' => e = .returned (.int .i64 0) ∧ Below W0.heap.size W0 w') := HK
  obtain ⟨wr, hwr⟩ : ∃ q, wd r = q := ⟨_, rfl⟩
  have HR : Hid (wd r = wr) := hwr
  rw [hwr] at hr
  have ne : (wr != 1) = true := by simpa using hr
  clear HK hW0 hwr hr
  go_enter Tryz.func86, Tryz.ntmps86
  go_wp2_with (first
    | (go_at_call 111; rw [HW0.out]; refine HK'.out.mono ?_; rintro e W1 ⟨rfl, b1⟩; have k1 := kk.trans (b1.mono kk.size); have y3 := carry x3 b1; have ⟨c0, c1, c2, c3⟩ := cells4 (carry x2 b1))
    | (go_at_call 115; refine (width_to r _ (HT.out _ k1) _ HR.out).mono ?_; rintro e W2 ⟨rfl, b2⟩; have k2 := k1.trans (b2.mono k1.size); have z3 := carry y3 b2)
    | (refine wpList_store_row rfl 24 (.tmp 6) _ rfl (w.heap.size + 3) #[.int .i64 0, .int .i64 0, .slice none 0 0] rfl rfl _ _ z3 (by kernel_rfl) rfl (one3v _ _ _ _ _) ?_))
  (try simp only [Exit.inBlock, Exit.then])
  refine bodyPost_ret (v := .tuple #[.agg #[.int .i64 0, .int .i64 0, .slice none 0 0], .int .i64 4]) ?_ rfl ⟨rfl, below_setRow k2 (by omega) _⟩
  exact results_row_tmp rfl _ _ (w.heap.size + 3) _ _ _ _ rfl (setRow_heap _ _ _ _ _ _ z3) Tryz.underlying24 rfl (by kernel_rfl) _ rfl
set_option maxHeartbeats 1000000 in
theorem fill_bad3 (a h : Int) (v : Value) (cs : List C) (rx ry rw rh r f bk x : Int) (w : World) (hT : Txt.Tab w) (hS : SliceAt w v cs) (hok : gridErr a h cs = 0) (hr : wd r = 1) (hs : isSt (f, bk, x) = false) :
    Calls Tryz.prog 86 #[.agg #[.int .i64 a, .int .i64 h, v], .agg #[.int .i64 rx, .int .i64 ry, .int .i64 rw, .int .i64 rh], .agg #[.int .i32 r, .int .i64 f, .int .i64 bk, .int .i64 x]] w fun e w' => e = .returned (.tuple #[.agg #[.int .i64 0, .int .i64 0, .slice none 0 0], .int .i64 4]) ∧ Below w.heap.size w w' := by
  obtain ⟨_, _, x2, x3, kk, hsz⟩ := alloc4 w (.cells #[.int .i64 a, .int .i64 h, v] 24) (.cells #[.int .i64 rx, .int .i64 ry, .int .i64 rw, .int .i64 rh] 85) (.cells #[.int .i32 r, .int .i64 f, .int .i64 bk, .int .i64 x] 69) (.cells #[.int .i64 0, .int .i64 0, .slice none 0 0] 24)
  have HK := check_ok a h v cs _ (Tab.next hT kk) (hS.below kk) hok
  have HT : Hid (∀ W, Below w.heap.size w W → Txt.Tab W) := fun W k => Tab.next hT k
  clear hT hS hok
  generalize hW0 : ((((w.alloc (.cells #[.int .i64 a, .int .i64 h, v] 24)).alloc (.cells #[.int .i64 rx, .int .i64 ry, .int .i64 rw, .int .i64 rh] 85)).alloc (.cells #[.int .i32 r, .int .i64 f, .int .i64 bk, .int .i64 x] 69)).alloc (.cells #[.int .i64 0, .int .i64 0, .slice none 0 0] 24)) = W0 at x2 x3 kk hsz HK
  have HW0 : Hid (_ = W0) := hW0
  have HK' : Hid (Calls Tryz.prog 111 #[.agg #[.int .i64 a, .int .i64 h, v]] W0 fun e w' => e = .returned (.int .i64 0) ∧ Below W0.heap.size W0 w') := HK
  have HR : Hid (wd r = 1) := hr
  have HS : Hid (isSt (f, bk, x) = false) := hs
  clear HK hW0 hr hs
  go_enter Tryz.func86, Tryz.ntmps86
  go_wp2_with (first
    | (go_at_call 111; rw [HW0.out]; refine HK'.out.mono ?_; rintro e W1 ⟨rfl, b1⟩; have k1 := kk.trans (b1.mono kk.size); have y3 := carry x3 b1; have y2 := carry x2 b1; have ⟨c0, c1, c2, c3⟩ := cells4 y2)
    | (go_at_call 115; refine (width_to r _ (HT.out _ k1) _ HR.out).mono ?_; rintro e W2 ⟨rfl, b2⟩; have k2 := k1.trans (b2.mono k1.size); have z3 := carry y3 b2; have ⟨d0, d1, d2, d3⟩ := cells4 (carry y2 b2))
    | (go_at_call 114; refine (check_to f bk x _ HS.out _).mono ?_; rintro e W3 ⟨rfl, b3⟩; have k3 := k2.trans (b3.mono k2.size); have u3 := carry z3 b3)
    | (refine wpList_store_row rfl 24 (.tmp 6) _ rfl (w.heap.size + 3) #[.int .i64 0, .int .i64 0, .slice none 0 0] rfl rfl _ _ u3 (by kernel_rfl) rfl (one3v _ _ _ _ _) ?_))
  (try simp only [Exit.inBlock, Exit.then])
  refine bodyPost_ret (v := .tuple #[.agg #[.int .i64 0, .int .i64 0, .slice none 0 0], .int .i64 4]) ?_ rfl ⟨rfl, below_setRow k3 (by omega) _⟩
  exact results_row_tmp rfl _ _ (w.heap.size + 3) _ _ _ _ rfl (setRow_heap _ _ _ _ _ _ u3) Tryz.underlying24 rfl (by kernel_rfl) _ rfl
end Grd
end Go.Proofs.YtfdookpjhbjndaaGreatDoor

/- The reference's FillGrid. -/
namespace Go.Proofs.YtfdookpjhbjndaaGreatDoor
open Go.ChangeShapes Go.WideShapes Go.ChangeAt Go.RowKit Go.Maps
namespace Grd
/-- The rows below k as f makes them, the others as they were. -/
def rowsF (n hh : Nat) (cs : List C) (f : Nat → List C → List C) (k : Nat) : List (List C) := (List.range hh).map fun y => if y < k then f y (rowAt n cs y) else rowAt n cs y
theorem rowsF_len (n hh : Nat) (cs : List C) (f : Nat → List C → List C) (k : Nat) : (rowsF n hh cs f k).length = hh := by simp [rowsF]
theorem rowsF_at (n hh : Nat) (cs : List C) (f : Nat → List C → List C) (k i : Nat) (hi : i < hh) : (rowsF n hh cs f k).getD i [] = if i < k then f i (rowAt n cs i) else rowAt n cs i := by
  simp [rowsF, List.getD, hi]
theorem rowsF_zero (n hh : Nat) (cs : List C) (f : Nat → List C → List C) : rowsF n hh cs f 0 = rowsL n cs hh := by simp [rowsF, rowsL]
theorem rowsF_set (n hh : Nat) (cs : List C) (f : Nat → List C → List C) (k : Nat) (_hk : k < hh) : rowsF n hh cs f (k + 1) = (rowsF n hh cs f k).set k (f k (rowAt n cs k)) := by
  refine List.ext_getElem (by simp [rowsF]) fun i h1 h2 => ?_
  rw [List.getElem_set]
  simp only [rowsF, List.getElem_map, List.getElem_range]
  by_cases hik : k = i
  · subst hik; simp
  · rw [if_neg hik]
    by_cases hlt : i < k
    · rw [if_pos hlt, if_pos (by omega)]
    · rw [if_neg hlt, if_neg (by omega)]
theorem rowsF_same (n hh : Nat) (cs : List C) (f : Nat → List C → List C) (k : Nat) (hk : k < hh) (hf : f k (rowAt n cs k) = rowAt n cs k) : rowsF n hh cs f (k + 1) = rowsF n hh cs f k := by
  refine List.ext_getElem (by simp [rowsF]) fun i h1 h2 => ?_
  simp only [rowsF, List.getElem_map, List.getElem_range]
  by_cases hik : i = k
  · subst hik; simp [hf]
  · by_cases hlt : i < k
    · rw [if_pos hlt, if_pos (by omega)]
    · rw [if_neg hlt, if_neg (by omega)]
theorem rowsF_flat (n hh : Nat) (cs : List C) (f : Nat → List C → List C) : (rowsF n hh cs f hh).flatten = preF n cs f hh := by
  have key : ∀ k, ((List.range k).map fun y => f y (rowAt n cs y)).flatten = preF n cs f k := by
    intro k
    induction k with
    | zero => rfl
    | succ k ih =>
      rw [List.range_succ, List.map_append, List.flatten_append, ih]
      simp [preF]
  rw [← key hh]
  congr 1
  unfold rowsF
  refine List.map_congr_left fun y hy => ?_
  rw [if_pos (List.mem_range.1 hy)]
theorem RowsAt.set {w w' : World} {base : Nat} {vs : List Value} {gs : List Nat} {rows : List (List C)} (h : RowsAt w base vs gs rows) (k : Nat) (hk : k < rows.length) (g : Nat) (v : Value) (row : List C)
    (hb : base ≤ g) (hr : RowB w' g v row) (hne : ∀ i, i < rows.length → i ≠ k → gs.getD i 0 ≠ g) (hkeep : ∀ i, i < rows.length → i ≠ k → w'.heap[gs.getD i 0]? = w.heap[gs.getD i 0]?) :
    RowsAt w' base (vs.set k v) (gs.set k g) (rows.set k row) := by
  obtain ⟨h1, h2, h3, h4⟩ := h
  have gset : ∀ {α : Type} (l : List α) (x d : α) (i : Nat), k < l.length → (l.set k x).getD i d = if i = k then x else l.getD i d := fun l x d i hkl => by
    simp only [List.getD, List.getElem?_set]
    by_cases hik : k = i
    · subst hik; simp [hkl]
    · simp [hik, Ne.symm hik]
  refine ⟨by simp [h1], by simp [h2], ?_, fun i hi => ?_⟩
  · rw [List.nodup_iff_pairwise_ne, List.pairwise_iff_getElem]
    intro i j hi hj hij
    rw [List.length_set] at hi hj
    rw [List.nodup_iff_pairwise_ne, List.pairwise_iff_getElem] at h3
    have e : ∀ q (hq : q < gs.length), gs.getD q 0 = gs[q] := fun q hq => by simp [List.getD, hq]
    rw [List.getElem_set, List.getElem_set]
    by_cases hik : k = i
    · rw [if_pos hik, if_neg (by omega), ← e j hj]
      exact fun he => hne j (by omega) (by omega) he.symm
    · rw [if_neg hik]
      by_cases hjk : k = j
      · rw [if_pos hjk, ← e i hi]; exact hne i (by omega) (by omega)
      · rw [if_neg hjk]; exact h3 i j hi hj hij
  · rw [List.length_set] at hi
    rw [gset gs _ _ _ (by omega), gset vs _ _ _ (by omega), gset rows _ _ _ hk]
    by_cases hik : i = k
    · rw [if_pos hik, if_pos hik, if_pos hik]; exact ⟨hb, hr⟩
    · rw [if_neg hik, if_neg hik, if_neg hik]
      obtain ⟨q1, cap, rest, q2, q3, q4, q5⟩ := h4 i hi
      exact ⟨q1, cap, rest, q2, q3, q4, by rw [hkeep i hi hik]; exact q5⟩
theorem RowsAt.ne {w : World} {base : Nat} {vs : List Value} {gs : List Nat} {rows : List (List C)} (h : RowsAt w base vs gs rows) (i k : Nat) (hi : i < rows.length) (hk : k < rows.length) (hne : i ≠ k) : gs.getD i 0 ≠ gs.getD k 0 := by
  obtain ⟨h1, h2, h3, h4⟩ := h
  rw [List.nodup_iff_pairwise_ne, List.pairwise_iff_getElem] at h3
  have e : ∀ q (hq : q < gs.length), gs.getD q 0 = gs[q] := fun q hq => by simp [List.getD, hq]
  rw [e i (by omega), e k (by omega)]
  rcases Nat.lt_or_ge i k with h | h
  · exact h3 i k (by omega) (by omega) h
  · exact fun q => h3 k i (by omega) (by omega) (by omega) q.symm
theorem inside_iff (p l : Int) (size x : Nat) (hx : x < size) : inside p l size x = decide (nearI p ≤ (x : Int) ∧ (x : Int) < nearI p + max 0 (nearI l)) := by
  unfold inside; rw [decide_eq_decide]; omega
end Grd
end Go.Proofs.YtfdookpjhbjndaaGreatDoor

/- The desk's blank and Wipe. -/
namespace Go.Proofs.YtfdookpjhbjndaaGreatDoor
open Go.ChangeShapes Go.WideShapes Go.ChangeAt Go.RowKit
namespace Put
open Grd (C SliceAt CellsAt gridErr z0 nilV rowsL RowsAt RowB flat words putRow mendL)
theorem one4d (a : Int) (b c d : Int) : (#[.int .i32 a, .int .i64 b, .int .i64 c, .int .i64 d] : Array Value).all (·.oneCell') = true := by simp [Value.oneCell']
set_option maxHeartbeats 2000000 in
theorem dblank_any (p : Nat) (bk : Int) (V : World) (h : V.cell? ⟨p, 7, none⟩ = some (.int .i64 bk)) : Calls Tryz.prog 71 #[.pointer (some ⟨p, 0, none⟩)] V fun e V' => e = .returned (.agg #[.int .i32 32, .int .i64 0, .int .i64 bk, .int .i64 0]) ∧ Below V.heap.size V V' := by
  have x0 := heap_alloc_new V (.cells #[.int .i32 0, .int .i64 0, .int .i64 0, .int .i64 0] 69)
  have kb : Below V.heap.size V (V.alloc (.cells #[.int .i32 0, .int .i64 0, .int .i64 0, .int .i64 0] 69)) := (Below.refl _ _).alloc (Nat.le_refl _) _
  have h1 := cell_stay kb h
  have HX0 : Hid _ := x0
  have HKB : Hid _ := kb
  clear x0 kb h
  go_enter Tryz.func71, Tryz.ntmps71
  go_upto_region 1 with fail
  generalize V.alloc (.cells #[.int .i32 0, .int .i64 0, .int .i64 0, .int .i64 0] 69) = Y at *
  go_wp2_with (refine wpList_store_row rfl 69 (.tmp 2) _ rfl V.heap.size #[.int .i32 32, .int .i64 0, .int .i64 bk, .int .i64 0] rfl rfl _ _ HX0.out (by kernel_rfl) rfl (one4d _ _ _ _) ?_)
  (try simp only [Exit.inBlock, Exit.then])
  refine bodyPost_ret (v := .agg #[.int .i32 32, .int .i64 0, .int .i64 bk, .int .i64 0]) ?_ rfl ⟨rfl, below_setRow HKB.out (Nat.le_refl _) _⟩
  exact results_cell_row rfl _ _ V.heap.size _ _ _ _ rfl (setRow_heap _ _ _ _ _ _ HX0.out) Tryz.underlying69 rfl (by kernel_rfl)
theorem gsD {gs : List Nat} {i : Nat} (h : i < gs.length) : gs.getD i 0 ∈ gs := by
  have e : gs.getD i 0 = gs[i] := by simp [List.getD, h]
  rw [e]
  exact List.getElem_mem h
/-- The rows that are gone stay where a row's own block turns. -/
theorem gone_kept {W W' : World} {N g : Nat} {gvs : List Value} {gone : List (List C)} (h : RowsIn W N gvs gone) (hg : ∀ i, i < gone.length → gone.getD i [] ≠ [] → blkOf (gvs.getD i nilV) ≠ some g) (ho : ∀ k, k ≠ g → W'.heap[k]? = W.heap[k]?) : RowsIn W' N gvs gone := by
  refine ⟨h.1, fun i hi => ?_⟩
  rcases h.2 i hi with h1 | ⟨h1, b, o, c, hv, h2, h3, h4, h5⟩
  · exact .inl h1
  · have hb : b ≠ g := fun e => hg i hi h1 (by rw [hv, ← e]; rfl)
    exact .inr ⟨h1, b, o, c, hv, h2, h3, cells_kept h4 (ho b hb), h5.keep (ho b hb)⟩
/-- A cell of a row is stored in its place. -/
theorem DkA.cell {W : World} {N p : Nat} {s : Scr} {rows : List (List C)} {cv tv gv rv : Value} {gvs vs : List Value} {gs : List Nat} (h : DkA W N p s rows cv tv gv rv gvs vs gs) (y x : Nat) (hy : y < rows.length) (hx : x < (rows.getD y []).length) (c : C) :
    DkA (W.setCells (gs.getD y 0) (x * 4) (words c)) N p s (rows.set y ((rows.getD y []).set x c)) cv tv gv rv gvs vs gs := by
  obtain ⟨hg, cap, rest, hv, hc1, hc2, hh⟩ := h.rin.2.2.2 y hy
  have hgl : y < gs.length := by rw [h.rin.2.1]; exact hy
  have ho : ∀ k, k ≠ gs.getD y 0 → (W.setCells (gs.getD y 0) (x * 4) (words c)).heap[k]? = W.heap[k]? := fun k hk => Grd.heap_setCells_ne _ k hk _ _ _
  have hst := Grd.store_cell (w := W) (pre := []) (post := rest) (by rw [List.nil_append]; exact hh) x hx c
  rw [List.length_nil, Nat.zero_add, List.nil_append] at hst
  have hne : p ≠ gs.getD y 0 := fun e => by
    have hb := h.blk
    rw [e, hh] at hb
    injection hb with hb
    injection hb with _ hb _
    exact absurd hb (by decide)
  have hr : RowsAt (W.setCells (gs.getD y 0) (x * 4) (words c)) N (vs.set y (vs.getD y nilV)) (gs.set y (gs.getD y 0)) (rows.set y ((rows.getD y []).set x c)) := h.rin.set y hy (gs.getD y 0) (vs.getD y nilV) _ hg ⟨cap, rest, by rw [List.length_set]; exact hv, by rw [List.length_set]; exact hc1, hc2, hst⟩ (fun i hi hn => h.rin.ne i y hi hy hn) (fun i hi hn => ho _ (h.rin.ne i y hi hy hn))
  rw [set_getD _ _ _ (by rw [h.rin.1]; exact hy), set_getD _ _ _ hgl] at hr
  refine ⟨(ho p hne).trans h.blk, h.lo, h.cvs, own_apart h.tabs hh (by decide) ho, h.gone.apart hh (by decide) ho, gone_kept h.gin (fun i hi hn e => h.gof i hi hn _ e (gsD hgl)) ho, h.gof, ?_, hr, h.two⟩
  rw [List.length_set]
  exact own_apart h.rws hh (by decide) ho
/-- Another row in the place of one. -/
theorem DkA.row {W : World} {N p : Nat} {s : Scr} {rows : List (List C)} {cv tv gv : Value} {gvs vs : List Value} {gs : List Nat} {G c : Nat} (h : DkA W N p s rows cv tv gv (.slice (some ⟨G, 0, none⟩) rows.length c) gvs vs gs) (y : Nat) (hy : y < rows.length) (g : Nat) (v : Value) (row : List C) (hg : N ≤ g) (hr : RowB W g v row)
    (hn1 : ∀ i, i < rows.length → gs.getD i 0 ≠ g) (hn2 : ∀ i, i < s.gone.length → s.gone.getD i [] ≠ [] → blkOf (gvs.getD i nilV) ≠ some g) :
    DkA (W.setCell ⟨G, y, none⟩ v) N p s (rows.set y row) cv tv gv (.slice (some ⟨G, 0, none⟩) rows.length c) gvs (vs.set y v) (gs.set y g) := by
  obtain ⟨G', c', hv, hGN, -, -, -, -, A, hA⟩ := own_cells h.rws (by omega)
  injection hv with hv1 _ hv3
  injection hv1 with hv1
  injection hv1 with hv1
  subst hv1
  have ho : ∀ k, k ≠ G → (W.setCell ⟨G, y, none⟩ v).heap[k]? = W.heap[k]? := fun k hk => store_off hk
  have hne : p ≠ G := fun e => by
    have hb := h.blk
    rw [e, hA] at hb
    injection hb with hb
    injection hb with _ hb _
    exact absurd hb (by decide)
  have hgG : g ≠ G := fun e => by
    obtain ⟨B, hB⟩ := rowB_type hr
    rw [e, hA] at hB
    injection hB with hB
    injection hB with _ hB _
    exact absurd hB (by decide)
  have hgi : ∀ i, i < rows.length → gs.getD i 0 ≠ G := fun i hi e => by
    obtain ⟨B, hB⟩ := rowB_type (h.rin.2.2.2 i hi).2
    rw [e, hA] at hB
    injection hB with hB
    injection hB with _ hB _
    exact absurd hB (by decide)
  have hr2 : RowB (W.setCell ⟨G, y, none⟩ v) g v row := by
    obtain ⟨cap, rest, q0, q1, q2, q3⟩ := hr
    exact ⟨cap, rest, q0, q1, q2, (ho g hgG).trans q3⟩
  refine ⟨(ho p hne).trans h.blk, h.lo, h.cvs, own_apart h.tabs hA (by decide) ho, ?_, ?_, ?_, ?_, ?_, h.two⟩
  · refine h.gone.kept fun q hq => ho q fun e => ?_
    subst e
    exact h.two q rfl hq
  · exact h.gin.keep (Kept.apart hA (by decide) hGN ho)
  · intro i hi hn q hq hm
    rcases List.mem_or_eq_of_mem_set hm with h1 | h1
    · exact h.gof i hi hn q hq h1
    · exact hn2 i hi hn (by rw [← h1]; exact hq)
  · rw [List.length_set]
    exact own_set h.rws
  · exact h.rin.set y hy g v row hg hr2 (fun i hi _ => hn1 i hi) (fun i hi _ => ho _ (hgi i hi))
/-- Cells from one up to another are blank. -/
def putTo (bk : Int) (row : List C) (a k : Nat) : List C := putRow row (fun x => decide (a ≤ x ∧ x < k)) fun _ => (32, 0, bk, 0)
theorem putTo_len (bk : Int) (row : List C) (a k : Nat) : (putTo bk row a k).length = row.length := Grd.putRow_len _ _ _
theorem putTo_start (bk : Int) (row : List C) (a : Nat) : putTo bk row a a = row := Grd.putRow_none _ _ _ fun x _ => by
  rw [decide_eq_false_iff_not]
  omega
theorem putTo_next (bk : Int) (row : List C) (a k : Nat) (hk : k < row.length) (ha : a ≤ k) : (putTo bk row a k).set k (32, 0, bk, 0) = putTo bk row a (k + 1) := Grd.putRow_set row _ _ (fun _ => (32, 0, bk, 0)) k hk fun x _ => by
  by_cases e : x = k
  · subst e
    simp
    omega
  · simp only [e, decide_false, Bool.or_false]
    rw [decide_eq_decide]
    omega
theorem wipe_put (bk : Int) (row : List C) (a k : Nat) : wipeRow bk row a k = mendL (putTo bk row a k) := rfl
theorem wipe_cells {V : World} {p G y g x : Nat} {u v : Value} {vs : List Value} (h1 : p ≠ g) (h2 : G ≠ g) (h : V.cell? ⟨p, 22, none⟩ = some u ∧ V.cell? ⟨G, y, none⟩ = some v) : (V.setCells g x vs).cell? ⟨p, 22, none⟩ = some u ∧ (V.setCells g x vs).cell? ⟨G, y, none⟩ = some v := by
  have e : ∀ k i, k ≠ g → (V.setCells g x vs).cell? ⟨k, i, none⟩ = V.cell? ⟨k, i, none⟩ := fun k i hk => by simp [World.cell?, Grd.heap_setCells_ne g k hk vs x V]
  exact ⟨(e p 22 h1).trans h.1, (e G y h2).trans h.2⟩
theorem cell_off {V : World} {p G i j : Nat} {v : Value} (h : p ≠ G) : (V.setCell ⟨G, i, none⟩ v).cell? ⟨p, j, none⟩ = V.cell? ⟨p, j, none⟩ := by
  simp [World.cell?, store_off (W := V) (p := G) (i := i) (v := v) h]
theorem rowB_shape {W : World} {g : Nat} {v : Value} {row : List C} (h : RowB W g v row) : ∃ a c, v = .slice a row.length c := by
  obtain ⟨cap, rest, hv, -⟩ := h
  exact ⟨_, cap, hv⟩
set_option maxHeartbeats 8000000 in
set_option maxRecDepth 100000 in
theorem deskWipe_any (W : World) (N p : Nat) (s : Scr) (rows : List (List C)) (hN : N ≤ W.heap.size) (hD : DkAt W N p s rows) (n y a b : Nat) (hw : s.w = n) (hn : n ≤ 120) (hy : y < rows.length) (hyb : y ≤ 60) (hrl : rows.length ≤ 60) (_ha : a ≤ n) (_hb : b ≤ 240) (hab : a ≤ min b n) (hrow : (rows.getD y []).length = n) (hn1 : 1 ≤ n) :
    Calls Tryz.prog 68 #[.pointer (some ⟨p, 0, none⟩), .int .i64 (y : Int), .int .i64 (a : Int), .int .i64 (b : Int)] W fun e W' => e = .returned (.tuple #[]) ∧ DkAt W' N p s (rows.set y (wipeRow s.sb (rows.getD y []) a (min b n))) ∧ Below N W W' := by
  have m1 := Grd.max2 (a : Int) 0
  rw [show max (a : Int) 0 = (a : Int) by omega] at m1
  have m2 := Grd.min2 (b : Int) (n : Int)
  rw [show min (b : Int) (n : Int) = ((min b n : Nat) : Int) by omega] at m2
  obtain ⟨row, hr⟩ : ∃ row, row = rows.getD y [] := ⟨_, rfl⟩
  rw [← hr] at hrow ⊢
  obtain ⟨e, he⟩ : ∃ e, e = min b n := ⟨_, rfl⟩
  rw [← he] at hab m2 ⊢
  have hen : e ≤ n := by omega
  have HR : Hid (row = rows.getD y []) := hr
  have HW : Hid (s.w = n) := hw
  have HD0 : Hid (DkAt W N p s (rows.set y (putTo s.sb row a a))) := by unfold Hid; rw [putTo_start, hr, set_getD _ _ _ hy]; exact hD
  clear hD hr hw he
  go_enter Tryz.func68, Tryz.ntmps68
  go_wp2_with fail
  go_loopg [8] n (fun q i wr => ∃ k : Nat, i = .int .i64 (k : Int) ∧ a ≤ k ∧ k ≤ e ∧ e - k ≤ q ∧ DkAt wr N p s (rows.set y (putTo s.sb row a k)) ∧ Below N W wr)
  case atStart => exact ⟨a, rfl, Nat.le_refl _, hab, by omega, HD0.out, Below.refl _ _⟩
  case round =>
    clear HD0
    obtain ⟨k, rfl, hk1, hk2, hq, hDk, hBk⟩ := hrel
    obtain ⟨cv, tv, gv, rv, gvs, vs, gs, hA⟩ := hDk
    have hyl : y < (rows.set y (putTo s.sb row a k)).length := by rw [List.length_set]; exact hy
    obtain ⟨G, rc, hrv, hGN, hrc1, hrc2, hvl, hcell, A, hGA⟩ := own_cells hA.rws (by omega)
    obtain ⟨hg, cap, rest, hvv, hc1, hc2, hgh⟩ := hA.rin.2.2.2 y hyl
    have hgy : (rows.set y (putTo s.sb row a k)).getD y [] = putTo s.sb row a k := getD_set_same _ _ _ _ hy
    rw [hgy, putTo_len, hrow] at hvv hc1
    rw [hgy] at hgh
    have d1 := hcell y hyl
    rw [hvv] at d1
    obtain ⟨⟨c0, -, -, -, -, -, -, c7, -⟩, ⟨-, -, -, -, -, -, -, -, -, -, -, c22⟩, -⟩ := sh_cells hA.blk
    rw [HW.out] at c0
    rw [List.length_set] at hrv hrc1
    rw [hrv] at c22
    have HBK : Hid (Below N W wr) := hBk
    have hsz := hBk.size
    have hpl := heap_lt hA.blk
    have hGl := heap_lt hGA
    have hgl := heap_lt hgh
    have hpG : p ≠ gs.getD y 0 := fun e => by
      have hb := hA.blk
      rw [e, hgh] at hb
      injection hb with hb
      injection hb with _ hb _
      exact absurd hb (by decide)
    have hGg : G ≠ gs.getD y 0 := fun e => by
      rw [e, hgh] at hGA
      injection hGA with hb
      injection hb with _ hb _
      exact absurd hb (by decide)
    obtain ⟨g, hgE⟩ : ∃ g, g = gs.getD y 0 := ⟨_, rfl⟩
    by_cases hlt : k < e
    · have lt1 : (k : Int) < (e : Int) := by omega
      have lt2 : (k : Int) < (n : Int) := by omega
      have hkr : k < (putTo s.sb row a k).length := by rw [putTo_len, hrow]; omega
      have HNX : Hid (∀ V, Below wr.heap.size wr V → DkAt (V.setCells g (k * 4) (words (32, 0, s.sb, 0))) N p s (rows.set y (putTo s.sb row a (k + 1)))) := fun V hV => by
        have h1 := (hA.next hV).cell y k hyl (by rw [hgy]; exact hkr) (32, 0, s.sb, 0)
        rw [hgy, putTo_next s.sb row a k (by omega) hk1, List.set_set, ← hgE] at h1
        exact ⟨_, _, _, _, _, _, _, h1⟩
      have HFR : Hid (∀ V, Below wr.heap.size wr V → (∀ i, V.frozen? ⟨g, i, none⟩ = false) ∧ CellsAt V g 0 (putTo s.sb row a k)) := fun V hV => by
        have hx := Grd.carry hgh hV
        rw [← hgE] at hx
        exact ⟨fun i => frozen_cells hx i, Grd.cellsAt_flat hx⟩
      rw [← hgE] at d1 hg hpG hGg
      have HNG : Hid (N ≤ g) := hg
      have HCE : Hid (∀ V, Below wr.heap.size wr V → V.cell? ⟨p, 22, none⟩ = some (.slice (some ⟨G, 0, none⟩) rows.length rc) ∧ V.cell? ⟨G, y, none⟩ = some (.slice (some ⟨g, 0, none⟩) n cap)) := fun V hV => ⟨cell_stay hV c22, cell_stay hV d1⟩
      have HBL : Hid (∀ V, Below wr.heap.size wr V → Calls Tryz.prog 71 #[.pointer (some ⟨p, 0, none⟩)] V fun e V' => e = .returned (.agg #[.int .i32 32, .int .i64 0, .int .i64 s.sb, .int .i64 0]) ∧ Below V.heap.size V V') := fun V hV => dblank_any p s.sb V (cell_stay hV c7)
      have HPK : Hid (p ≠ g ∧ G ≠ g) := ⟨hpG, hGg⟩
      have HNW : Hid (N ≤ wr.heap.size) := by unfold Hid; omega
      clear hA hcell hGA hgh hgy hvv hBk hg hpG hGg hgE hvl hrv hkr
      have b0 : Below wr.heap.size wr wr.drew := (Below.refl _ _).drew
      have s0 := HCE.out _ b0
      go_upto_region 3 with fail
      go_region_held3 (fun w' => w'.cell? ⟨p, 22, none⟩ = some (.slice (some ⟨G, 0, none⟩) rows.length rc) ∧ w'.cell? ⟨G, y, none⟩ = some (.slice (some ⟨g, 0, none⟩) n cap))
        (first | exact s2 | exact s1 | exact s0)
        (first | (go_at_call 71; refine (HBL.out _ b0).mono ?_; rintro e V ⟨rfl, b1⟩; have q1 := b0.trans (b1.mono b0.size); have s1 := HCE.out _ q1; obtain ⟨fr, hcs⟩ := HFR.out _ q1; obtain ⟨o0, o1, o2, o3⟩ := hcs k (by rw [putTo_len, hrow]; omega); rw [Nat.zero_add] at o0 o1 o2 o3; have f0 := fr (k * 4); have f1 := fr (k * 4 + 1); have f2 := fr (k * 4 + 2); have f3 := fr (k * 4 + 3); have s2 := wipe_cells (g := g) (x := k * 4) (vs := words (32, 0, s.sb, 0)) HPK.out.1 HPK.out.2 s1; have HV : Hid (Below wr.heap.size wr V) := q1; clear b1 fr hcs))
      go_wp2_with fail
      go_roundg (e - (k + 1))
      case measure => omega
      case rel => exact ⟨k + 1, by go_num, by omega, by omega, by omega, HNX.out _ HV.out, HBK.out.trans ((HV.out.mono HNW.out).trans (((((Below.refl _ _).setCell HNG.out _).setCell HNG.out _).setCell HNG.out _).setCell HNG.out _))⟩
    · have lt1 : ¬ (k : Int) < (e : Int) := by omega
      have hke : k = e := by omega
      subst hke
      have HMR : Hid (∀ V, Below wr.heap.size wr V → Calls Tryz.prog 72 #[.slice (some ⟨gs.getD y 0, 0, none⟩) n cap] V fun e w' => ∃ v' g', e = .returned v' ∧ V.heap.size ≤ g' ∧ RowB w' g' v' (mendL (putTo s.sb row a k)) ∧ Below V.heap.size V w') := fun V hV => by
        have hx := Grd.cellsAt_flat (Grd.carry hgh hV)
        have h := Grd.mendRow_any (gs.getD y 0) 0 cap (putTo s.sb row a k) V hx (by rw [putTo_len, hrow]; omega)
        rw [putTo_len, hrow] at h
        exact h
      have HCE : Hid (∀ V, Below wr.heap.size wr V → V.cell? ⟨p, 22, none⟩ = some (.slice (some ⟨G, 0, none⟩) rows.length rc) ∧ V.cell? ⟨G, y, none⟩ = some (.slice (some ⟨gs.getD y 0, 0, none⟩) n cap)) := fun V hV => ⟨cell_stay hV c22, cell_stay hV d1⟩
      have HPG : Hid (p ≠ G) := fun e' => by
        have hb := hA.blk
        rw [e', hGA] at hb
        injection hb with hb
        injection hb with _ hb _
        exact absurd hb (by decide)
      have HFR : Hid (∀ V, Below wr.heap.size wr V → V.frozen? ⟨G, y, none⟩ = false) := fun V hV => frozen_cells (Grd.carry hGA hV) y
      rw [show rv = _ from hrv] at hA
      have HEND : Hid (∀ V g' v', Below wr.heap.size wr V → wr.heap.size ≤ g' → RowB V g' v' (mendL (putTo s.sb row a k)) → DkAt (V.setCell ⟨G, y, none⟩ v') N p s (rows.set y (wipeRow s.sb row a k)) ∧ Below N wr (V.setCell ⟨G, y, none⟩ v')) := fun V g' v' hV hg' hr' => by
        have hl : (rows.set y (putTo s.sb row a k)).length = rows.length := List.length_set
        have h1 := DkA.row (G := G) (c := rc) (by rw [hl]; exact hA.next hV) y hyl g' v' _ (by omega) hr' (fun i hi => by have := hA.rin.lt i hi; omega) (fun i hi hn e' => by
          rcases hA.gin.2 i hi with ⟨he', -⟩ | ⟨-, b', o', c', hv', -, -, hC', -⟩
          · exact hn he'
          · rw [hv'] at e'
            have e2 : b' = g' := by simpa [blkOf] using e'
            have := lt_of_cells hC' hn
            omega)
        rw [List.set_set, ← wipe_put] at h1
        exact ⟨⟨_, _, _, _, _, _, _, h1⟩, (hV.mono (by omega)).setCell hGN _⟩
      clear hA hcell hGA hgh hgy hvv hBk hgE hvl hrv hpG hGg c7
      clear hgl hc1
      generalize gs.getD y 0 = g' at *
      have b0 : Below wr.heap.size wr wr.drew := (Below.refl _ _).drew
      go_upto_region 4 with fail
      go_region_with (first | (go_at_call 72; refine (HMR.out _ b0).mono ?_; rintro e V ⟨v', g2, rfl, hg', hr', b1⟩; have q1 := b0.trans (b1.mono b0.size); have s1 := HCE.out _ q1; obtain ⟨c1', s1'⟩ := s1; have fr := HFR.out _ q1; obtain ⟨na, nc, rfl⟩ := rowB_shape hr'; have HE : Hid _ := HEND.out V g2 _ q1 (by simpa using hg') hr'; clear b1 hr' q1 hg'))
      all_goals go_wp2_with fail
      all_goals go_end0
      all_goals exact ⟨rfl, HE.out.1, HBK.out.trans HE.out.2⟩
end Put
end Go.Proofs.YtfdookpjhbjndaaGreatDoor

/- What stays of a sheet whose words change; Has. -/
namespace Go.Proofs.YtfdookpjhbjndaaGreatDoor
open Go.ChangeShapes Go.WideShapes Go.ChangeAt Go.RowKit
namespace Put
open Grd (C SliceAt CellsAt gridErr z0 nilV flat rowsL)
theorem ShA.set {t : TypeId} (ht : IsSheet t) {W : World} {M N p : Nat} {s s' : Scr} {rows : List (List C)} {cv tv gv rv : Value} {gvs vs : List Value} (h : ShA t W M N p s rows cv tv gv rv gvs vs) (i : Nat) (v : Value) (e : (shA s cv tv gv rv).setIfInBounds i v = shA s' cv tv gv rv) (h1 : s'.tabs = s.tabs) (h2 : s'.gone = s.gone) : ShA t (W.setCell ⟨p, i, none⟩ v) M N p s' rows cv tv gv rv gvs vs :=
  h.put ht (store_at h.blk e) (fun _ hk => store_off hk) h1 h2
theorem ShAt.set {t : TypeId} (ht : IsSheet t) {W : World} {M N p : Nat} {s s' : Scr} {rows : List (List C)} (h : ShAt t W M N p s rows) (i : Nat) (v : Value) (e : ∀ cv tv gv rv, (shA s cv tv gv rv).setIfInBounds i v = shA s' cv tv gv rv) (h1 : s'.tabs = s.tabs) (h2 : s'.gone = s.gone) : ShAt t (W.setCell ⟨p, i, none⟩ v) M N p s' rows := by
  obtain ⟨cv, tv, gv, rv, gvs, vs, h⟩ := h
  exact ⟨cv, tv, gv, rv, gvs, vs, h.set ht i v (e _ _ _ _) h1 h2⟩
theorem ShAt.next {t : TypeId} {W W' : World} {M N p : Nat} {s : Scr} {rows : List (List C)} (h : ShAt t W M N p s rows) (hb : Below W.heap.size W W') : ShAt t W' M N p s rows := by
  obtain ⟨cv, tv, gv, rv, gvs, vs, h⟩ := h
  exact ⟨cv, tv, gv, rv, gvs, vs, h.next hb⟩
theorem ShAt.lo {t : TypeId} {W : World} {M N p : Nat} {s : Scr} {rows : List (List C)} (h : ShAt t W M N p s rows) : N ≤ p := by
  obtain ⟨cv, tv, gv, rv, gvs, vs, h⟩ := h
  exact h.lo
theorem ShAt.drew {t : TypeId} {W : World} {M N p : Nat} {s : Scr} {rows : List (List C)} (h : ShAt t W M N p s rows) : ShAt t W.drew M N p s rows := h.next ((Below.refl _ _).drew)
/-- The words of a sheet that are numbers. -/
theorem ShAt.words {t : TypeId} {W : World} {M N p : Nat} {s : Scr} {rows : List (List C)} (h : ShAt t W M N p s rows) :
    W.cell? ⟨p, 0, none⟩ = some (.int .i64 s.w) ∧ W.cell? ⟨p, 1, none⟩ = some (.int .i64 s.h) ∧ W.cell? ⟨p, 3, none⟩ = some (.int .i64 s.x) ∧ W.cell? ⟨p, 4, none⟩ = some (.int .i64 s.y) ∧ W.cell? ⟨p, 5, none⟩ = some (.bool s.late) ∧ W.cell? ⟨p, 9, none⟩ = some (.int .i64 s.top) ∧ W.cell? ⟨p, 10, none⟩ = some (.int .i64 s.bot) ∧ W.cell? ⟨p, 11, none⟩ = some (.int .i64 s.modes) ∧ W.cell? ⟨p, 19, none⟩ = some (.int .i32 s.last) ∧ ∀ i, W.frozen? ⟨p, i, none⟩ = false := by
  obtain ⟨cv, tv, gv, rv, gvs, vs, h⟩ := h
  obtain ⟨⟨c0, c1, -, c3, c4, c5, -, -, -, c9, c10⟩, ⟨c11, -, -, -, -, -, -, -, c19, -⟩, f⟩ := sh_cells h.blk
  exact ⟨c0, c1, c3, c4, c5, c9, c10, c11, c19, f⟩
theorem ShAt.fin {t : TypeId} (ht : IsSheet t) {W : World} {M N p : Nat} {s s' : Scr} {rows : List (List C)} (h : ShAt t W M N p s rows) (i : Nat) (v : Value) (e : ∀ cv tv gv rv, (shA s cv tv gv rv).setIfInBounds i v = shA s' cv tv gv rv) (h1 : s'.tabs = s.tabs) (h2 : s'.gone = s.gone) : ∀ v', v' = v → ShAt t (W.setCell ⟨p, i, none⟩ v').drew M N p s' rows ∧ Below N W (W.setCell ⟨p, i, none⟩ v').drew := fun v' hv => by
  subst hv
  exact ⟨(h.set ht i _ e h1 h2).drew, ((Below.refl _ _).setCell h.lo _).drew⟩
theorem wrap_id (a : Int) (h0 : -9223372036854775808 ≤ a) (h1 : a ≤ 9223372036854775807) : IntKind.i64.wrap a = a := by
  rw [IntKind.wrap_i64]
  omega
theorem int_wrap (a : Int) (h0 : -9223372036854775808 ≤ a) (h1 : a ≤ 9223372036854775807) : Value.int .i64 (IntKind.i64.wrap a) = Value.int .i64 a := by rw [wrap_id a h0 h1]
/-- Are these bits set? -/
def hasB (m b : Int) : Bool := bits .and .i64 m b == b
theorem has_any {M N p : Nat} {s : Scr} {rows : List (List C)} (b : Int) (W : World) (hS : ShAt 45 W M N p s rows) : Calls Tryz.prog 77 #[.pointer (some ⟨p, 0, none⟩), .int .i64 b] W fun e w' => e = .returned (.bool (hasB s.modes b)) ∧ W = w' := by
  obtain ⟨c0, c1, c3, c4, c5, c9, c10, c11, c19, f⟩ := hS.words
  clear c0 c1 c3 c4 c5 c9 c10 c19 f hS
  go_enter Tryz.func77, Tryz.ntmps77
  go_wp2_with fail
  go_ret
  exact ⟨rfl, rfl⟩
end Put
end Go.Proofs.YtfdookpjhbjndaaGreatDoor

/- (*sheet.Sheet).alter: a row is made anew. -/
namespace Go.Proofs.YtfdookpjhbjndaaGreatDoor
open Go.ChangeShapes Go.WideShapes Go.ChangeAt Go.RowKit
namespace Put
open Grd (C SliceAt CellsAt gridErr z0 nilV flat rowsL OwnG RowB)
/-- Blocks of other types than those that a sheet writes to are kept. -/
def Other (t : TypeId) : Prop := t ≠ 45 ∧ t ≠ 4 ∧ t ≠ 22
def OtherO (o : Obj) : Prop := ∀ (A : Array Value) (t : TypeId) (f : Nat × Nat), o = .cells A t f → Other t
def Framed (W W' : World) : Prop := ∀ (k : Nat) (o : Obj), W.heap[k]? = some o → OtherO o → W'.heap[k]? = some o
theorem Framed.refl (W : World) : Framed W W := fun _ _ h _ => h
theorem Framed.trans {a b c : World} (h : Framed a b) (k : Framed b c) : Framed a c := fun i o hi ho => k i o (h i o hi ho) ho
theorem Framed.of_below {W W' : World} (h : Below W.heap.size W W') : Framed W W' := fun k _ hk _ => (h.block k (heap_lt hk)).trans hk
theorem Framed.store {W : World} {p i : Nat} {v : Value} {A : Array Value} {t : TypeId} (hp : W.heap[p]? = some (.cells A t (0, 0))) (ht : ¬ Other t) : Framed W (W.setCell ⟨p, i, none⟩ v) := fun k o hk ho => by
  have hne : k ≠ p := by
    intro e
    rw [e, hp] at hk
    injection hk with hk
    exact ht (ho A t (0, 0) hk.symm)
  exact (store_off hne).trans hk
theorem other_cells {A : Array Value} {t : TypeId} {f : Nat × Nat} (h : Other t) : OtherO (.cells A t f) := fun B u g e => by
  injection e with _ e _
  rw [← e]
  exact h
theorem not_other_sheet : ¬ Other 45 := fun h => h.1 rfl
theorem not_other_rows : ¬ Other 22 := fun h => h.2.2 rfl
theorem not_other_bool : ¬ Other 4 := fun h => h.2.1 rfl
theorem Framed.cell {W W' : World} (h : Framed W W') {k i : Nat} {A : Array Value} {t : TypeId} (hk : W.heap[k]? = some (.cells A t (0, 0))) (ho : Other t) : W'.cell? ⟨k, i, none⟩ = W.cell? ⟨k, i, none⟩ := by
  have h1 := h k _ hk (other_cells ho)
  simp only [World.cell?, h1, hk]
/-- What a sheet is behind a call that changes it. -/
def Ran (W : World) (M N p : Nat) (s' : Scr) (rows' : List (List C)) (e : Ending) (W' : World) : Prop := e = .returned (.tuple #[]) ∧ ShAt 45 W' M N p s' rows' ∧ Below N W W' ∧ Framed W W'
theorem own_rowB {W : World} {base : Nat} {v : Value} {row : List C} (h : OwnG W base v row) : ∃ g, base ≤ g ∧ RowB W g v row := by
  obtain ⟨g, cap, rest, ⟨t, rfl⟩, hv, hg, h1, h2, h3⟩ := h
  exact ⟨g, hg, cap, rest, hv, h1, h2, h3⟩
theorem ShA.storeRow {V : World} {M N p : Nat} {s : Scr} {rows : List (List C)} {cv tv gv rv : Value} {gvs vs : List Value} (h : ShA 45 V M N p s rows cv tv gv rv gvs vs) {rb rc y : Nat} (hrv : rv = .slice (some ⟨rb, 0, none⟩) rows.length rc) {v : Value} {row' : List C} (hr : RowIn V M v row') : ShA 45 (V.setCell ⟨rb, y, none⟩ v) M N p s (rows.set y row') cv tv gv rv gvs (vs.set y v) := by
  obtain ⟨hlo, A, f, hA⟩ := owns_block h.rws rb (by rw [hrv]; rfl)
  have hA0 : ∃ A, V.heap[rb]? = some (.cells A 22 (0, 0)) := by
    have h1 := h.rws
    rw [hrv] at h1
    obtain ⟨-, ⟨h1, -⟩ | ⟨g', cap, cur, hv, -, hh, -⟩⟩ := h1
    · injection h1 with h1
      cases h1
    · injection hv with hv1 _ _
      injection hv1 with hv1
      injection hv1 with hv1
      subst hv1
      exact ⟨cur, hh⟩
  obtain ⟨B, hB⟩ := hA0
  have hne : p ≠ rb := by
    intro e
    rw [← e, h.blk] at hB
    injection hB with hB
    injection hB with _ hB _
    exact absurd hB (by decide)
  have hK : Kept M V (V.setCell ⟨rb, y, none⟩ v) := Kept.store hB (by decide) (Nat.le_trans h.ml hlo)
  refine ⟨(store_off hne).trans h.blk, h.lo, h.ml, h.cvs, own_off h.tabs hB (by decide), owns_kept h.gone fun g hg => store_off fun e => h.two rb (by rw [hrv]; rfl) (by rw [hg, e]), h.gin.keep hK, ?_, (h.rin.set y v row' hr).keep hK, h.two⟩
  have h1 := h.rws
  rw [hrv] at h1 ⊢
  rw [List.length_set]
  exact own_set h1
/-- What a function makes of a row that is handed to it as a grid. -/
def Alters (hf : FuncId) (caps : Array Value) (M : Nat) (W : World) (n : Int) (v : Value) (row' : List C) : Prop :=
  ∀ W1, Below W.heap.size W W1 → Calls Tryz.prog hf (#[.agg #[.int .i64 n, .int .i64 1, v]] ++ caps) W1 fun e W2 => ∃ a c, e = .returned (.agg #[.int .i64 n, .int .i64 1, .slice a row'.length c]) ∧ RowIn W2 M (.slice a row'.length c) row' ∧ Below W1.heap.size W1 W2
theorem field_cells (n : Int) (q : Option Addr) (l k : Nat) (W : World) : (Instr.field 24 (.agg #[.int .i64 n, .int .i64 1, .slice q l k]) 2).run Tryz.prog W = .ok (.slice q l k) W := by kernel_rfl
set_option maxHeartbeats 4000000 in
set_option maxRecDepth 100000 in
theorem alter_any (W : World) (M N p : Nat) (s : Scr) (rows : List (List C)) (cv tv gv rv : Value) (gvs vs : List Value) (hS : ShA 45 W M N p s rows cv tv gv rv gvs vs) (y : Nat) (hy : y < rows.length) (hf : FuncId) (hpl : Plain hf) (caps : Array Value) (row' : List C) (hA : Alters hf caps M W s.w (vs.getD y nilV) row') :
    Calls Tryz.prog 84 #[.pointer (some ⟨p, 0, none⟩), .int .i64 (y : Int), .func (.func hf) #[] caps] W (Ran W M N p s (rows.set y row')) := by
  obtain ⟨rb, rc, hrv, hrb, hrc1, hrc2, hvl, hrcell, A, hrA⟩ := own_cells hS.rws (by omega)
  obtain ⟨va, vc, hsh⟩ := (hS.rin.2 y hy).shape
  have hfd := field_cells s.w
  have hyI : (0 : Int) ≤ (y : Int) := by omega
  have hyI2 : (y : Int) < (rows.length : Int) := by omega
  have d1 := hrcell y hy
  have HW : Hid (ShA 45 W M N p s rows cv tv gv rv gvs vs) := hS
  obtain ⟨⟨c0, -⟩, ⟨-, -, -, -, -, -, -, -, -, -, -, c22⟩, -⟩ := sh_cells hS.blk
  rw [hrv] at c22
  rw [hsh] at d1 hA
  have HA : Hid (Alters hf caps M W s.w (.slice va (rows.getD y []).length vc) row') := hA
  have hne : rb ≠ p := by
    intro e
    rw [e, hS.blk] at hrA
    injection hrA with hrA
    injection hrA with _ hrA _
    exact absurd hrA (by decide)
  have HRA : Hid (W.heap[rb]? = some (.cells A 22 (0, 0))) := hrA
  have HRV : Hid (rv = .slice (some ⟨rb, 0, none⟩) rows.length rc) := hrv
  have hlo := hS.lo
  have hml := hS.ml
  unfold Plain at hpl
  obtain ⟨row, hrow⟩ : ∃ row, row = rows.getD y [] := ⟨_, rfl⟩
  rw [← hrow] at d1 HA
  have hpl' := heap_lt hS.blk
  have hWb : W.heap.size ≠ rb := by have := heap_lt hrA; omega
  have hrl' := heap_lt hrA
  clear hS hA hrA hrcell hsh hrow hrv
  go_enter Tryz.func84, Tryz.ntmps84
  go_upto_region 0 with fail
  go_region
  have bX : Below W.heap.size W (W.alloc (.cells #[.int .i64 s.w, .int .i64 1, .slice va row.length vc] 24)).drew := ((Below.refl _ _).alloc (Nat.le_refl _) _).drew
  have xX : (W.alloc (.cells #[.int .i64 s.w, .int .i64 1, .slice va row.length vc] 24)).drew.heap[W.heap.size]? = some (.cells #[.int .i64 s.w, .int .i64 1, .slice va row.length vc] 24 (0, 0)) := heap_alloc_new W _
  have HBX : Hid _ := bX
  have HXX : Hid _ := xX
  have k22 := cell_stay bX c22
  have kd := cell_stay bX d1
  obtain ⟨g0, g1, g2, -⟩ := Grd.cells3 xX
  clear c0 c22 d1 bX xX
  generalize (W.alloc (.cells #[.int .i64 s.w, .int .i64 1, .slice va row.length vc] 24)).drew = X at *
  go_wp2_with fail
  have e0 : (fun w' => w'.cell? ⟨p, 22, none⟩ = some (.slice (some ⟨rb, 0, none⟩) rows.length rc) ∧ w'.cell? ⟨W.heap.size, 0, none⟩ = some (.int .i64 s.w) ∧ w'.cell? ⟨W.heap.size, 1, none⟩ = some (.int .i64 1) ∧ w'.cell? ⟨W.heap.size, 2, none⟩ = some (.slice va row.length vc)) X.drew := ⟨k22, g0, g1, g2⟩
  go_region_held3 (fun w' => w'.cell? ⟨p, 22, none⟩ = some (.slice (some ⟨rb, 0, none⟩) rows.length rc) ∧ w'.cell? ⟨W.heap.size, 0, none⟩ = some (.int .i64 s.w) ∧ w'.cell? ⟨W.heap.size, 1, none⟩ = some (.int .i64 1) ∧ w'.cell? ⟨W.heap.size, 2, none⟩ = some (.slice va row.length vc))
    (first | exact e2 | exact e1 | exact e0)
    (first | (refine (HA.out X.drew (HBX.out.drew)).mono ?_; rintro e V ⟨na, nc, rfl, hri, b1⟩; have e1 : (fun w' => w'.cell? ⟨p, 22, none⟩ = some (.slice (some ⟨rb, 0, none⟩) rows.length rc) ∧ w'.cell? ⟨W.heap.size, 0, none⟩ = some (.int .i64 s.w) ∧ w'.cell? ⟨W.heap.size, 1, none⟩ = some (.int .i64 1) ∧ w'.cell? ⟨W.heap.size, 2, none⟩ = some (.slice va row.length vc)) V := ⟨cell_stay b1 k22, cell_stay b1 g0, cell_stay b1 g1, cell_stay b1 g2⟩; have bV : Below W.heap.size W V := (HBX.out.drew).trans (b1.mono HBX.out.size); have hV := Grd.carry HRA.out bV; have d2 := cell_stay b1 kd; have fz : V.frozen? ⟨rb, y, none⟩ = false := frozen_cells hV y; have e2 : (fun w' => w'.cell? ⟨p, 22, none⟩ = some (.slice (some ⟨rb, 0, none⟩) rows.length rc) ∧ w'.cell? ⟨W.heap.size, 0, none⟩ = some (.int .i64 s.w) ∧ w'.cell? ⟨W.heap.size, 1, none⟩ = some (.int .i64 1) ∧ w'.cell? ⟨W.heap.size, 2, none⟩ = some (.slice va row.length vc)) (V.setCell ⟨rb, y, none⟩ (.slice na row'.length nc)) := ⟨(cell_store_off hne.symm).trans e1.1, (cell_store_off hWb).trans e1.2.1, (cell_store_off hWb).trans e1.2.2.1, (cell_store_off hWb).trans e1.2.2.2⟩; have HRI : Hid (RowIn V M (.slice na row'.length nc) row') := hri; have HBV : Hid (Below W.heap.size W V) := bV; clear hri b1 bV hV))
  go_end0
  exact ⟨rfl, ⟨_, _, _, _, _, _, (HW.out.next HBV.out).storeRow HRV.out HRI.out⟩, (HBV.out.mono (by omega)).setCell hrb _, (Framed.of_below HBV.out).trans (Framed.store (Grd.carry HRA.out HBV.out) not_other_rows)⟩
end Put
end Go.Proofs.YtfdookpjhbjndaaGreatDoor

/- holds. -/
namespace Go.Proofs.YtfdookpjhbjndaaGreatDoor
open Go.ChangeShapes Go.WideShapes Go.ChangeAt Go.RowKit
namespace Grd
def holdsI (n hh : Nat) (x y a b : Int) : Bool := decide (0 < a ∧ 0 < b ∧ 0 ≤ x ∧ 0 ≤ y ∧ a ≤ (n : Int) - x ∧ b ≤ (hh : Int) - y)
set_option maxHeartbeats 4000000 in
theorem holds_any (n hh : Nat) (v : Value) (x y a b : Int) (w : World) (hn : n ≤ 120) (hh' : hh ≤ 60) (hx0 : -9223372036854775808 ≤ x) (hx1 : x ≤ 9223372036854775807) (hy0 : -9223372036854775808 ≤ y) (hy1 : y ≤ 9223372036854775807) :
    Calls Tryz.prog 164 #[.agg #[.int .i64 (n : Int), .int .i64 (hh : Int), v], .agg #[.int .i64 x, .int .i64 y, .int .i64 a, .int .i64 b]] w fun e w' => e = .returned (.bool (holdsI n hh x y a b)) ∧ Below w.heap.size w w' := by
  have kk : Below w.heap.size w ((w.alloc (.cells #[.int .i64 (n : Int), .int .i64 (hh : Int), v] 24)).alloc (.cells #[.int .i64 x, .int .i64 y, .int .i64 a, .int .i64 b] 85)) := ((Below.refl _ _).alloc (Nat.le_refl _) _).alloc (by simp) _
  by_cases h1 : 0 < a
  · by_cases h2 : 0 < b
    · by_cases h3 : 0 ≤ x
      · by_cases h4 : 0 ≤ y
        · by_cases h5 : a ≤ (n : Int) - x
          · have e : holdsI n hh x y a b = decide (b ≤ (hh : Int) - y) := by unfold holdsI; rw [decide_eq_decide]; omega
            rw [e]
            go_enter Tryz.func164, Tryz.ntmps164
            go_wp2_with fail
            go_ret
            exact ⟨rfl, kk⟩
          · have e : holdsI n hh x y a b = false := by unfold holdsI; rw [decide_eq_false_iff_not]; omega
            rw [e]
            have g5 : decide (a ≤ (n : Int) - x) = false := by rw [decide_eq_false_iff_not]; exact h5
            go_enter Tryz.func164, Tryz.ntmps164
            go_wp2_with fail
            go_ret
            exact ⟨rfl, kk⟩
        · have e : holdsI n hh x y a b = false := by unfold holdsI; rw [decide_eq_false_iff_not]; omega
          rw [e]
          have g4 : decide (0 ≤ y) = false := by rw [decide_eq_false_iff_not]; exact h4
          go_enter Tryz.func164, Tryz.ntmps164
          go_wp2_with fail
          go_ret
          exact ⟨rfl, kk⟩
      · have e : holdsI n hh x y a b = false := by unfold holdsI; rw [decide_eq_false_iff_not]; omega
        rw [e]
        have g3 : decide (0 ≤ x) = false := by rw [decide_eq_false_iff_not]; exact h3
        go_enter Tryz.func164, Tryz.ntmps164
        go_wp2_with fail
        go_ret
        exact ⟨rfl, kk⟩
    · have e : holdsI n hh x y a b = false := by unfold holdsI; rw [decide_eq_false_iff_not]; omega
      rw [e]
      have g2 : decide (0 < b) = false := by rw [decide_eq_false_iff_not]; exact h2
      go_enter Tryz.func164, Tryz.ntmps164
      go_wp2_with fail
      go_ret
      exact ⟨rfl, kk⟩
  · have e : holdsI n hh x y a b = false := by unfold holdsI; rw [decide_eq_false_iff_not]; omega
    rw [e]
    have g1 : decide (0 < a) = false := by rw [decide_eq_false_iff_not]; exact h1
    go_enter Tryz.func164, Tryz.ntmps164
    go_wp2_with fail
    go_ret
    exact ⟨rfl, kk⟩
end Grd
end Go.Proofs.YtfdookpjhbjndaaGreatDoor

/- The walk of grid.Write: what is refused. -/
namespace Go.Proofs.YtfdookpjhbjndaaGreatDoor
open Go.ChangeShapes Go.WideShapes Go.ChangeAt Go.RowKit
namespace Grd
open Txt (wd)
open Sty (isSt)
theorem Apart.iterNew {N : Nat} {S : List Nat} {a b : World} (h : Apart N S a b) (g : Nat) (s : ByteArray) (p : Nat) (hg : a.heap.size ≤ g) (hN : N ≤ g) : Apart N S a (b.iterAt g s p) :=
  ⟨Lib.below_iterAt h.1 hN s p, fun i hi hl => (Lib.iterAt_other _ _ _ _ _ (by omega)).trans (h.2 i hi hl)⟩
theorem holds_to (n hh : Nat) (v : Value) (x y a b : Int) (q : Bool) (hq : holdsI n hh x y a b = q) (w : World) (hn : n ≤ 120) (hh' : hh ≤ 60) (hx0 : -9223372036854775808 ≤ x) (hx1 : x ≤ 9223372036854775807) (hy0 : -9223372036854775808 ≤ y) (hy1 : y ≤ 9223372036854775807) :
    Calls Tryz.prog 164 #[.agg #[.int .i64 (n : Int), .int .i64 (hh : Int), v], .agg #[.int .i64 x, .int .i64 y, .int .i64 a, .int .i64 b]] w fun e w' => e = .returned (.bool q) ∧ Below w.heap.size w w' := by
  have := holds_any n hh v x y a b w hn hh' hx0 hx1 hy0 hy1
  rwa [hq] at this
set_option maxHeartbeats 1000000 in
theorem write_bad1 (a h : Int) (v : Value) (cs : List C) (px py f bk x : Int) (s : ByteArray) (w : World) (hT : Txt.Tab w) (hS : SliceAt w v cs) (hok : gridErr a h cs ≠ 0) :
    Calls Tryz.prog 158 #[.agg #[.int .i64 a, .int .i64 h, v], .int .i64 px, .int .i64 py, .string s, .agg #[.int .i64 f, .int .i64 bk, .int .i64 x]] w fun e w' => e = .returned (.tuple #[.agg #[.int .i64 0, .int .i64 0, .slice none 0 0], .int .i64 (gridErr a h cs)]) ∧ Below w.heap.size w w' := by
  obtain ⟨_, _, x2, kk, hsz⟩ := alloc3 w (.cells #[.int .i64 a, .int .i64 h, v] 24) (.cells #[.int .i64 f, .int .i64 bk, .int .i64 x] 26) (.cells #[.int .i64 0, .int .i64 0, .slice none 0 0] 24)
  have HK := check_any a h v cs _ (Tab.next hT kk) (hS.below kk)
  generalize hW0 : (((w.alloc (.cells #[.int .i64 a, .int .i64 h, v] 24)).alloc (.cells #[.int .i64 f, .int .i64 bk, .int .i64 x] 26)).alloc (.cells #[.int .i64 0, .int .i64 0, .slice none 0 0] 24)) = W0 at x2 kk hsz HK
  have HW0 : Hid (_ = W0) := hW0
  generalize gridErr a h cs = er at *
  have HK' : Hid (Calls Tryz.prog 111 #[.agg #[.int .i64 a, .int .i64 h, v]] W0 fun e w' => e = .returned (.int .i64 er) ∧ Below W0.heap.size W0 w') := HK
  have ne : (er != 0) = true := by simpa using hok
  clear HK hW0 hok
  go_enter Tryz.func158, Tryz.ntmps158
  go_wp2_with (first
    | (go_at_call 111; rw [HW0.out]; refine HK'.out.mono ?_; rintro e W1 ⟨rfl, b1⟩; have y2 := carry x2 b1)
    | (refine wpList_store_row rfl 24 (.tmp 10) _ rfl (w.heap.size + 2) #[.int .i64 0, .int .i64 0, .slice none 0 0] rfl rfl _ _ y2 (by kernel_rfl) rfl (one3v _ _ _ _ _) ?_))
  (try simp only [Exit.inBlock, Exit.then])
  refine bodyPost_ret (v := .tuple #[.agg #[.int .i64 0, .int .i64 0, .slice none 0 0], .int .i64 er]) ?_ rfl ⟨rfl, below_setRow (kk.trans (b1.mono kk.size)) (by omega) _⟩
  exact results_row_tmp rfl _ _ (w.heap.size + 2) _ _ _ _ rfl (setRow_heap _ _ _ _ _ _ y2) Tryz.underlying24 rfl (by kernel_rfl) _ rfl
set_option maxHeartbeats 1000000 in
theorem write_bad2 (n hh : Nat) (v : Value) (cs : List C) (px py f bk x : Int) (s : ByteArray) (w : World) (hT : Txt.Tab w) (hS : SliceAt w v cs) (hok : gridErr n hh cs = 0) (hx0 : -9223372036854775808 ≤ px) (hx1 : px ≤ 9223372036854775807) (hy0 : -9223372036854775808 ≤ py) (hy1 : py ≤ 9223372036854775807) (hold : holdsI n hh px py 1 1 = false) :
    Calls Tryz.prog 158 #[.agg #[.int .i64 (n : Int), .int .i64 (hh : Int), v], .int .i64 px, .int .i64 py, .string s, .agg #[.int .i64 f, .int .i64 bk, .int .i64 x]] w fun e w' => e = .returned (.tuple #[.agg #[.int .i64 0, .int .i64 0, .slice none 0 0], .int .i64 4]) ∧ Below w.heap.size w w' := by
  obtain ⟨x0, x1, x2, kk, hsz⟩ := alloc3 w (.cells #[.int .i64 (n : Int), .int .i64 (hh : Int), v] 24) (.cells #[.int .i64 f, .int .i64 bk, .int .i64 x] 26) (.cells #[.int .i64 0, .int .i64 0, .slice none 0 0] 24)
  have HK := check_ok n hh v cs _ (Tab.next hT kk) (hS.below kk) hok
  have ⟨_, _, _, p3, _, p5⟩ := prod_in n hh ((gridErr_zero n hh cs).1 hok).1
  clear hT hS hok
  generalize hW0 : (((w.alloc (.cells #[.int .i64 (n : Int), .int .i64 (hh : Int), v] 24)).alloc (.cells #[.int .i64 f, .int .i64 bk, .int .i64 x] 26)).alloc (.cells #[.int .i64 0, .int .i64 0, .slice none 0 0] 24)) = W0 at x0 x1 x2 kk hsz HK
  have HW0 : Hid (_ = W0) := hW0
  have HK' : Hid (Calls Tryz.prog 111 #[.agg #[.int .i64 (n : Int), .int .i64 (hh : Int), v]] W0 fun e w' => e = .returned (.int .i64 0) ∧ Below W0.heap.size W0 w') := HK
  clear HK hW0
  have HH : Hid (holdsI n hh px py 1 1 = false) := hold
  clear hold
  go_enter Tryz.func158, Tryz.ntmps158
  go_wp2_with (first
    | (go_at_call 111; rw [HW0.out]; refine HK'.out.mono ?_; rintro e W1 ⟨rfl, b1⟩; have k1 := kk.trans (b1.mono kk.size); have y2 := carry x2 b1; have y1 := carry x1 b1; have y0 := carry x0 b1; have ⟨e0, e1, e2, _⟩ := cells3 y0)
    | (go_at_call 164; refine (holds_to n hh v px py 1 1 _ HH.out _ (by omega) (by omega) hx0 hx1 hy0 hy1).mono ?_; rintro e W2 ⟨rfl, b2⟩; have k2 := k1.trans (b2.mono k1.size); have z2 := carry y2 b2; have ⟨d0, d1, d2, _⟩ := cells3 (carry y1 b2))
    | (refine wpList_store_row rfl 24 (.tmp 10) _ rfl (w.heap.size + 2) #[.int .i64 0, .int .i64 0, .slice none 0 0] rfl rfl _ _ z2 (by kernel_rfl) rfl (one3v _ _ _ _ _) ?_))
  (try simp only [Exit.inBlock, Exit.then])
  refine bodyPost_ret (v := .tuple #[.agg #[.int .i64 0, .int .i64 0, .slice none 0 0], .int .i64 4]) ?_ rfl ⟨rfl, below_setRow k2 (by omega) _⟩
  exact results_row_tmp rfl _ _ (w.heap.size + 2) _ _ _ _ rfl (setRow_heap _ _ _ _ _ _ z2) Tryz.underlying24 rfl (by kernel_rfl) _ rfl
set_option maxHeartbeats 1000000 in
theorem write_bad3 (n hh : Nat) (v : Value) (cs : List C) (px py f bk x : Int) (s : ByteArray) (w : World) (hT : Txt.Tab w) (hS : SliceAt w v cs) (hok : gridErr n hh cs = 0) (hx0 : -9223372036854775808 ≤ px) (hx1 : px ≤ 9223372036854775807) (hy0 : -9223372036854775808 ≤ py) (hy1 : py ≤ 9223372036854775807) (hold : holdsI n hh px py 1 1 = true) (hs : isSt (f, bk, x) = false) :
    Calls Tryz.prog 158 #[.agg #[.int .i64 (n : Int), .int .i64 (hh : Int), v], .int .i64 px, .int .i64 py, .string s, .agg #[.int .i64 f, .int .i64 bk, .int .i64 x]] w fun e w' => e = .returned (.tuple #[.agg #[.int .i64 0, .int .i64 0, .slice none 0 0], .int .i64 4]) ∧ Below w.heap.size w w' := by
  obtain ⟨x0, x1, x2, kk, hsz⟩ := alloc3 w (.cells #[.int .i64 (n : Int), .int .i64 (hh : Int), v] 24) (.cells #[.int .i64 f, .int .i64 bk, .int .i64 x] 26) (.cells #[.int .i64 0, .int .i64 0, .slice none 0 0] 24)
  have HK := check_ok n hh v cs _ (Tab.next hT kk) (hS.below kk) hok
  have ⟨_, _, _, p3, _, p5⟩ := prod_in n hh ((gridErr_zero n hh cs).1 hok).1
  clear hT hS hok
  generalize hW0 : (((w.alloc (.cells #[.int .i64 (n : Int), .int .i64 (hh : Int), v] 24)).alloc (.cells #[.int .i64 f, .int .i64 bk, .int .i64 x] 26)).alloc (.cells #[.int .i64 0, .int .i64 0, .slice none 0 0] 24)) = W0 at x0 x1 x2 kk hsz HK
  have HW0 : Hid (_ = W0) := hW0
  have HK' : Hid (Calls Tryz.prog 111 #[.agg #[.int .i64 (n : Int), .int .i64 (hh : Int), v]] W0 fun e w' => e = .returned (.int .i64 0) ∧ Below W0.heap.size W0 w') := HK
  clear HK hW0
  have HH : Hid (holdsI n hh px py 1 1 = true) := hold
  have HS : Hid (isSt (f, bk, x) = false) := hs
  clear hold hs
  go_enter Tryz.func158, Tryz.ntmps158
  go_wp2_with (first
    | (go_at_call 111; rw [HW0.out]; refine HK'.out.mono ?_; rintro e W1 ⟨rfl, b1⟩; have k1 := kk.trans (b1.mono kk.size); have y2 := carry x2 b1; have y1 := carry x1 b1; have y0 := carry x0 b1; have ⟨e0, e1, e2, _⟩ := cells3 y0)
    | (go_at_call 164; refine (holds_to n hh v px py 1 1 _ HH.out _ (by omega) (by omega) hx0 hx1 hy0 hy1).mono ?_; rintro e W2 ⟨rfl, b2⟩; have k2 := k1.trans (b2.mono k1.size); have z2 := carry y2 b2; have ⟨d0, d1, d2, _⟩ := cells3 (carry y1 b2))
    | (go_at_call 114; refine (check_to f bk x _ HS.out _).mono ?_; rintro e W3 ⟨rfl, b3⟩; have k3 := k2.trans (b3.mono k2.size); have u2 := carry z2 b3)
    | (refine wpList_store_row rfl 24 (.tmp 10) _ rfl (w.heap.size + 2) #[.int .i64 0, .int .i64 0, .slice none 0 0] rfl rfl _ _ u2 (by kernel_rfl) rfl (one3v _ _ _ _ _) ?_))
  (try simp only [Exit.inBlock, Exit.then])
  refine bodyPost_ret (v := .tuple #[.agg #[.int .i64 0, .int .i64 0, .slice none 0 0], .int .i64 4]) ?_ rfl ⟨rfl, below_setRow k3 (by omega) _⟩
  exact results_row_tmp rfl _ _ (w.heap.size + 2) _ _ _ _ rfl (setRow_heap _ _ _ _ _ _ u2) Tryz.underlying24 rfl (by kernel_rfl) _ rfl
end Grd
end Go.Proofs.YtfdookpjhbjndaaGreatDoor

/- The walk of grid.Write: a right place and a right style. -/
namespace Go.Proofs.YtfdookpjhbjndaaGreatDoor
open Go.ChangeShapes Go.WideShapes Go.ChangeAt Go.RowKit
namespace Grd
open Txt (wd)
open Sty (isSt)
theorem cell4_size : (Tryz.prog.info? 69).map (·.size) = some 4 := by kernel_rfl
def writeF (X Y : Nat) (l : List (Int × Nat)) (look : Int × Int × Int) (y : Nat) (row : List C) : List C := if y = Y then mendL (writeR look l row X) else row
def writeG (n hh : Nat) (cs : List C) (X Y : Nat) (l : List (Int × Nat)) (look : Int × Int × Int) : List C := preF n cs (writeF X Y l look) hh
theorem writeF_len (n X Y : Nat) (l : List (Int × Nat)) (look : Int × Int × Int) : KeepLen n (writeF X Y l look) := fun y row h => by
  unfold writeF
  split
  · rw [mendL_len, writeR_len, h]
  · exact h
theorem writeR_stop (look : Int × Int × Int) (r : Int × Nat) (t : List (Int × Nat)) (row : List C) (x n : Nat) (hn : row.length = n) (h : (n : Int) - x < wd r.1) : writeR look (r :: t) row x = row := by
  unfold writeR; rw [hn, if_pos h]
theorem writeR_go (look : Int × Int × Int) (r : Int × Nat) (t : List (Int × Nat)) (row : List C) (x n : Nat) (hn : row.length = n) (h : ¬ (n : Int) - x < wd r.1) : writeR look (r :: t) row x = writeR look t (writeOne look row x r.1) (x + (wd r.1).toNat) := by
  rw [writeR, hn, if_neg h]
/-- A store of one cell, the world behind it a name. -/
theorem wpList_store_cell {ops : Array Oper} {rest : List Oper} {op : Oper} {a : Act} {w : World} {Q : Exit → Act → World → Prop} (hgd : op.guard = none) (x y : Operand) (ho : op.op = .store 69 x y)
    (g o : Nat) (c : C) (hx : a.eval x = .pointer (some ⟨g, o, none⟩)) (hy : a.eval y = .agg #[.int .i32 c.1, .int .i64 c.2.1, .int .i64 c.2.2.1, .int .i64 c.2.2.2]) (ht : w.there g o 4)
    (h : ∀ Z, Z = w.setCells g o (words c) → wpList Tryz.prog ops Q rest (a.put op.dst undef) Z) : wpList Tryz.prog ops Q (op :: rest) a w :=
  wpList_store_mid hgd 69 x y ho g o _ hx hy ht cell4_size (words_one c) (h _ rfl)
set_option maxHeartbeats 8000000 in
theorem write_good (n hh b o cx X Y : Nat) (cs : List C) (f bk x : Int) (s : ByteArray) (w : World) (hT : Txt.Tab w) (hC : CellsAt w b o cs) (hok : gridErr n hh cs = 0) (hc : cs.length ≤ cx) (hm : cx ≤ 9223372036854775807) (hX : X < n) (hY : Y < hh) (hs : isSt (f, bk, x) = true) :
    Calls Tryz.prog 158 #[.agg #[.int .i64 (n : Int), .int .i64 (hh : Int), .slice (some ⟨b, o, none⟩) cs.length cx], .int .i64 (X : Int), .int .i64 (Y : Int), .string s, .agg #[.int .i64 f, .int .i64 bk, .int .i64 x]] w fun e w' => ∃ v, e = .returned (.tuple #[.agg #[.int .i64 (n : Int), .int .i64 (hh : Int), v], .int .i64 0]) ∧ OwnG w' w.heap.size v (writeG n hh cs X Y (Txt.runes s) (f, bk, x)) ∧ Below w.heap.size w w' := by
  obtain ⟨hsize, hL, hrows⟩ := (gridErr_zero n hh cs).1 hok
  have ⟨p0, p1, p2, p3, p4, p5⟩ := prod_in n hh hsize
  have hne : cs ≠ [] := by
    intro h
    rw [h, List.length_nil] at hL
    have : 0 < n * hh := Nat.mul_pos (by omega) (by omega)
    omega
  have hl2 : cs.length ≤ 7200 := by
    have : ((n * hh : Nat) : Int) ≤ 7200 := by rw [Int.natCast_mul]; exact p1
    omega
  have hS : SliceAt w (.slice (some ⟨b, o, none⟩) cs.length cx) cs := .inr ⟨hne, b, o, cx, rfl, hc, hm, hC⟩
  obtain ⟨x0, x1, x2, kk, hsz⟩ := alloc3 w (.cells #[.int .i64 (n : Int), .int .i64 (hh : Int), .slice (some ⟨b, o, none⟩) cs.length cx] 24) (.cells #[.int .i64 f, .int .i64 bk, .int .i64 x] 26) (.cells #[.int .i64 0, .int .i64 0, .slice none 0 0] 24)
  have HK := check_ok n hh _ cs _ (Tab.next hT kk) (hS.below kk) hok
  have HT : Hid (∀ W, Below w.heap.size w W → Txt.Tab W) := fun W k => Tab.next hT k
  have HTP : Hid (0 < w.heap.size) := hT.pos
  have HC : Hid (CellsAt w b o cs) := hC
  have HL : Hid (cs.length = n * hh) := hL
  have HMW : Hid (Alike (writeR (f, bk, x) (Txt.runes s) (rowAt n cs Y) X)) := (meant_write (f, bk, x) hs (Txt.runes s) _ X (hrows Y hY).1).alike
  have HH : Hid (holdsI n hh X Y 1 1 = true) := by unfold Hid holdsI; rw [decide_eq_true_eq]; omega
  clear hT hS hok hC hne hrows hL p0 p1 hsize
  generalize hW0 : (((w.alloc (.cells #[.int .i64 (n : Int), .int .i64 (hh : Int), .slice (some ⟨b, o, none⟩) cs.length cx] 24)).alloc (.cells #[.int .i64 f, .int .i64 bk, .int .i64 x] 26)).alloc (.cells #[.int .i64 0, .int .i64 0, .slice none 0 0] 24)) = W0 at x0 x1 x2 kk hsz HK
  have HW0 : Hid (_ = W0) := hW0
  have HK' : Hid (Calls Tryz.prog 111 #[.agg #[.int .i64 (n : Int), .int .i64 (hh : Int), .slice (some ⟨b, o, none⟩) cs.length cx]] W0 fun e w' => e = .returned (.int .i64 0) ∧ Below W0.heap.size W0 w') := HK
  have HS : Hid (isSt (f, bk, x) = true) := hs
  clear HK hW0 hs
  go_enter Tryz.func158, Tryz.ntmps158
  go_wp2_with (first
    | (go_at_call 111; rw [HW0.out]; refine HK'.out.mono ?_; rintro e W1 ⟨rfl, b1⟩; have k1 := kk.trans (b1.mono kk.size); have y2 := carry x2 b1; have y1 := carry x1 b1; have y0 := carry x0 b1; have ⟨e0, e1, e2, _⟩ := cells3 y0)
    | (go_at_call 164; refine (holds_to n hh _ X Y 1 1 _ HH.out _ (by omega) (by omega) (by omega) (by omega) (by omega) (by omega)).mono ?_; rintro e W2 ⟨rfl, b2⟩; have k2 := k1.trans (b2.mono k1.size); have z2 := carry y2 b2; have z1 := carry y1 b2; have z0 := carry y0 b2; have ⟨d0, d1, d2, _⟩ := cells3 z1)
    | (go_at_call 114; refine (check_to f bk x _ HS.out _).mono ?_; rintro e W3 ⟨rfl, b3⟩; have k3 := k2.trans (b3.mono k2.size); have u2 := carry z2 b3; have u1 := carry z1 b3; have u0 := carry z0 b3; have ⟨g0, g1, g2, _⟩ := cells3 u0)
    | (go_at_call 118; refine (copyOf_any n hh b o cx cs _ (HC.out.below k3) (by omega)).mono ?_; rintro e W4 ⟨v4, rfl, ⟨g, cap, rest, t, rfl, hgb, hlc, hcm, hgh⟩, b4⟩; have hW4 := heap_alloc_new W4 (.cells #[.int .i64 0, .int .i64 0, .slice none 0 0] 24))
    | (refine wpList_store_row rfl 24 (.tmp 13) _ rfl W4.heap.size #[.int .i64 (n : Int), .int .i64 (hh : Int), .slice (some ⟨g, 0, none⟩) cs.length cap] rfl rfl _ _ hW4 (by kernel_rfl) rfl (one3v _ _ _ _ _) ?_; have qM0 := setRow_heap _ _ _ #[.int .i64 (n : Int), .int .i64 (hh : Int), .slice (some ⟨g, 0, none⟩) cs.length cap] _ _ hW4)
    | (refine wpList_load_row rfl 24 _ rfl W4.heap.size rfl _ _ _ _ qM0 Tryz.underlying24 rfl (by kernel_rfl) ?_)
    | (go_at_call 121; refine (rowOf_any g 0 cs.length cap n Y hh _ (by omega) (row_fits n hh _ Y HL.out hY) hlc hcm).mono ?_; rintro e W5 ⟨rfl, b5⟩))
  have hsz1 := b1.size
  have hsz2 := b2.size
  have hsz3 := b3.size
  have hsz4 := b4.size
  have hg4 : g < W4.heap.size := blk_lt hgh
  have hX' : ∀ k o', W4.heap[k]? = some o' → W5.heap[k]? = some o' := fun k o' hk => carry (by
    have := blk_lt hk
    rw [setRow_other _ _ _ _ (by omega), Below.heap_alloc _ _ _ this, hk]) b5
  have q1 := hX' _ _ (carry u1 b4)
  have q3 := hX' _ _ (carry u2 b4)
  have qg := hX' _ _ hgh
  have qM := carry qM0 b5
  have k4 := k3.trans (b4.mono k3.size)
  have kY : Below w.heap.size w W5 := (below_setRow (k4.alloc k4.size (.cells #[.int .i64 0, .int .i64 0, .slice none 0 0] 24)) k4.size #[.int .i64 (n : Int), .int .i64 (hh : Int), .slice (some ⟨g, 0, none⟩) cs.length cap]).trans (b5.mono (by simp; omega))
  have hgN : w.heap.size + 3 ≤ g := by omega
  have hMW : W4.heap.size < W5.heap.size := blk_lt qM
  generalize hM : W4.heap.size = M at *
  clear hX' qM0 hW4 hgh u0 u1 u2 g0 g1 g2 b4 b3 z0 z1 z2 d0 d1 d2 b2 y0 y1 y2 e0 e1 e2 b1 x0 x1 x2 HW0 HK' k1 k2 k3 k4 kk hsz hsz1 hsz2 hsz3 hsz4 hgb b5 hM HS HH
  generalize W5 = Y0 at *
  have HGL : Hid ((writeG n hh cs X Y (Txt.runes s) (f, bk, x)).length = cs.length) := by
    unfold Hid writeG
    rw [preF_len n hh cs _ HL.out (writeF_len n X Y _ _) hh (Nat.le_refl _), HL.out, Nat.mul_comm]
  have hst0 := upto_start n hh cs (writeF X Y (Txt.runes s) (f, bk, x)) Y (fun y hy => by unfold writeF; rw [if_neg (by omega)])
  rw [upto_at n hh cs _ Y hY] at hst0
  have hen0 := upto_end n hh cs (writeF X Y (Txt.runes s) (f, bk, x)) HL.out (Y + 1) (fun y hy => by unfold writeF; rw [if_neg (by omega)])
  rw [upto_next n hh cs _ Y hY] at hen0
  have hpl : (flat (preF n cs (writeF X Y (Txt.runes s) (f, bk, x)) Y)).length = Y * n * 4 := by rw [flat_len, preF_len n hh cs _ HL.out (writeF_len n X Y _ _) Y (by omega)]
  have hqg : flat cs ++ rest = flat (preF n cs (writeF X Y (Txt.runes s) (f, bk, x)) Y) ++ (flat (rowAt n cs Y) ++ (flat (cs.drop ((Y + 1) * n)) ++ rest)) := by
    rw [← flat_three, hst0]
  have HGE : Hid (flat (preF n cs (writeF X Y (Txt.runes s) (f, bk, x)) Y) ++ (flat (mendL (writeR (f, bk, x) (Txt.runes s) (rowAt n cs Y) X)) ++ (flat (cs.drop ((Y + 1) * n)) ++ rest)) = flat (writeG n hh cs X Y (Txt.runes s) (f, bk, x)) ++ rest) := by
    unfold Hid writeG
    rw [← hen0, flat_three]
    unfold writeF
    rw [if_pos rfl]
  have hrl := row_len n hh cs Y HL.out hY
  rw [hqg] at qg
  clear hqg hst0 hen0
  generalize flat (preF n cs (writeF X Y (Txt.runes s) (f, bk, x)) Y) = pre at *
  generalize flat (cs.drop ((Y + 1) * n)) ++ rest = post at *
  generalize rowAt n cs Y = row0 at *
  generalize Y * n * 4 = off at *
  have HPL : Hid (pre.length = off) := hpl
  have HRL : Hid (row0.length = n) := hrl
  clear hpl hrl
  go_loopw [1] (fun a wr => ∃ (pos fu xx : Nat) (row : List C), wr.heap[Y0.heap.size]? = some (.stringIter s pos) ∧ Apart g [g] Y0 wr ∧ a = .int .i64 (xx : Int) ∧ xx ≤ n ∧ row.length = n ∧ wr.heap[g]? = some (.cells (pre ++ (flat row ++ post)).toArray t (0, 0)) ∧ writeR (f, bk, x) (Txt.rs s fu pos) row xx = writeR (f, bk, x) (Txt.runes s) row0 X ∧ s.size ≤ pos + fu ∧ pos ≤ s.size) (fun _ wr => s.size - wr.iterPos Y0.heap.size)
  case atStart =>
    refine ⟨0, s.size, X, row0, World.iter_heap Y0 s 0, ⟨(Below.refl _ Y0).alloc (by omega) _, fun k _ hk => Below.heap_alloc _ _ _ hk⟩, rfl, by omega, HRL.out, ?_, rfl, by omega, by omega⟩
    exact (Below.heap_alloc _ _ _ (by omega)).trans qg
  case round =>
    obtain ⟨pos, fu, xx, row, hit, hap, rfl, hxn, hrn, hv, heq, hfu, hps⟩ := hrel
    clear qg
    have HEQ : Hid (writeR (f, bk, x) (Txt.rs s fu pos) row xx = writeR (f, bk, x) (Txt.runes s) row0 X) := heq
    have HRN : Hid (row.length = n) := hrn
    clear heq hrn
    by_cases hp : pos < s.size
    · have hnx : ∀ ty, (Instr.next (.pointer (some ⟨Y0.heap.size, 0, none⟩)) true ty).run Tryz.prog wr = _ := fun ty => Lib.run_next_any_at wr Y0.heap.size s pos ty hit hp
      have hwd := Txt.width_pos s pos hp
      have hfit := Txt.decode_fits s pos hp
      obtain ⟨fu, rfl⟩ : ∃ q, fu = q + 1 := ⟨fu - 1, by omega⟩
      have HR : Hid (Txt.rs s (fu + 1) pos = (((Utf8.decode s pos).1 : Int), (Utf8.decode s pos).2) :: Txt.rs s fu (pos + (Utf8.decode s pos).2)) := Txt.rs_step s fu pos hp
      have hwr := Txt.wd_range (Utf8.decode s pos).1
      have hit2 := Lib.iterAt_heap wr Y0.heap.size s pos (pos + (Utf8.decode s pos).2) hit
      have ap2 := hap.iterNew Y0.heap.size s (pos + (Utf8.decode s pos).2) (Nat.le_refl _) (by omega)
      have hv2 := (Lib.iterAt_other wr Y0.heap.size g s (pos + (Utf8.decode s pos).2) (by omega)).trans hv
      have kI2 := kY.trans (ap2.1.mono (show w.heap.size ≤ g by omega))
      have HI : Hid (wr.iterPos Y0.heap.size = pos) := by simp only [Hid, World.iterPos, hit]
      clear hit hap hv
      generalize Utf8.decode s pos = d at *
      by_cases hbr : (n : Int) - xx < wd d.1
      · have HST : Hid (row = writeR (f, bk, x) (Txt.runes s) row0 X) := by
          unfold Hid
          rw [← HEQ.out, HR.out, writeR_stop (f, bk, x) _ _ row xx n HRN.out hbr]
        obtain ⟨wv, hwv⟩ : ∃ q, wd d.1 = q := ⟨_, rfl⟩
        have HW : Hid (wd d.1 = wv) := hwv
        rw [hwv] at hbr hwr
        clear hwv HEQ HR
        go_wp2_with (first
          | (go_at_call 115; refine (width_to d.1 _ (HT.out _ kI2) _ HW.out).mono ?_; rintro e W1 ⟨rfl, b1⟩; have apW := ap2.step b1 (by have := blk_lt hv2; omega); have hvW := carry hv2 b1
             have KM := mend_any g (cap - Y * n) row pre post t W1 hvW (by rw [HRN.out]; omega) (HT.out _ (kY.trans (apW.1.mono (by omega)))) (by have := HTP.out; omega) (by rw [HST.out]; exact HMW.out)
             rw [HRN.out, HPL.out] at KM)
          | (go_at_call 122; refine KM.mono ?_; rintro e W6 ⟨rfl, hv6, ap6⟩; have ap7 := apW.trans ap6; have v3 := ap7.carry q3 (by simp; omega); have vM := ap7.carry qM (by simp; omega); have kW := kY.trans (ap7.1.mono (show w.heap.size ≤ g by omega)))
          | (refine wpList_load_row rfl 24 _ rfl M rfl _ _ _ _ vM Tryz.underlying24 rfl (by kernel_rfl) ?_)
          | (refine wpList_store_row rfl 24 (.tmp 10) _ rfl (w.heap.size + 2) #[.int .i64 (n : Int), .int .i64 (hh : Int), .slice (some ⟨g, 0, none⟩) cs.length cap] rfl rfl _ _ v3 (by kernel_rfl) rfl (one3v _ _ _ _ _) ?_))
        (try simp only [Exit.inBlock, Exit.then])
        refine bodyPost_ret (v := .tuple #[.agg #[.int .i64 (n : Int), .int .i64 (hh : Int), .slice (some ⟨g, 0, none⟩) cs.length cap], .int .i64 0]) ?_ rfl ⟨_, rfl, ?_, below_setRow kW (by omega) _⟩
        · exact results_row_tmp rfl _ _ (w.heap.size + 2) _ _ _ _ rfl (setRow_heap _ _ _ _ _ _ v3) Tryz.underlying24 rfl (by kernel_rfl) _ rfl
        · refine ⟨g, cap, rest, t, by rw [HGL.out], by omega, by rw [HGL.out]; exact hlc, hcm, ?_⟩
          rw [setRow_other _ _ _ _ (by omega), hv6, HST.out, HGE.out]
      · have HGO : Hid (writeR (f, bk, x) (Txt.rs s fu (pos + d.2)) (writeOne (f, bk, x) row xx d.1) (xx + (wd d.1).toNat) = writeR (f, bk, x) (Txt.runes s) row0 X) := by
          unfold Hid
          rw [← HEQ.out, HR.out, writeR_go (f, bk, x) _ _ row xx n HRN.out hbr]
        clear HEQ HR
        rcases (show wd d.1 = 0 ∨ wd d.1 = 1 ∨ wd d.1 = 2 by omega) with h0 | h0 | h0
        · have HG2 : Hid (writeR (f, bk, x) (Txt.rs s fu (pos + d.2)) row xx = writeR (f, bk, x) (Txt.runes s) row0 X) := by
            have := HGO.out
            unfold writeOne at this
            rw [if_pos h0, h0] at this
            exact this
          have HW : Hid (wd d.1 = 0) := h0
          have nb : ¬ (n : Int) - xx < 0 := by omega
          clear h0 hwr hbr HGO
          go_wp2_with (go_at_call 115; refine (width_to d.1 _ (HT.out _ kI2) _ HW.out).mono ?_; rintro e W1 ⟨rfl, b1⟩; have apW := ap2.step b1 (by have := blk_lt hv2; omega); have hvW := carry hv2 b1; have hitW := carry hit2 b1; have ⟨s0, s1, s2, _⟩ := cells3 (apW.carry q1 (by simp; omega)))
          go_roundw
          case rel => exact ⟨pos + d.2, fu, xx, row, hitW, apW, by first | rfl | simp, hxn, HRN.out, hvW, HG2.out, by omega, by omega⟩
          case measure =>
            rw [HI.out]
            simp only [World.iterPos, hitW]
            omega
        · have HG2 : Hid (writeR (f, bk, x) (Txt.rs s fu (pos + d.2)) (row.set xx (d.1, f, bk, x)) (xx + 1) = writeR (f, bk, x) (Txt.runes s) row0 X) := by
            have := HGO.out
            unfold writeOne at this
            rw [if_neg (by omega), if_neg (by omega), h0] at this
            exact this
          have HW : Hid (wd d.1 = 1) := h0
          have nb : ¬ (n : Int) - xx < 1 := by omega
          have hxl : xx < n := by omega
          clear h0 hwr hbr HGO
          go_wp2_with (first
            | (go_at_call 115; refine (width_to d.1 _ (HT.out _ kI2) _ HW.out).mono ?_; rintro e W1 ⟨rfl, b1⟩; have apW := ap2.step b1 (by have := blk_lt hv2; omega); have hvW := carry hv2 b1; have hitW := carry hit2 b1; have ⟨s0, s1, s2, _⟩ := cells3 (apW.carry q1 (by simp; omega)))
            | (refine wpList_store_cell rfl (.tmp 61) (.tmp 60) rfl g (off + xx * 4) (d.1, f, bk, x) rfl rfl (by have := there_cell hvW xx (by rw [HRN.out]; exact hxl); rwa [HPL.out] at this) ?_
               intro Z hZ
               have hvZ := store_cell hvW xx (by rw [HRN.out]; exact hxl) (d.1, f, bk, x)
               have apZ := apW.setCells g (pre.length + xx * 4) (words (d.1, f, bk, x)) (by simp) (Nat.le_refl _)
               have hitZ := (heap_setCells_ne g Y0.heap.size (by omega) (words (d.1, f, bk, x)) (pre.length + xx * 4) W1).trans hitW
               rw [HPL.out, ← hZ] at hvZ apZ hitZ
               clear hZ))
          go_roundw
          case rel => exact ⟨pos + d.2, fu, xx + 1, row.set xx (d.1, f, bk, x), hitZ, apZ, by first | rfl | simp, by omega, by rw [List.length_set, HRN.out], hvZ, HG2.out, by omega, by omega⟩
          case measure =>
            rw [HI.out]
            simp only [World.iterPos, hitZ]
            omega
        · have HG2 : Hid (writeR (f, bk, x) (Txt.rs s fu (pos + d.2)) ((row.set xx (d.1, f, bk, x)).set (xx + 1) (0, f, bk, x)) (xx + 2) = writeR (f, bk, x) (Txt.runes s) row0 X) := by
            have := HGO.out
            unfold writeOne at this
            rw [if_neg (by omega), if_pos h0, h0] at this
            exact this
          have HW : Hid (wd d.1 = 2) := h0
          have nb : ¬ (n : Int) - xx < 2 := by omega
          have hxl : xx + 1 < n := by omega
          clear h0 hwr hbr HGO
          go_wp2_with (first
            | (go_at_call 115; refine (width_to d.1 _ (HT.out _ kI2) _ HW.out).mono ?_; rintro e W1 ⟨rfl, b1⟩; have apW := ap2.step b1 (by have := blk_lt hv2; omega); have hvW := carry hv2 b1; have hitW := carry hit2 b1; have ⟨s0, s1, s2, _⟩ := cells3 (apW.carry q1 (by simp; omega)))
            | (refine wpList_store_cell rfl (.tmp 61) (.tmp 60) rfl g (off + xx * 4) (d.1, f, bk, x) rfl rfl (by have := there_cell hvW xx (by rw [HRN.out]; omega); rwa [HPL.out] at this) ?_
               intro Z hZ
               have hvZ := store_cell hvW xx (by rw [HRN.out]; omega) (d.1, f, bk, x)
               have apZ := apW.setCells g (pre.length + xx * 4) (words (d.1, f, bk, x)) (by simp) (Nat.le_refl _)
               have hitZ := (heap_setCells_ne g Y0.heap.size (by omega) (words (d.1, f, bk, x)) (pre.length + xx * 4) W1).trans hitW
               rw [HPL.out, ← hZ] at hvZ apZ hitZ
               have ⟨t0, t1, t2, _⟩ := cells3 (apZ.carry q1 (by simp; omega))
               clear hZ)
            | (refine wpList_store_cell rfl (.tmp 69) (.tmp 68) rfl g (off + (xx + 1) * 4) (0, f, bk, x) rfl rfl (by have := there_cell hvZ (xx + 1) (by rw [List.length_set, HRN.out]; exact hxl); rwa [HPL.out] at this) ?_
               intro Z2 hZ
               have hvY := store_cell hvZ (xx + 1) (by rw [List.length_set, HRN.out]; exact hxl) (0, f, bk, x)
               have apY := apZ.setCells g (pre.length + (xx + 1) * 4) (words (0, f, bk, x)) (by simp) (Nat.le_refl _)
               have hitY := (heap_setCells_ne g Y0.heap.size (by omega) (words (0, f, bk, x)) (pre.length + (xx + 1) * 4) Z).trans hitZ
               rw [HPL.out, ← hZ] at hvY apY hitY
               clear hZ))
          go_roundw
          case rel => exact ⟨pos + d.2, fu, xx + 2, (row.set xx (d.1, f, bk, x)).set (xx + 1) (0, f, bk, x), hitY, apY, by first | rfl | simp, by omega, by rw [List.length_set, List.length_set, HRN.out], hvY, HG2.out, by omega, by omega⟩
          case measure =>
            rw [HI.out]
            simp only [World.iterPos, hitY]
            omega
    · have hnx : ∀ ty, (Instr.next (.pointer (some ⟨Y0.heap.size, 0, none⟩)) true ty).run Tryz.prog wr = _ := fun ty => Lib.run_next_end_at wr Y0.heap.size s pos ty hit hp
      have HST : Hid (row = writeR (f, bk, x) (Txt.runes s) row0 X) := by
        have := HEQ.out
        rw [Txt.rs_end s fu pos hp] at this
        exact this
      have KM := mend_any g (cap - Y * n) row pre post t wr hv (by rw [HRN.out]; omega) (HT.out _ (kY.trans (hap.1.mono (by omega)))) (by have := HTP.out; omega) (by rw [HST.out]; exact HMW.out)
      rw [HRN.out, HPL.out] at KM
      go_wp2_with (first
        | (go_at_call 122; refine KM.mono ?_; rintro e W6 ⟨rfl, hv6, ap6⟩; have ap7 := hap.trans ap6; have v3 := ap7.carry q3 (by simp; omega); have vM := ap7.carry qM (by simp; omega); have kW := kY.trans (ap7.1.mono (show w.heap.size ≤ g by omega)))
        | (refine wpList_load_row rfl 24 _ rfl M rfl _ _ _ _ vM Tryz.underlying24 rfl (by kernel_rfl) ?_)
        | (refine wpList_store_row rfl 24 (.tmp 10) _ rfl (w.heap.size + 2) #[.int .i64 (n : Int), .int .i64 (hh : Int), .slice (some ⟨g, 0, none⟩) cs.length cap] rfl rfl _ _ v3 (by kernel_rfl) rfl (one3v _ _ _ _ _) ?_))
      (try simp only [Exit.inBlock, Exit.then])
      refine bodyPost_ret (v := .tuple #[.agg #[.int .i64 (n : Int), .int .i64 (hh : Int), .slice (some ⟨g, 0, none⟩) cs.length cap], .int .i64 0]) ?_ rfl ⟨_, rfl, ?_, below_setRow kW (by omega) _⟩
      · exact results_row_tmp rfl _ _ (w.heap.size + 2) _ _ _ _ rfl (setRow_heap _ _ _ _ _ _ v3) Tryz.underlying24 rfl (by kernel_rfl) _ rfl
      · refine ⟨g, cap, rest, t, by rw [HGL.out], by omega, by rw [HGL.out]; exact hlc, hcm, ?_⟩
        rw [setRow_other _ _ _ _ (by omega), hv6, HST.out, HGE.out]
end Grd
end Go.Proofs.YtfdookpjhbjndaaGreatDoor
