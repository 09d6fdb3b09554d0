/- The walks of layOnNew, Part and Resize. -/
import Derived.Test.YtinhmklpnkikgabDoorGridLay
import Derived.Test.YtinhmklpnkikgabDoorGridHolds
namespace Go.Proofs.YtinhmklpnkikgabDoor
open Go.ChangeShapes Go.WideShapes Go.ChangeAt Go.RowKit
namespace Grd
def newL (n hh : Nat) : List C := List.replicate (n * hh) blank
theorem newL_len (n hh : Nat) : (newL n hh).length = n * hh := by simp [newL]
theorem layG_len (n hh m p : Nat) (cs fs : List C) (X Y : Int) (hL : cs.length = n * hh) : (layG n hh cs m p fs X Y).length = n * hh := by
  unfold layG
  rw [preF_len n hh cs _ hL (layFn_len n m p fs _ _) hh (Nat.le_refl _), Nat.mul_comm]
set_option maxHeartbeats 1000000 in
theorem lon_bad (a h pw ph X Y : Int) (v : Value) (w : World) (hs : isSize pw ph = false) :
    Calls Tryd.prog 28 #[.agg #[.int .i64 a, .int .i64 h, v], .int .i64 pw, .int .i64 ph, .int .i64 X, .int .i64 Y] w fun e w' => e = .returned (.tuple #[.agg #[.int .i64 0, .int .i64 0, .slice none 0 0], .int .i64 3]) ∧ Below w.heap.size w w' := by
  obtain ⟨x0, x1, kk, hsz⟩ := alloc2' w (.cells #[.int .i64 a, .int .i64 h, v] 24) (.cells #[.int .i64 0, .int .i64 0, .slice none 0 0] 24)
  go_enter Tryd.func28, Tryd.ntmps28
  go_wp2_with fail
  refine (new_bad pw ph _ hs).mono ?_
  rintro e W1 ⟨rfl, b1⟩
  have y1 := carry x1 b1
  have k1 := kk.trans (b1.mono kk.size)
  go_wp2_with (first
    | (refine wpList_store_row rfl 24 (.tmp 12) _ rfl W1.heap.size #[.int .i64 0, .int .i64 0, .slice none 0 0] rfl rfl _ _ (heap_alloc_new W1 _) (by kernel_rfl) rfl (one3v _ _ _ _ _) ?_
       obtain ⟨mX, aX⟩ := var_newL W1 24 #[.int .i64 0, .int .i64 0, .slice none 0 0] #[.int .i64 0, .int .i64 0, .slice none 0 0]
       generalize ((W1.alloc (.cells #[.int .i64 0, .int .i64 0, .slice none 0 0] 24)).setRow W1.heap.size #[.int .i64 0, .int .i64 0, .slice none 0 0]) = X1 at *
       have kX := k1.trans (aX.mono k1.size)
       have v1 := carry y1 aX)
    | (refine wpList_load_row rfl 24 (.tmp 12) rfl W1.heap.size rfl _ _ _ _ mX Tryd.underlying24 rfl (by kernel_rfl) ?_)
    | (refine wpList_store_row rfl 24 (.tmp 10) _ rfl (w.heap.size + 1) #[.int .i64 0, .int .i64 0, .slice none 0 0] rfl rfl _ _ v1 (by kernel_rfl) rfl (one3v _ _ _ _ _) ?_))
  (try simp only [Exit.inBlock, Exit.then])
  refine bodyPost_ret (v := .tuple #[.agg #[.int .i64 0, .int .i64 0, .slice none 0 0], .int .i64 3]) ?_ rfl ⟨rfl, below_setRow kX (by omega) _⟩
  exact results_row_tmp rfl _ _ (w.heap.size + 1) _ _ _ _ rfl (setRow_heap _ _ _ _ _ _ v1) Tryd.underlying24 rfl (by kernel_rfl) _ rfl
set_option maxHeartbeats 4000000 in
theorem lon_good (m p b o cx n hh : Nat) (X Y : Int) (fs : List C) (w : World) (hT : Txt.Tab w) (hC : CellsAt w b o fs) (hok : gridErr m p fs = 0) (hl : fs.length ≤ cx) (hm : cx ≤ 9223372036854775807) (hs : isSize n hh = true) (hX : -1000 ≤ X) (hX' : X ≤ 1000) (hY : -1000 ≤ Y) (hY' : Y ≤ 1000) :
    Calls Tryd.prog 28 #[.agg #[.int .i64 (m : Int), .int .i64 (p : Int), .slice (some ⟨b, o, none⟩) fs.length cx], .int .i64 (n : Int), .int .i64 (hh : Int), .int .i64 X, .int .i64 Y] w fun e w' => ∃ v, e = .returned (.tuple #[.agg #[.int .i64 (n : Int), .int .i64 (hh : Int), v], .int .i64 0]) ∧ OwnG w' w.heap.size v (layG n hh (newL n hh) m p fs X Y) ∧ Below w.heap.size w w' := by
  obtain ⟨hL1, q1, q2, q3, q4, q5, hne1⟩ := okRange m p fs hok
  have ⟨_, _, p2, p3, p4, p5⟩ := prod_in n hh hs
  have hb1 := slice_block hC hne1
  obtain ⟨x0, x1, kk, hsz⟩ := alloc2' w (.cells #[.int .i64 (m : Int), .int .i64 (p : Int), .slice (some ⟨b, o, none⟩) fs.length cx] 24) (.cells #[.int .i64 0, .int .i64 0, .slice none 0 0] 24)
  have HT : Hid (∀ W, Below w.heap.size w W → Txt.Tab W) := fun W k => Tab.next hT k
  have HTP : Hid (0 < w.heap.size) := hT.pos
  have HC : Hid (CellsAt w b o fs) := hC
  have HL1 : Hid (fs.length = m * p) := hL1
  have HN : Hid (∀ W, Calls Tryd.prog 14 #[.int .i64 (n : Int), .int .i64 (hh : Int)] W fun e w' => ∃ v, e = .returned (.tuple #[.agg #[.int .i64 (n : Int), .int .i64 (hh : Int), v], .int .i64 0]) ∧ OwnG w' W.heap.size v (newL n hh) ∧ Below W.heap.size W w') := fun W => by
    have := new_good n hh W hs
    have e : ((n : Int) * (hh : Int)).toNat = n * hh := by rw [← Int.natCast_mul, Int.toNat_natCast]
    rw [e] at this
    exact this
  have HMC : Hid (∀ y, y < hh → Meant (rowAt n (newL n hh) y)) := fun y hy => by unfold newL; rw [rowAt_replicate n hh y _ hy]; exact (replicate_right n).1
  have HRF : Hid (∀ y, y < p → RightRow (rowAt m fs y)) := ((gridErr_zero m p fs).1 hok).2.2
  have HGL : Hid ((layG n hh (newL n hh) m p fs X Y).length = (newL n hh).length) := by unfold Hid; rw [layG_len n hh m p _ fs X Y (newL_len n hh), newL_len]
  clear hT hC hok hL1 hne1 hs
  go_enter Tryd.func28, Tryd.ntmps28
  go_wp2_with fail
  refine (HN.out _).mono ?_
  rintro e W4 ⟨_, rfl, ⟨g, cap, rest, t, rfl, hgb, hlc, hcm, hgh⟩, b4⟩
  have u0 := carry x0 b4
  have u1 := carry x1 b4
  have k4 := kk.trans (b4.mono kk.size)
  have hgN : w.heap.size + 2 ≤ g := by rw [← hsz]; exact hgb
  have hgM : g < W4.heap.size := blk_lt hgh
  have hNL := newL_len n hh
  have HNL : Hid ((newL n hh).length = n * hh) := hNL
  generalize hnl : newL n hh = nl at *
  clear hNL hgb
  go_wp2_with (refine wpList_store_row rfl 24 (.tmp 12) _ rfl W4.heap.size #[.int .i64 (n : Int), .int .i64 (hh : Int), .slice (some ⟨g, 0, none⟩) nl.length cap] rfl rfl _ _ (heap_alloc_new W4 _) (by kernel_rfl) rfl (one3v _ _ _ _ _) ?_
               obtain ⟨mX, aX⟩ := var_newL W4 24 #[.int .i64 0, .int .i64 0, .slice none 0 0] #[.int .i64 (n : Int), .int .i64 (hh : Int), .slice (some ⟨g, 0, none⟩) nl.length cap]
               generalize ((W4.alloc (.cells #[.int .i64 0, .int .i64 0, .slice none 0 0] 24)).setRow W4.heap.size #[.int .i64 (n : Int), .int .i64 (hh : Int), .slice (some ⟨g, 0, none⟩) nl.length cap]) = X1 at *
               have kX := k4.trans (aX.mono k4.size)
               have v0 := carry u0 aX
               have v1 := carry u1 aX
               have vg := carry hgh aX
               obtain ⟨c0, c1, c2, _⟩ := cells3 mX
               obtain ⟨d0, d1, d2, _⟩ := cells3 v0)
  generalize hM : W4.heap.size = M at *
  refine (overwrite_any n hh g cap nl rest t m p b o cx fs X Y X1 (HT.out _ kX) (by have := HTP.out; omega) vg HNL.out (by omega) (by omega) (by omega) hlc hcm (HC.out.below kX) (by omega) HL1.out q1 q2 q4 hl hm hX hX' hY hY' HMC.out HRF.out).mono ?_
  rintro e W5 ⟨rfl, hv5, ap5⟩
  have w2 := ap5.carry (k := w.heap.size + 1) v1 (by simp; omega)
  have wM := ap5.carry (k := M) mX (by simp; omega)
  have kW : Below w.heap.size w W5 := kX.trans (ap5.1.mono (by omega))
  clear c0 c1 c2 d0 d1 d2
  go_wp2_with (first
    | (refine wpList_load_row rfl 24 (.tmp 12) rfl M rfl _ _ _ _ wM Tryd.underlying24 rfl (by kernel_rfl) ?_)
    | (refine wpList_store_row rfl 24 (.tmp 10) _ rfl (w.heap.size + 1) #[.int .i64 (n : Int), .int .i64 (hh : Int), .slice (some ⟨g, 0, none⟩) nl.length cap] rfl rfl _ _ w2 (by kernel_rfl) rfl (one3v _ _ _ _ _) ?_))
  (try simp only [Exit.inBlock, Exit.then])
  refine bodyPost_ret (v := .tuple #[.agg #[.int .i64 (n : Int), .int .i64 (hh : Int), .slice (some ⟨g, 0, none⟩) nl.length cap], .int .i64 0]) ?_ rfl ⟨_, rfl, ⟨g, cap, rest, t, ?_, by omega, ?_, hcm, ?_⟩, below_setRow kW (by omega) _⟩
  · exact results_row_tmp rfl _ _ (w.heap.size + 1) _ _ _ _ rfl (setRow_heap _ _ _ _ _ _ w2) Tryd.underlying24 rfl (by kernel_rfl) _ rfl
  · rw [hnl, HGL.out]
  · rw [hnl, HGL.out]; exact hlc
  · rw [setRow_other _ _ _ _ (by omega), hnl]
    exact hv5
set_option maxHeartbeats 1000000 in
theorem part_bad1 (a h : Int) (v : Value) (cs : List C) (rx ry rw rh : Int) (w : World) (hT : Txt.Tab w) (hS : SliceAt w v cs) (hok : gridErr a h cs ≠ 0) :
    Calls Tryd.prog 11 #[.agg #[.int .i64 a, .int .i64 h, v], .agg #[.int .i64 rx, .int .i64 ry, .int .i64 rw, .int .i64 rh]] w fun e w' => e = .returned (.tuple #[.agg #[.int .i64 0, .int .i64 0, .slice none 0 0], .int .i64 (gridErr a h cs)]) ∧ Below w.heap.size w w' := by
  obtain ⟨_, _, xr, kk, hsz⟩ := alloc3 w (.cells #[.int .i64 a, .int .i64 h, v] 24) (.cells #[.int .i64 rx, .int .i64 ry, .int .i64 rw, .int .i64 rh] 26) (.cells #[.int .i64 0, .int .i64 0, .slice none 0 0] 24)
  have HK := check_any a h v cs _ (Tab.next hT kk) (hS.below kk)
  generalize gridErr a h cs = er at *
  have ne : (er != 0) = true := by simpa using hok
  clear hok hT hS
  go_enter Tryd.func11, Tryd.ntmps11
  go_wp2_with fail
  refine HK.mono ?_
  rintro e W1 ⟨rfl, b1⟩
  have y2 := carry xr b1
  go_wp2_with (refine wpList_store_row rfl 24 (.tmp 4) _ rfl (w.heap.size + 2) #[.int .i64 0, .int .i64 0, .slice none 0 0] rfl rfl _ _ y2 (by kernel_rfl) rfl (one3v _ _ _ _ _) ?_)
  (try simp only [Exit.inBlock, Exit.then])
  refine bodyPost_ret (v := .tuple #[.agg #[.int .i64 0, .int .i64 0, .slice none 0 0], .int .i64 er]) ?_ rfl ⟨rfl, below_setRow (kk.trans (b1.mono kk.size)) (by omega) _⟩
  exact results_row_tmp rfl _ _ (w.heap.size + 2) _ _ _ _ rfl (setRow_heap _ _ _ _ _ _ y2) Tryd.underlying24 rfl (by kernel_rfl) _ rfl
set_option maxHeartbeats 1000000 in
theorem resize_bad1 (a h : Int) (v : Value) (cs : List C) (pw ph : Int) (w : World) (hT : Txt.Tab w) (hS : SliceAt w v cs) (hok : gridErr a h cs ≠ 0) :
    Calls Tryd.prog 12 #[.agg #[.int .i64 a, .int .i64 h, v], .int .i64 pw, .int .i64 ph] w fun e w' => e = .returned (.tuple #[.agg #[.int .i64 0, .int .i64 0, .slice none 0 0], .int .i64 (gridErr a h cs)]) ∧ Below w.heap.size w w' := by
  obtain ⟨_, xr, kk, hsz⟩ := alloc2' w (.cells #[.int .i64 a, .int .i64 h, v] 24) (.cells #[.int .i64 0, .int .i64 0, .slice none 0 0] 24)
  have HK := check_any a h v cs _ (Tab.next hT kk) (hS.below kk)
  generalize gridErr a h cs = er at *
  have ne : (er != 0) = true := by simpa using hok
  clear hok hT hS
  go_enter Tryd.func12, Tryd.ntmps12
  go_wp2_with fail
  refine HK.mono ?_
  rintro e W1 ⟨rfl, b1⟩
  have y2 := carry xr b1
  go_wp2_with (refine wpList_store_row rfl 24 (.tmp 6) _ rfl (w.heap.size + 1) #[.int .i64 0, .int .i64 0, .slice none 0 0] rfl rfl _ _ y2 (by kernel_rfl) rfl (one3v _ _ _ _ _) ?_)
  (try simp only [Exit.inBlock, Exit.then])
  refine bodyPost_ret (v := .tuple #[.agg #[.int .i64 0, .int .i64 0, .slice none 0 0], .int .i64 er]) ?_ rfl ⟨rfl, below_setRow (kk.trans (b1.mono kk.size)) (by omega) _⟩
  exact results_row_tmp rfl _ _ (w.heap.size + 1) _ _ _ _ rfl (setRow_heap _ _ _ _ _ _ y2) Tryd.underlying24 rfl (by kernel_rfl) _ rfl
set_option maxHeartbeats 1000000 in
theorem part_bad2 (m p : Nat) (v : Value) (fs : List C) (rx ry rw rh : Int) (w : World) (hT : Txt.Tab w) (hS : SliceAt w v fs) (hok : gridErr m p fs = 0) (hx0 : -9223372036854775808 ≤ rx) (hx1 : rx ≤ 9223372036854775807) (hy0 : -9223372036854775808 ≤ ry) (hy1 : ry ≤ 9223372036854775807) (hold : holdsI m p rx ry rw rh = false) :
    Calls Tryd.prog 11 #[.agg #[.int .i64 (m : Int), .int .i64 (p : Int), v], .agg #[.int .i64 rx, .int .i64 ry, .int .i64 rw, .int .i64 rh]] w fun e w' => e = .returned (.tuple #[.agg #[.int .i64 0, .int .i64 0, .slice none 0 0], .int .i64 4]) ∧ Below w.heap.size w w' := by
  obtain ⟨-, q1, q2, q3, q4, -, -⟩ := okRange m p fs hok
  obtain ⟨x0, x1, xr, kk, hsz⟩ := alloc3 w (.cells #[.int .i64 (m : Int), .int .i64 (p : Int), v] 24) (.cells #[.int .i64 rx, .int .i64 ry, .int .i64 rw, .int .i64 rh] 26) (.cells #[.int .i64 0, .int .i64 0, .slice none 0 0] 24)
  have HK := check_ok m p v fs _ (Tab.next hT kk) (hS.below kk) hok
  have HH : Hid (∀ W, Calls Tryd.prog 26 #[.agg #[.int .i64 (m : Int), .int .i64 (p : Int), v], .agg #[.int .i64 rx, .int .i64 ry, .int .i64 rw, .int .i64 rh]] W fun e w' => e = .returned (.bool false) ∧ Below W.heap.size W w') := fun W => by
    have := holds_any m p v rx ry rw rh W (by omega) (by omega) hx0 hx1 hy0 hy1
    rwa [hold] at this
  clear hok hT hS hold
  go_enter Tryd.func11, Tryd.ntmps11
  go_wp2_with fail
  refine HK.mono ?_
  rintro e W1 ⟨rfl, b1⟩
  have k1 := kk.trans (b1.mono kk.size)
  have y2 := carry xr b1
  obtain ⟨c0, c1, c2, _⟩ := cells3 (carry x0 b1)
  obtain ⟨d0, d1, d2, d3⟩ := cells4 (carry x1 b1)
  go_wp2_with fail
  refine (HH.out _).mono ?_
  rintro e W2 ⟨rfl, b2⟩
  have z2 := carry y2 b2
  go_wp2_with (refine wpList_store_row rfl 24 (.tmp 4) _ rfl (w.heap.size + 2) #[.int .i64 0, .int .i64 0, .slice none 0 0] rfl rfl _ _ z2 (by kernel_rfl) rfl (one3v _ _ _ _ _) ?_)
  (try simp only [Exit.inBlock, Exit.then])
  refine bodyPost_ret (v := .tuple #[.agg #[.int .i64 0, .int .i64 0, .slice none 0 0], .int .i64 4]) ?_ rfl ⟨rfl, below_setRow (k1.trans (b2.mono k1.size)) (by omega) _⟩
  exact results_row_tmp rfl _ _ (w.heap.size + 2) _ _ _ _ rfl (setRow_heap _ _ _ _ _ _ z2) Tryd.underlying24 rfl (by kernel_rfl) _ rfl
set_option maxHeartbeats 4000000 in
theorem part_good (m p b o cx rx ry n hh : Nat) (fs : List C) (w : World) (hT : Txt.Tab w) (hC : CellsAt w b o fs) (hl : fs.length ≤ cx) (hm : cx ≤ 9223372036854775807) (hok : gridErr m p fs = 0) (hn : 1 ≤ n) (hh1 : 1 ≤ hh) (hxn : rx + n ≤ m) (hyh : ry + hh ≤ p) :
    Calls Tryd.prog 11 #[.agg #[.int .i64 (m : Int), .int .i64 (p : Int), .slice (some ⟨b, o, none⟩) fs.length cx], .agg #[.int .i64 (rx : Int), .int .i64 (ry : Int), .int .i64 (n : Int), .int .i64 (hh : Int)]] w fun e w' => ∃ v, e = .returned (.tuple #[.agg #[.int .i64 (n : Int), .int .i64 (hh : Int), v], .int .i64 0]) ∧ OwnG w' w.heap.size v (layG n hh (newL n hh) m p fs (-(rx : Int)) (-(ry : Int))) ∧ Below w.heap.size w w' := by
  obtain ⟨-, q1, q2, q3, q4, -, hne⟩ := okRange m p fs hok
  have hS : SliceAt w (.slice (some ⟨b, o, none⟩) fs.length cx) fs := .inr ⟨hne, b, o, cx, rfl, hl, hm, hC⟩
  obtain ⟨x0, x1, xr, kk, hsz⟩ := alloc3 w (.cells #[.int .i64 (m : Int), .int .i64 (p : Int), .slice (some ⟨b, o, none⟩) fs.length cx] 24) (.cells #[.int .i64 (rx : Int), .int .i64 (ry : Int), .int .i64 (n : Int), .int .i64 (hh : Int)] 26) (.cells #[.int .i64 0, .int .i64 0, .slice none 0 0] 24)
  have HK := check_ok m p _ fs _ (Tab.next hT kk) (hS.below kk) hok
  have HH : Hid (∀ W, Calls Tryd.prog 26 #[.agg #[.int .i64 (m : Int), .int .i64 (p : Int), .slice (some ⟨b, o, none⟩) fs.length cx], .agg #[.int .i64 (rx : Int), .int .i64 (ry : Int), .int .i64 (n : Int), .int .i64 (hh : Int)]] W fun e w' => e = .returned (.bool true) ∧ Below W.heap.size W w') := fun W => by
    have := holds_any m p (.slice (some ⟨b, o, none⟩) fs.length cx) rx ry n hh W (by omega) (by omega) (by omega) (by omega) (by omega) (by omega)
    have e : holdsI m p rx ry n hh = true := by unfold holdsI; rw [decide_eq_true_eq]; omega
    rwa [e] at this
  have HLN : Hid (∀ W, Below w.heap.size w W → Calls Tryd.prog 28 #[.agg #[.int .i64 (m : Int), .int .i64 (p : Int), .slice (some ⟨b, o, none⟩) fs.length cx], .int .i64 (n : Int), .int .i64 (hh : Int), .int .i64 (-(rx : Int)), .int .i64 (-(ry : Int))] W fun e w' => ∃ v, e = .returned (.tuple #[.agg #[.int .i64 (n : Int), .int .i64 (hh : Int), v], .int .i64 0]) ∧ OwnG w' W.heap.size v (layG n hh (newL n hh) m p fs (-(rx : Int)) (-(ry : Int))) ∧ Below W.heap.size W w') := fun W k =>
    lon_good m p b o cx n hh (-(rx : Int)) (-(ry : Int)) fs W (Tab.next hT k) (hC.below k) hok hl hm (by unfold isSize; rw [decide_eq_true_eq]; omega) (by omega) (by omega) (by omega) (by omega)
  generalize layG n hh (newL n hh) m p fs (-(rx : Int)) (-(ry : Int)) = res at HLN ⊢
  clear hok hT hS hC
  go_enter Tryd.func11, Tryd.ntmps11
  go_wp2_with fail
  refine HK.mono ?_
  rintro e W1 ⟨rfl, b1⟩
  have k1 := kk.trans (b1.mono kk.size)
  have y0 := carry x0 b1
  have y1 := carry x1 b1
  have y2 := carry xr b1
  obtain ⟨c0, c1, c2, _⟩ := cells3 y0
  obtain ⟨d0, d1, d2, d3⟩ := cells4 y1
  go_wp2_with fail
  refine (HH.out _).mono ?_
  rintro e W2 ⟨rfl, b2⟩
  have k2 := k1.trans (b2.mono k1.size)
  have z2 := carry y2 b2
  clear c0 c1 c2 d0 d1 d2 d3
  obtain ⟨c0, c1, c2, _⟩ := cells3 (carry y0 b2)
  obtain ⟨d0, d1, d2, d3⟩ := cells4 (carry y1 b2)
  go_wp2_with fail
  refine (HLN.out _ k2).mono ?_
  rintro e W3 ⟨_, rfl, ⟨g, cap, rest, t, rfl, hgb, hlc, hcm, hgh⟩, b3⟩
  have k3 := k2.trans (b3.mono k2.size)
  have u2 := carry z2 b3
  have hN2 : w.heap.size + 2 < W2.heap.size := blk_lt z2
  go_wp2_with (refine wpList_store_row rfl 24 (.tmp 4) _ rfl (w.heap.size + 2) #[.int .i64 (n : Int), .int .i64 (hh : Int), .slice (some ⟨g, 0, none⟩) res.length cap] rfl rfl _ _ u2 (by kernel_rfl) rfl (one3v _ _ _ _ _) ?_)
  (try simp only [Exit.inBlock, Exit.then])
  refine bodyPost_ret (v := .tuple #[.agg #[.int .i64 (n : Int), .int .i64 (hh : Int), .slice (some ⟨g, 0, none⟩) res.length cap], .int .i64 0]) ?_ rfl ⟨_, rfl, ⟨g, cap, rest, t, rfl, by omega, hlc, hcm, ?_⟩, below_setRow k3 (by omega) _⟩
  · exact results_row_tmp rfl _ _ (w.heap.size + 2) _ _ _ _ rfl (setRow_heap _ _ _ _ _ _ u2) Tryd.underlying24 rfl (by kernel_rfl) _ rfl
  · rw [setRow_other _ _ _ _ (by omega)]
    exact hgh
set_option maxHeartbeats 1000000 in
theorem resize_bad2 (m p : Nat) (v : Value) (fs : List C) (pw ph : Int) (w : World) (hT : Txt.Tab w) (hS : SliceAt w v fs) (hok : gridErr m p fs = 0) (hs : isSize pw ph = false) :
    Calls Tryd.prog 12 #[.agg #[.int .i64 (m : Int), .int .i64 (p : Int), v], .int .i64 pw, .int .i64 ph] w fun e w' => e = .returned (.tuple #[.agg #[.int .i64 0, .int .i64 0, .slice none 0 0], .int .i64 3]) ∧ Below w.heap.size w w' := by
  obtain ⟨x0, xr, kk, hsz⟩ := alloc2' w (.cells #[.int .i64 (m : Int), .int .i64 (p : Int), v] 24) (.cells #[.int .i64 0, .int .i64 0, .slice none 0 0] 24)
  have HK := check_ok m p v fs _ (Tab.next hT kk) (hS.below kk) hok
  clear hok hT hS
  go_enter Tryd.func12, Tryd.ntmps12
  go_wp2_with fail
  refine HK.mono ?_
  rintro e W1 ⟨rfl, b1⟩
  have k1 := kk.trans (b1.mono kk.size)
  have y2 := carry xr b1
  obtain ⟨c0, c1, c2, _⟩ := cells3 (carry x0 b1)
  go_wp2_with fail
  refine (lon_bad m p pw ph 0 0 v _ hs).mono ?_
  rintro e W2 ⟨rfl, b2⟩
  have z2 := carry y2 b2
  go_wp2_with (refine wpList_store_row rfl 24 (.tmp 6) _ rfl (w.heap.size + 1) #[.int .i64 0, .int .i64 0, .slice none 0 0] rfl rfl _ _ z2 (by kernel_rfl) rfl (one3v _ _ _ _ _) ?_)
  (try simp only [Exit.inBlock, Exit.then])
  refine bodyPost_ret (v := .tuple #[.agg #[.int .i64 0, .int .i64 0, .slice none 0 0], .int .i64 3]) ?_ rfl ⟨rfl, below_setRow (k1.trans (b2.mono k1.size)) (by omega) _⟩
  exact results_row_tmp rfl _ _ (w.heap.size + 1) _ _ _ _ rfl (setRow_heap _ _ _ _ _ _ z2) Tryd.underlying24 rfl (by kernel_rfl) _ rfl
set_option maxHeartbeats 4000000 in
theorem resize_good (m p b o cx n hh : Nat) (fs : List C) (w : World) (hT : Txt.Tab w) (hC : CellsAt w b o fs) (hl : fs.length ≤ cx) (hm : cx ≤ 9223372036854775807) (hok : gridErr m p fs = 0) (hs : isSize n hh = true) :
    Calls Tryd.prog 12 #[.agg #[.int .i64 (m : Int), .int .i64 (p : Int), .slice (some ⟨b, o, none⟩) fs.length cx], .int .i64 (n : Int), .int .i64 (hh : Int)] w fun e w' => ∃ v, e = .returned (.tuple #[.agg #[.int .i64 (n : Int), .int .i64 (hh : Int), v], .int .i64 0]) ∧ OwnG w' w.heap.size v (layG n hh (newL n hh) m p fs 0 0) ∧ Below w.heap.size w w' := by
  obtain ⟨-, q1, q2, q3, q4, -, hne⟩ := okRange m p fs hok
  have hS : SliceAt w (.slice (some ⟨b, o, none⟩) fs.length cx) fs := .inr ⟨hne, b, o, cx, rfl, hl, hm, hC⟩
  obtain ⟨x0, xr, kk, hsz⟩ := alloc2' w (.cells #[.int .i64 (m : Int), .int .i64 (p : Int), .slice (some ⟨b, o, none⟩) fs.length cx] 24) (.cells #[.int .i64 0, .int .i64 0, .slice none 0 0] 24)
  have HK := check_ok m p _ fs _ (Tab.next hT kk) (hS.below kk) hok
  have HLN : Hid (∀ W, Below w.heap.size w W → Calls Tryd.prog 28 #[.agg #[.int .i64 (m : Int), .int .i64 (p : Int), .slice (some ⟨b, o, none⟩) fs.length cx], .int .i64 (n : Int), .int .i64 (hh : Int), .int .i64 0, .int .i64 0] W fun e w' => ∃ v, e = .returned (.tuple #[.agg #[.int .i64 (n : Int), .int .i64 (hh : Int), v], .int .i64 0]) ∧ OwnG w' W.heap.size v (layG n hh (newL n hh) m p fs 0 0) ∧ Below W.heap.size W w') := fun W k =>
    lon_good m p b o cx n hh 0 0 fs W (Tab.next hT k) (hC.below k) hok hl hm hs (by omega) (by omega) (by omega) (by omega)
  generalize layG n hh (newL n hh) m p fs 0 0 = res at HLN ⊢
  clear hok hT hS hC hs
  go_enter Tryd.func12, Tryd.ntmps12
  go_wp2_with fail
  refine HK.mono ?_
  rintro e W1 ⟨rfl, b1⟩
  have k1 := kk.trans (b1.mono kk.size)
  have y2 := carry xr b1
  obtain ⟨c0, c1, c2, _⟩ := cells3 (carry x0 b1)
  go_wp2_with fail
  refine (HLN.out _ k1).mono ?_
  rintro e W3 ⟨_, rfl, ⟨g, cap, rest, t, rfl, hgb, hlc, hcm, hgh⟩, b3⟩
  have k3 := k1.trans (b3.mono k1.size)
  have u2 := carry y2 b3
  have hN2 : w.heap.size + 1 < W1.heap.size := blk_lt y2
  go_wp2_with (refine wpList_store_row rfl 24 (.tmp 6) _ rfl (w.heap.size + 1) #[.int .i64 (n : Int), .int .i64 (hh : Int), .slice (some ⟨g, 0, none⟩) res.length cap] rfl rfl _ _ u2 (by kernel_rfl) rfl (one3v _ _ _ _ _) ?_)
  (try simp only [Exit.inBlock, Exit.then])
  refine bodyPost_ret (v := .tuple #[.agg #[.int .i64 (n : Int), .int .i64 (hh : Int), .slice (some ⟨g, 0, none⟩) res.length cap], .int .i64 0]) ?_ rfl ⟨_, rfl, ⟨g, cap, rest, t, rfl, by omega, hlc, hcm, ?_⟩, below_setRow k3 (by omega) _⟩
  · exact results_row_tmp rfl _ _ (w.heap.size + 1) _ _ _ _ rfl (setRow_heap _ _ _ _ _ _ u2) Tryd.underlying24 rfl (by kernel_rfl) _ rfl
  · rw [setRow_other _ _ _ _ (by omega)]
    exact hgh
end Grd
end Go.Proofs.YtinhmklpnkikgabDoor
