/- The walks of layOnNew, Part and Resize. -/
import Derived.Test.YtinhmklpnkikgaaDoorPartH
import Derived.Test.YtinhmklpnkikgaaDoorPartG
import Derived.Test.YtinhmklpnkikgaaDoorPartF
import Derived.Deep.RegionHeld3
import Derived.Test.YtinhmklpnkikgaaDoorPartI
import Derived.Deep.CutRange
namespace Go.Proofs.YtinhmklpnkikgaaDoor
open Go.ChangeShapes Go.WideShapes Go.ChangeAt Go.RowKit
namespace Grd
def newL (n hh : Nat) : List C := List.replicate (n * hh) blank
theorem newL_len (n hh : Nat) : (newL n hh).length = n * hh := by simp [newL]
theorem layG_len (n hh m p : Nat) (cs fs : List C) (X Y : Int) (hL : cs.length = n * hh) : (layG n hh cs m p fs X Y).length = n * hh := by
  unfold layG
  rw [preF_len n hh cs _ hL (layFn_len n m p fs _ _) hh (Nat.le_refl _), Nat.mul_comm]
set_option maxHeartbeats 1000000 in
theorem lon_bad (a h pw ph X Y : Int) (v : Value) (w : World) (hs : isSize pw ph = false) :
    Calls Tryd.prog 49 #[.agg #[.int .i64 a, .int .i64 h, v], .int .i64 pw, .int .i64 ph, .int .i64 X, .int .i64 Y] w fun e w' => e = .returned (.tuple #[.agg #[.int .i64 0, .int .i64 0, .slice none 0 0], .int .i64 3]) ∧ Below w.heap.size w w' := by
  obtain ⟨x0, x1, kk, hsz⟩ := alloc2' w (.cells #[.int .i64 a, .int .i64 h, v] 24) (.cells #[.int .i64 0, .int .i64 0, .slice none 0 0] 24)
  go_enter Tryd.func49, Tryd.ntmps49
  go_wp2_with fail
  refine (new_bad pw ph _ hs).mono ?_
  rintro e W1 ⟨rfl, b1⟩
  have y1 := carry x1 b1
  have k1 := kk.trans (b1.mono kk.size)
  go_wp2_with (first
    | (refine wpList_store_row rfl 24 (.tmp 12) _ rfl W1.heap.size #[.int .i64 0, .int .i64 0, .slice none 0 0] rfl rfl _ _ (heap_alloc_new W1 _) (by kernel_rfl) rfl (one3v _ _ _ _ _) ?_
       obtain ⟨mX, aX⟩ := var_newL W1 24 #[.int .i64 0, .int .i64 0, .slice none 0 0] #[.int .i64 0, .int .i64 0, .slice none 0 0]
       generalize ((W1.alloc (.cells #[.int .i64 0, .int .i64 0, .slice none 0 0] 24)).setRow W1.heap.size #[.int .i64 0, .int .i64 0, .slice none 0 0]) = X1 at *
       have kX := k1.trans (aX.mono k1.size)
       have v1 := carry y1 aX)
    | (refine wpList_load_row rfl 24 (.tmp 12) rfl W1.heap.size rfl _ _ _ _ mX Tryd.underlying24 rfl (by kernel_rfl) ?_)
    | (refine wpList_store_row rfl 24 (.tmp 10) _ rfl (w.heap.size + 1) #[.int .i64 0, .int .i64 0, .slice none 0 0] rfl rfl _ _ v1 (by kernel_rfl) rfl (one3v _ _ _ _ _) ?_))
  (try simp only [Exit.inBlock, Exit.then])
  refine bodyPost_ret (v := .tuple #[.agg #[.int .i64 0, .int .i64 0, .slice none 0 0], .int .i64 3]) ?_ rfl ⟨rfl, below_setRow kX (by omega) _⟩
  exact results_row_tmp rfl _ _ (w.heap.size + 1) _ _ _ _ rfl (setRow_heap _ _ _ _ _ _ v1) Tryd.underlying24 rfl (by kernel_rfl) _ rfl
set_option maxHeartbeats 4000000 in
theorem lon_good (m p b o cx n hh : Nat) (X Y : Int) (fs : List C) (w : World) (hT : Txt.Tab w) (hC : CellsAt w b o fs) (hok : gridErr m p fs = 0) (hl : fs.length ≤ cx) (hm : cx ≤ 9223372036854775807) (hs : isSize n hh = true) (hX : -1000 ≤ X) (hX' : X ≤ 1000) (hY : -1000 ≤ Y) (hY' : Y ≤ 1000) :
    Calls Tryd.prog 49 #[.agg #[.int .i64 (m : Int), .int .i64 (p : Int), .slice (some ⟨b, o, none⟩) fs.length cx], .int .i64 (n : Int), .int .i64 (hh : Int), .int .i64 X, .int .i64 Y] w fun e w' => ∃ v, e = .returned (.tuple #[.agg #[.int .i64 (n : Int), .int .i64 (hh : Int), v], .int .i64 0]) ∧ OwnG w' w.heap.size v (layG n hh (newL n hh) m p fs X Y) ∧ Below w.heap.size w w' := by
  obtain ⟨hL1, q1, q2, q3, q4, q5, hne1⟩ := okRange m p fs hok
  have ⟨_, _, p2, p3, p4, p5⟩ := prod_in n hh hs
  have hb1 := slice_block hC hne1
  obtain ⟨x0, x1, kk, hsz⟩ := alloc2' w (.cells #[.int .i64 (m : Int), .int .i64 (p : Int), .slice (some ⟨b, o, none⟩) fs.length cx] 24) (.cells #[.int .i64 0, .int .i64 0, .slice none 0 0] 24)
  have HT : Hid (∀ W, Below w.heap.size w W → Txt.Tab W) := fun W k => Tab.next hT k
  have HTP : Hid (0 < w.heap.size) := hT.pos
  have HC : Hid (CellsAt w b o fs) := hC
  have HL1 : Hid (fs.length = m * p) := hL1
  have HN : Hid (∀ W, Calls Tryd.prog 9 #[.int .i64 (n : Int), .int .i64 (hh : Int)] W fun e w' => ∃ v, e = .returned (.tuple #[.agg #[.int .i64 (n : Int), .int .i64 (hh : Int), v], .int .i64 0]) ∧ OwnG w' W.heap.size v (newL n hh) ∧ Below W.heap.size W w') := fun W => by
    have := new_good n hh W hs
    have e : ((n : Int) * (hh : Int)).toNat = n * hh := by rw [← Int.natCast_mul, Int.toNat_natCast]
    rw [e] at this
    exact this
  have HMC : Hid (∀ y, y < hh → Meant (rowAt n (newL n hh) y)) := fun y hy => by unfold newL; rw [rowAt_replicate n hh y _ hy]; exact (replicate_right n).1
  have HRF : Hid (∀ y, y < p → RightRow (rowAt m fs y)) := ((gridErr_zero m p fs).1 hok).2.2
  have HGL : Hid ((layG n hh (newL n hh) m p fs X Y).length = (newL n hh).length) := by unfold Hid; rw [layG_len n hh m p _ fs X Y (newL_len n hh), newL_len]
  clear hT hC hok hL1 hne1 hs
  go_enter Tryd.func49, Tryd.ntmps49
  go_wp2_with fail
  refine (HN.out _).mono ?_
  rintro e W4 ⟨_, rfl, ⟨g, cap, rest, t, rfl, hgb, hlc, hcm, hgh⟩, b4⟩
  have u0 := carry x0 b4
  have u1 := carry x1 b4
  have k4 := kk.trans (b4.mono kk.size)
  have hgN : w.heap.size + 2 ≤ g := by rw [← hsz]; exact hgb
  have hgM : g < W4.heap.size := blk_lt hgh
  have hNL := newL_len n hh
  have HNL : Hid ((newL n hh).length = n * hh) := hNL
  generalize hnl : newL n hh = nl at *
  clear hNL hgb
  go_wp2_with (refine wpList_store_row rfl 24 (.tmp 12) _ rfl W4.heap.size #[.int .i64 (n : Int), .int .i64 (hh : Int), .slice (some ⟨g, 0, none⟩) nl.length cap] rfl rfl _ _ (heap_alloc_new W4 _) (by kernel_rfl) rfl (one3v _ _ _ _ _) ?_
               obtain ⟨mX, aX⟩ := var_newL W4 24 #[.int .i64 0, .int .i64 0, .slice none 0 0] #[.int .i64 (n : Int), .int .i64 (hh : Int), .slice (some ⟨g, 0, none⟩) nl.length cap]
               generalize ((W4.alloc (.cells #[.int .i64 0, .int .i64 0, .slice none 0 0] 24)).setRow W4.heap.size #[.int .i64 (n : Int), .int .i64 (hh : Int), .slice (some ⟨g, 0, none⟩) nl.length cap]) = X1 at *
               have kX := k4.trans (aX.mono k4.size)
               have v0 := carry u0 aX
               have v1 := carry u1 aX
               have vg := carry hgh aX
               obtain ⟨c0, c1, c2, _⟩ := cells3 mX
               obtain ⟨d0, d1, d2, _⟩ := cells3 v0)
  generalize hM : W4.heap.size = M at *
  refine (overwrite_any n hh g cap nl rest t m p b o cx fs X Y X1 (HT.out _ kX) (by have := HTP.out; omega) vg HNL.out (by omega) (by omega) (by omega) hlc hcm (HC.out.below kX) (by omega) HL1.out q1 q2 q4 hl hm hX hX' hY hY' HMC.out HRF.out).mono ?_
  rintro e W5 ⟨rfl, hv5, ap5⟩
  have w2 := ap5.carry (k := w.heap.size + 1) v1 (by simp; omega)
  have wM := ap5.carry (k := M) mX (by simp; omega)
  have kW : Below w.heap.size w W5 := kX.trans (ap5.1.mono (by omega))
  clear c0 c1 c2 d0 d1 d2
  go_wp2_with (first
    | (refine wpList_load_row rfl 24 (.tmp 12) rfl M rfl _ _ _ _ wM Tryd.underlying24 rfl (by kernel_rfl) ?_)
    | (refine wpList_store_row rfl 24 (.tmp 10) _ rfl (w.heap.size + 1) #[.int .i64 (n : Int), .int .i64 (hh : Int), .slice (some ⟨g, 0, none⟩) nl.length cap] rfl rfl _ _ w2 (by kernel_rfl) rfl (one3v _ _ _ _ _) ?_))
  (try simp only [Exit.inBlock, Exit.then])
  refine bodyPost_ret (v := .tuple #[.agg #[.int .i64 (n : Int), .int .i64 (hh : Int), .slice (some ⟨g, 0, none⟩) nl.length cap], .int .i64 0]) ?_ rfl ⟨_, rfl, ⟨g, cap, rest, t, ?_, by omega, ?_, hcm, ?_⟩, below_setRow kW (by omega) _⟩
  · exact results_row_tmp rfl _ _ (w.heap.size + 1) _ _ _ _ rfl (setRow_heap _ _ _ _ _ _ w2) Tryd.underlying24 rfl (by kernel_rfl) _ rfl
  · rw [hnl, HGL.out]
  · rw [hnl, HGL.out]; exact hlc
  · rw [setRow_other _ _ _ _ (by omega), hnl]
    exact hv5
set_option maxHeartbeats 1000000 in
theorem part_bad1 (a h : Int) (v : Value) (cs : List C) (rx ry rw rh : Int) (w : World) (hT : Txt.Tab w) (hS : SliceAt w v cs) (hok : gridErr a h cs ≠ 0) :
    Calls Tryd.prog 26 #[.agg #[.int .i64 a, .int .i64 h, v], .agg #[.int .i64 rx, .int .i64 ry, .int .i64 rw, .int .i64 rh]] w fun e w' => e = .returned (.tuple #[.agg #[.int .i64 0, .int .i64 0, .slice none 0 0], .int .i64 (gridErr a h cs)]) ∧ Below w.heap.size w w' := by
  obtain ⟨_, _, xr, kk, hsz⟩ := alloc3 w (.cells #[.int .i64 a, .int .i64 h, v] 24) (.cells #[.int .i64 rx, .int .i64 ry, .int .i64 rw, .int .i64 rh] 36) (.cells #[.int .i64 0, .int .i64 0, .slice none 0 0] 24)
  have HK := check_any a h v cs _ (Tab.next hT kk) (hS.below kk)
  generalize gridErr a h cs = er at *
  have ne : (er != 0) = true := by simpa using hok
  clear hok hT hS
  go_enter Tryd.func26, Tryd.ntmps26
  go_wp2_with fail
  refine HK.mono ?_
  rintro e W1 ⟨rfl, b1⟩
  have y2 := carry xr b1
  go_wp2_with (refine wpList_store_row rfl 24 (.tmp 4) _ rfl (w.heap.size + 2) #[.int .i64 0, .int .i64 0, .slice none 0 0] rfl rfl _ _ y2 (by kernel_rfl) rfl (one3v _ _ _ _ _) ?_)
  (try simp only [Exit.inBlock, Exit.then])
  refine bodyPost_ret (v := .tuple #[.agg #[.int .i64 0, .int .i64 0, .slice none 0 0], .int .i64 er]) ?_ rfl ⟨rfl, below_setRow (kk.trans (b1.mono kk.size)) (by omega) _⟩
  exact results_row_tmp rfl _ _ (w.heap.size + 2) _ _ _ _ rfl (setRow_heap _ _ _ _ _ _ y2) Tryd.underlying24 rfl (by kernel_rfl) _ rfl
set_option maxHeartbeats 1000000 in
theorem resize_bad1 (a h : Int) (v : Value) (cs : List C) (pw ph : Int) (w : World) (hT : Txt.Tab w) (hS : SliceAt w v cs) (hok : gridErr a h cs ≠ 0) :
    Calls Tryd.prog 27 #[.agg #[.int .i64 a, .int .i64 h, v], .int .i64 pw, .int .i64 ph] w fun e w' => e = .returned (.tuple #[.agg #[.int .i64 0, .int .i64 0, .slice none 0 0], .int .i64 (gridErr a h cs)]) ∧ Below w.heap.size w w' := by
  obtain ⟨_, xr, kk, hsz⟩ := alloc2' w (.cells #[.int .i64 a, .int .i64 h, v] 24) (.cells #[.int .i64 0, .int .i64 0, .slice none 0 0] 24)
  have HK := check_any a h v cs _ (Tab.next hT kk) (hS.below kk)
  generalize gridErr a h cs = er at *
  have ne : (er != 0) = true := by simpa using hok
  clear hok hT hS
  go_enter Tryd.func27, Tryd.ntmps27
  go_wp2_with fail
  refine HK.mono ?_
  rintro e W1 ⟨rfl, b1⟩
  have y2 := carry xr b1
  go_wp2_with (refine wpList_store_row rfl 24 (.tmp 6) _ rfl (w.heap.size + 1) #[.int .i64 0, .int .i64 0, .slice none 0 0] rfl rfl _ _ y2 (by kernel_rfl) rfl (one3v _ _ _ _ _) ?_)
  (try simp only [Exit.inBlock, Exit.then])
  refine bodyPost_ret (v := .tuple #[.agg #[.int .i64 0, .int .i64 0, .slice none 0 0], .int .i64 er]) ?_ rfl ⟨rfl, below_setRow (kk.trans (b1.mono kk.size)) (by omega) _⟩
  exact results_row_tmp rfl _ _ (w.heap.size + 1) _ _ _ _ rfl (setRow_heap _ _ _ _ _ _ y2) Tryd.underlying24 rfl (by kernel_rfl) _ rfl
set_option maxHeartbeats 1000000 in
theorem part_bad2 (m p : Nat) (v : Value) (fs : List C) (rx ry rw rh : Int) (w : World) (hT : Txt.Tab w) (hS : SliceAt w v fs) (hok : gridErr m p fs = 0) (hx0 : -9223372036854775808 ≤ rx) (hx1 : rx ≤ 9223372036854775807) (hy0 : -9223372036854775808 ≤ ry) (hy1 : ry ≤ 9223372036854775807) (hold : holdsI m p rx ry rw rh = false) :
    Calls Tryd.prog 26 #[.agg #[.int .i64 (m : Int), .int .i64 (p : Int), v], .agg #[.int .i64 rx, .int .i64 ry, .int .i64 rw, .int .i64 rh]] w fun e w' => e = .returned (.tuple #[.agg #[.int .i64 0, .int .i64 0, .slice none 0 0], .int .i64 4]) ∧ Below w.heap.size w w' := by
  obtain ⟨-, q1, q2, q3, q4, -, -⟩ := okRange m p fs hok
  obtain ⟨x0, x1, xr, kk, hsz⟩ := alloc3 w (.cells #[.int .i64 (m : Int), .int .i64 (p : Int), v] 24) (.cells #[.int .i64 rx, .int .i64 ry, .int .i64 rw, .int .i64 rh] 36) (.cells #[.int .i64 0, .int .i64 0, .slice none 0 0] 24)
  have HK := check_ok m p v fs _ (Tab.next hT kk) (hS.below kk) hok
  have HH : Hid (∀ W, Calls Tryd.prog 47 #[.agg #[.int .i64 (m : Int), .int .i64 (p : Int), v], .agg #[.int .i64 rx, .int .i64 ry, .int .i64 rw, .int .i64 rh]] W fun e w' => e = .returned (.bool false) ∧ Below W.heap.size W w') := fun W => by
    have := holds_any m p v rx ry rw rh W (by omega) (by omega) hx0 hx1 hy0 hy1
    rwa [hold] at this
  clear hok hT hS hold
  go_enter Tryd.func26, Tryd.ntmps26
  go_wp2_with fail
  refine HK.mono ?_
  rintro e W1 ⟨rfl, b1⟩
  have k1 := kk.trans (b1.mono kk.size)
  have y2 := carry xr b1
  obtain ⟨c0, c1, c2, _⟩ := cells3 (carry x0 b1)
  obtain ⟨d0, d1, d2, d3⟩ := cells4 (carry x1 b1)
  go_wp2_with fail
  refine (HH.out _).mono ?_
  rintro e W2 ⟨rfl, b2⟩
  have z2 := carry y2 b2
  go_wp2_with (refine wpList_store_row rfl 24 (.tmp 4) _ rfl (w.heap.size + 2) #[.int .i64 0, .int .i64 0, .slice none 0 0] rfl rfl _ _ z2 (by kernel_rfl) rfl (one3v _ _ _ _ _) ?_)
  (try simp only [Exit.inBlock, Exit.then])
  refine bodyPost_ret (v := .tuple #[.agg #[.int .i64 0, .int .i64 0, .slice none 0 0], .int .i64 4]) ?_ rfl ⟨rfl, below_setRow (k1.trans (b2.mono k1.size)) (by omega) _⟩
  exact results_row_tmp rfl _ _ (w.heap.size + 2) _ _ _ _ rfl (setRow_heap _ _ _ _ _ _ z2) Tryd.underlying24 rfl (by kernel_rfl) _ rfl
set_option maxHeartbeats 4000000 in
theorem part_good (m p b o cx rx ry n hh : Nat) (fs : List C) (w : World) (hT : Txt.Tab w) (hC : CellsAt w b o fs) (hl : fs.length ≤ cx) (hm : cx ≤ 9223372036854775807) (hok : gridErr m p fs = 0) (hn : 1 ≤ n) (hh1 : 1 ≤ hh) (hxn : rx + n ≤ m) (hyh : ry + hh ≤ p) :
    Calls Tryd.prog 26 #[.agg #[.int .i64 (m : Int), .int .i64 (p : Int), .slice (some ⟨b, o, none⟩) fs.length cx], .agg #[.int .i64 (rx : Int), .int .i64 (ry : Int), .int .i64 (n : Int), .int .i64 (hh : Int)]] w fun e w' => ∃ v, e = .returned (.tuple #[.agg #[.int .i64 (n : Int), .int .i64 (hh : Int), v], .int .i64 0]) ∧ OwnG w' w.heap.size v (layG n hh (newL n hh) m p fs (-(rx : Int)) (-(ry : Int))) ∧ Below w.heap.size w w' := by
  obtain ⟨-, q1, q2, q3, q4, -, hne⟩ := okRange m p fs hok
  have hS : SliceAt w (.slice (some ⟨b, o, none⟩) fs.length cx) fs := .inr ⟨hne, b, o, cx, rfl, hl, hm, hC⟩
  obtain ⟨x0, x1, xr, kk, hsz⟩ := alloc3 w (.cells #[.int .i64 (m : Int), .int .i64 (p : Int), .slice (some ⟨b, o, none⟩) fs.length cx] 24) (.cells #[.int .i64 (rx : Int), .int .i64 (ry : Int), .int .i64 (n : Int), .int .i64 (hh : Int)] 36) (.cells #[.int .i64 0, .int .i64 0, .slice none 0 0] 24)
  have HK := check_ok m p _ fs _ (Tab.next hT kk) (hS.below kk) hok
  have HH : Hid (∀ W, Calls Tryd.prog 47 #[.agg #[.int .i64 (m : Int), .int .i64 (p : Int), .slice (some ⟨b, o, none⟩) fs.length cx], .agg #[.int .i64 (rx : Int), .int .i64 (ry : Int), .int .i64 (n : Int), .int .i64 (hh : Int)]] W fun e w' => e = .returned (.bool true) ∧ Below W.heap.size W w') := fun W => by
    have := holds_any m p (.slice (some ⟨b, o, none⟩) fs.length cx) rx ry n hh W (by omega) (by omega) (by omega) (by omega) (by omega) (by omega)
    have e : holdsI m p rx ry n hh = true := by unfold holdsI; rw [decide_eq_true_eq]; omega
    rwa [e] at this
  have HLN : Hid (∀ W, Below w.heap.size w W → Calls Tryd.prog 49 #[.agg #[.int .i64 (m : Int), .int .i64 (p : Int), .slice (some ⟨b, o, none⟩) fs.length cx], .int .i64 (n : Int), .int .i64 (hh : Int), .int .i64 (-(rx : Int)), .int .i64 (-(ry : Int))] W fun e w' => ∃ v, e = .returned (.tuple #[.agg #[.int .i64 (n : Int), .int .i64 (hh : Int), v], .int .i64 0]) ∧ OwnG w' W.heap.size v (layG n hh (newL n hh) m p fs (-(rx : Int)) (-(ry : Int))) ∧ Below W.heap.size W w') := fun W k =>
    lon_good m p b o cx n hh (-(rx : Int)) (-(ry : Int)) fs W (Tab.next hT k) (hC.below k) hok hl hm (by unfold isSize; rw [decide_eq_true_eq]; omega) (by omega) (by omega) (by omega) (by omega)
  generalize layG n hh (newL n hh) m p fs (-(rx : Int)) (-(ry : Int)) = res at HLN ⊢
  clear hok hT hS hC
  go_enter Tryd.func26, Tryd.ntmps26
  go_wp2_with fail
  refine HK.mono ?_
  rintro e W1 ⟨rfl, b1⟩
  have k1 := kk.trans (b1.mono kk.size)
  have y0 := carry x0 b1
  have y1 := carry x1 b1
  have y2 := carry xr b1
  obtain ⟨c0, c1, c2, _⟩ := cells3 y0
  obtain ⟨d0, d1, d2, d3⟩ := cells4 y1
  go_wp2_with fail
  refine (HH.out _).mono ?_
  rintro e W2 ⟨rfl, b2⟩
  have k2 := k1.trans (b2.mono k1.size)
  have z2 := carry y2 b2
  clear c0 c1 c2 d0 d1 d2 d3
  obtain ⟨c0, c1, c2, _⟩ := cells3 (carry y0 b2)
  obtain ⟨d0, d1, d2, d3⟩ := cells4 (carry y1 b2)
  go_wp2_with fail
  refine (HLN.out _ k2).mono ?_
  rintro e W3 ⟨_, rfl, ⟨g, cap, rest, t, rfl, hgb, hlc, hcm, hgh⟩, b3⟩
  have k3 := k2.trans (b3.mono k2.size)
  have u2 := carry z2 b3
  have hN2 : w.heap.size + 2 < W2.heap.size := blk_lt z2
  go_wp2_with (refine wpList_store_row rfl 24 (.tmp 4) _ rfl (w.heap.size + 2) #[.int .i64 (n : Int), .int .i64 (hh : Int), .slice (some ⟨g, 0, none⟩) res.length cap] rfl rfl _ _ u2 (by kernel_rfl) rfl (one3v _ _ _ _ _) ?_)
  (try simp only [Exit.inBlock, Exit.then])
  refine bodyPost_ret (v := .tuple #[.agg #[.int .i64 (n : Int), .int .i64 (hh : Int), .slice (some ⟨g, 0, none⟩) res.length cap], .int .i64 0]) ?_ rfl ⟨_, rfl, ⟨g, cap, rest, t, rfl, by omega, hlc, hcm, ?_⟩, below_setRow k3 (by omega) _⟩
  · exact results_row_tmp rfl _ _ (w.heap.size + 2) _ _ _ _ rfl (setRow_heap _ _ _ _ _ _ u2) Tryd.underlying24 rfl (by kernel_rfl) _ rfl
  · rw [setRow_other _ _ _ _ (by omega)]
    exact hgh
set_option maxHeartbeats 1000000 in
theorem resize_bad2 (m p : Nat) (v : Value) (fs : List C) (pw ph : Int) (w : World) (hT : Txt.Tab w) (hS : SliceAt w v fs) (hok : gridErr m p fs = 0) (hs : isSize pw ph = false) :
    Calls Tryd.prog 27 #[.agg #[.int .i64 (m : Int), .int .i64 (p : Int), v], .int .i64 pw, .int .i64 ph] w fun e w' => e = .returned (.tuple #[.agg #[.int .i64 0, .int .i64 0, .slice none 0 0], .int .i64 3]) ∧ Below w.heap.size w w' := by
  obtain ⟨x0, xr, kk, hsz⟩ := alloc2' w (.cells #[.int .i64 (m : Int), .int .i64 (p : Int), v] 24) (.cells #[.int .i64 0, .int .i64 0, .slice none 0 0] 24)
  have HK := check_ok m p v fs _ (Tab.next hT kk) (hS.below kk) hok
  clear hok hT hS
  go_enter Tryd.func27, Tryd.ntmps27
  go_wp2_with fail
  refine HK.mono ?_
  rintro e W1 ⟨rfl, b1⟩
  have k1 := kk.trans (b1.mono kk.size)
  have y2 := carry xr b1
  obtain ⟨c0, c1, c2, _⟩ := cells3 (carry x0 b1)
  go_wp2_with fail
  refine (lon_bad m p pw ph 0 0 v _ hs).mono ?_
  rintro e W2 ⟨rfl, b2⟩
  have z2 := carry y2 b2
  go_wp2_with (refine wpList_store_row rfl 24 (.tmp 6) _ rfl (w.heap.size + 1) #[.int .i64 0, .int .i64 0, .slice none 0 0] rfl rfl _ _ z2 (by kernel_rfl) rfl (one3v _ _ _ _ _) ?_)
  (try simp only [Exit.inBlock, Exit.then])
  refine bodyPost_ret (v := .tuple #[.agg #[.int .i64 0, .int .i64 0, .slice none 0 0], .int .i64 3]) ?_ rfl ⟨rfl, below_setRow (k1.trans (b2.mono k1.size)) (by omega) _⟩
  exact results_row_tmp rfl _ _ (w.heap.size + 1) _ _ _ _ rfl (setRow_heap _ _ _ _ _ _ z2) Tryd.underlying24 rfl (by kernel_rfl) _ rfl
set_option maxHeartbeats 4000000 in
theorem resize_good (m p b o cx n hh : Nat) (fs : List C) (w : World) (hT : Txt.Tab w) (hC : CellsAt w b o fs) (hl : fs.length ≤ cx) (hm : cx ≤ 9223372036854775807) (hok : gridErr m p fs = 0) (hs : isSize n hh = true) :
    Calls Tryd.prog 27 #[.agg #[.int .i64 (m : Int), .int .i64 (p : Int), .slice (some ⟨b, o, none⟩) fs.length cx], .int .i64 (n : Int), .int .i64 (hh : Int)] w fun e w' => ∃ v, e = .returned (.tuple #[.agg #[.int .i64 (n : Int), .int .i64 (hh : Int), v], .int .i64 0]) ∧ OwnG w' w.heap.size v (layG n hh (newL n hh) m p fs 0 0) ∧ Below w.heap.size w w' := by
  obtain ⟨-, q1, q2, q3, q4, -, hne⟩ := okRange m p fs hok
  have hS : SliceAt w (.slice (some ⟨b, o, none⟩) fs.length cx) fs := .inr ⟨hne, b, o, cx, rfl, hl, hm, hC⟩
  obtain ⟨x0, xr, kk, hsz⟩ := alloc2' w (.cells #[.int .i64 (m : Int), .int .i64 (p : Int), .slice (some ⟨b, o, none⟩) fs.length cx] 24) (.cells #[.int .i64 0, .int .i64 0, .slice none 0 0] 24)
  have HK := check_ok m p _ fs _ (Tab.next hT kk) (hS.below kk) hok
  have HLN : Hid (∀ W, Below w.heap.size w W → Calls Tryd.prog 49 #[.agg #[.int .i64 (m : Int), .int .i64 (p : Int), .slice (some ⟨b, o, none⟩) fs.length cx], .int .i64 (n : Int), .int .i64 (hh : Int), .int .i64 0, .int .i64 0] W fun e w' => ∃ v, e = .returned (.tuple #[.agg #[.int .i64 (n : Int), .int .i64 (hh : Int), v], .int .i64 0]) ∧ OwnG w' W.heap.size v (layG n hh (newL n hh) m p fs 0 0) ∧ Below W.heap.size W w') := fun W k =>
    lon_good m p b o cx n hh 0 0 fs W (Tab.next hT k) (hC.below k) hok hl hm hs (by omega) (by omega) (by omega) (by omega)
  generalize layG n hh (newL n hh) m p fs 0 0 = res at HLN ⊢
  clear hok hT hS hC hs
  go_enter Tryd.func27, Tryd.ntmps27
  go_wp2_with fail
  refine HK.mono ?_
  rintro e W1 ⟨rfl, b1⟩
  have k1 := kk.trans (b1.mono kk.size)
  have y2 := carry xr b1
  obtain ⟨c0, c1, c2, _⟩ := cells3 (carry x0 b1)
  go_wp2_with fail
  refine (HLN.out _ k1).mono ?_
  rintro e W3 ⟨_, rfl, ⟨g, cap, rest, t, rfl, hgb, hlc, hcm, hgh⟩, b3⟩
  have k3 := k1.trans (b3.mono k1.size)
  have u2 := carry y2 b3
  have hN2 : w.heap.size + 1 < W1.heap.size := blk_lt y2
  go_wp2_with (refine wpList_store_row rfl 24 (.tmp 6) _ rfl (w.heap.size + 1) #[.int .i64 (n : Int), .int .i64 (hh : Int), .slice (some ⟨g, 0, none⟩) res.length cap] rfl rfl _ _ u2 (by kernel_rfl) rfl (one3v _ _ _ _ _) ?_)
  (try simp only [Exit.inBlock, Exit.then])
  refine bodyPost_ret (v := .tuple #[.agg #[.int .i64 (n : Int), .int .i64 (hh : Int), .slice (some ⟨g, 0, none⟩) res.length cap], .int .i64 0]) ?_ rfl ⟨_, rfl, ⟨g, cap, rest, t, rfl, by omega, hlc, hcm, ?_⟩, below_setRow k3 (by omega) _⟩
  · exact results_row_tmp rfl _ _ (w.heap.size + 1) _ _ _ _ rfl (setRow_heap _ _ _ _ _ _ u2) Tryd.underlying24 rfl (by kernel_rfl) _ rfl
  · rw [setRow_other _ _ _ _ (by omega)]
    exact hgh
end Grd
end Go.Proofs.YtinhmklpnkikgaaDoor

/- The walk of the law GridLay. -/
namespace Go.Proofs.YtinhmklpnkikgaaDoor
open Go.ChangeShapes Go.WideShapes Go.ChangeAt Go.RowKit Go.Maps
namespace Grd
open Txt (wd)
theorem alloc_next {w W : World} (h : Below w.heap.size w W) (o : Obj) : Below w.heap.size w (W.alloc o) := h.alloc h.size o
theorem old1 {W W1 : World} {o : Obj} (d : Below (W.alloc o).heap.size (W.alloc o) W1) : W1.heap[W.heap.size]? = some o := carry (heap_alloc_new W o) d
theorem old2 {W W1 : World} {o o' : Obj} (d : Below ((W.alloc o).alloc o').heap.size ((W.alloc o).alloc o') W1) : W1.heap[W.heap.size]? = some o ∧ W1.heap[W.heap.size + 1]? = some o' := ⟨carry (alloc2' W o o').1 d, carry (alloc2' W o o').2.1 d⟩
theorem old1d {W W1 : World} {o : Obj} (d : Below (W.alloc o).drew.heap.size (W.alloc o).drew W1) : W1.heap[W.heap.size]? = some o := by
  have h : (W.alloc o).drew.heap[W.heap.size]? = some o := heap_alloc_new W o
  exact carry h d
theorem old2d {W W1 : World} {o o' : Obj} (d : Below ((W.alloc o).alloc o').drew.heap.size ((W.alloc o).alloc o').drew W1) : W1.heap[W.heap.size]? = some o ∧ W1.heap[W.heap.size + 1]? = some o' := by
  have h : ((W.alloc o).alloc o').drew.heap[W.heap.size]? = some o := (alloc2' W o o').1
  have h' : ((W.alloc o).alloc o').drew.heap[W.heap.size + 1]? = some o' := (alloc2' W o o').2.1
  exact ⟨carry h d, carry h' d⟩
theorem drew_next {w W : World} (h : Below w.heap.size w W) : Below w.heap.size w W.drew := h.drew
theorem thru {W W2 : World} {p : Nat} {o x : Obj} (h : W.heap[p]? = some x) (d : Below (W.alloc o).heap.size (W.alloc o) W2) : W2.heap[p]? = some x := carry (by rw [Below.heap_alloc _ _ _ (blk_lt h)]; exact h) d
theorem far {W : World} {p : Nat} {x : Obj} (h : W.heap[p]? = some x) (o : Obj) : (W.alloc o).heap[p]? = some x := by rw [Below.heap_alloc _ _ _ (blk_lt h)]; exact h
theorem set_next {w W : World} (h : Below w.heap.size w W) {p i : Nat} (hp : w.heap.size ≤ p) (v : Value) : Below w.heap.size w (W.setCell ⟨p, i, none⟩ v) := h.setCell (by dsimp only; exact hp) v
theorem open3 {W : World} {p : Nat} {x y z : Value} {t : TypeId} (h : W.heap[p]? = some (.cells #[x, y, z] t)) : W.cell? ⟨p, 0, none⟩ = some x ∧ W.cell? ⟨p, 1, none⟩ = some y ∧ W.cell? ⟨p, 2, none⟩ = some z ∧ W.frozen? ⟨p, 0, none⟩ = false ∧ W.frozen? ⟨p, 1, none⟩ = false ∧ W.frozen? ⟨p, 2, none⟩ = false := ⟨(cells3 h).1, (cells3 h).2.1, (cells3 h).2.2.1, frozen_of h _, frozen_of h _, frozen_of h _⟩
theorem set3_at {W : World} {p : Nat} {a b c : Value} {t : TypeId} (h : W.heap[p]? = some (.cells #[.int .i64 0, .int .i64 0, .slice none 0 0] t (0, 0))) : (((W.setCell ⟨p, 0, none⟩ a).setCell ⟨p, 1, none⟩ b).setCell ⟨p, 2, none⟩ c).heap[p]? = some (.cells #[a, b, c] t (0, 0)) :=
  heap_setCell_same _ p 2 _ t c (heap_setCell_same _ p 1 _ t b (heap_setCell_same _ p 0 _ t a h))
theorem set3_other {W : World} {p k : Nat} {a b c : Value} {o : Obj} (h : W.heap[k]? = some o) (hne : k ≠ p) : (((W.setCell ⟨p, 0, none⟩ a).setCell ⟨p, 1, none⟩ b).setCell ⟨p, 2, none⟩ c).heap[k]? = some o := by
  rw [heap_setCell_other _ _ _ _ hne, heap_setCell_other _ _ _ _ hne, heap_setCell_other _ _ _ _ hne]
  exact h
theorem SliceAt.allocd {W : World} {v : Value} {cs : List C} (h : SliceAt W v cs) (o : Obj) : SliceAt (W.alloc o) v cs := h.below ((Below.refl _ _).alloc (Nat.le_refl _) _)
/-- Cells of a grid lie in no block that holds a grid's own fields. -/
theorem SliceAt.set3 {W : World} {p : Nat} {a b c v : Value} {cs : List C} (h : SliceAt W v cs) (hp : W.heap[p]? = some (.cells #[.int .i64 0, .int .i64 0, .slice none 0 0] 24 (0, 0))) : SliceAt (((W.setCell ⟨p, 0, none⟩ a).setCell ⟨p, 1, none⟩ b).setCell ⟨p, 2, none⟩ c) v cs := by
  rcases h with h | ⟨hne, b', o', c', hv, h1, h2, hC⟩
  · exact .inl h
  · refine .inr ⟨hne, b', o', c', hv, h1, h2, ?_⟩
    have hb : b' ≠ p := by
      intro e
      subst e
      obtain ⟨c0, -, -, -⟩ := hC 0 (by have := List.length_pos_iff.2 hne; omega)
      unfold World.cell? at c0
      rw [hp] at c0
      simp only [Nat.zero_mul, Nat.add_zero] at c0
      match o', c0 with
      | 0, c0 => simp at c0
      | 1, c0 => simp at c0
      | 2, c0 => simp at c0
      | (_ + 3), c0 => simp at c0
    intro j hj
    obtain ⟨e0, e1, e2, e3⟩ := hC j hj
    have e : ∀ i, (((W.setCell ⟨p, 0, none⟩ a).setCell ⟨p, 1, none⟩ b).setCell ⟨p, 2, none⟩ c).cell? ⟨b', i, none⟩ = W.cell? ⟨b', i, none⟩ := fun i => by
      unfold World.cell?
      simp only []
      rw [heap_setCell_other _ _ _ _ hb, heap_setCell_other _ _ _ _ hb, heap_setCell_other _ _ _ _ hb]
    exact ⟨(e _).trans e0, (e _).trans e1, (e _).trans e2, (e _).trans e3⟩
theorem new2 (W : World) (o o' : Obj) : ((W.alloc o).alloc o').heap[W.heap.size + 1]? = some o' := (alloc2' W o o').2.1
theorem ne_succ' {n : Nat} : n + 1 ≠ n := by omega
set_option maxHeartbeats 8000000 in
set_option maxRecDepth 100000 in
theorem gridLay_walk (a1 h1 a2 h2 px py : Int) (v1 v2 : Value) (fs cs : List C) (w : World) (hT : Txt.Tab w) (hS1 : SliceAt w v1 fs) (hS2 : SliceAt w v2 cs) (hbig1 : fs.length * 32 ≤ 140737488351232) (hbig2 : cs.length * 32 ≤ 140737488351232) :
    Calls Tryd.prog 6 #[.agg #[.int .i64 a1, .int .i64 h1, v1], .agg #[.int .i64 a2, .int .i64 h2, v2], .int .i64 px, .int .i64 py] w fun e w' => e = .returned (.bool true) ∧ Below w.heap.size w w' := by
  have HT : Hid (∀ W, Below w.heap.size w W → Txt.Tab W) := fun W k => Tab.next hT k
  have HS1 : Hid (∀ W, Below w.heap.size w W → SliceAt W v1 fs) := fun W k => hS1.below k
  have HS2 : Hid (∀ W, Below w.heap.size w W → SliceAt W v2 cs) := fun W k => hS2.below k
  obtain ⟨x0, x1, kk, hsz⟩ := alloc2' w (.cells #[.int .i64 a1, .int .i64 h1, v1] 24) (.cells #[.int .i64 a2, .int .i64 h2, v2] 24)
  generalize hW0 : ((w.alloc (.cells #[.int .i64 a1, .int .i64 h1, v1] 24)).alloc (.cells #[.int .i64 a2, .int .i64 h2, v2] 24)) = W0 at x0 x1 kk hsz
  have HW0 : Hid (_ = W0) := hW0
  have k0 : Below W0.heap.size W0 W0.drew := (Below.refl _ _).drew
  have kz : Below W0.heap.size W0 W0 := Below.refl _ _
  have HS : Hid (∀ W, Below W0.heap.size W0 W → Below W0.heap.size W0 W ∧ (W.cell? ⟨w.heap.size, 0, none⟩ = some (.int .i64 a1) ∧ W.cell? ⟨w.heap.size, 1, none⟩ = some (.int .i64 h1) ∧ W.cell? ⟨w.heap.size, 2, none⟩ = some v1) ∧ (W.cell? ⟨w.heap.size + 1, 0, none⟩ = some (.int .i64 a2) ∧ W.cell? ⟨w.heap.size + 1, 1, none⟩ = some (.int .i64 h2) ∧ W.cell? ⟨w.heap.size + 1, 2, none⟩ = some v2)) := fun W k => by
    have a := cells3 (carry x0 k)
    have b := cells3 (carry x1 k)
    exact ⟨k, ⟨a.1, a.2.1, a.2.2.1⟩, b.1, b.2.1, b.2.2.1⟩
  have HO1 : Hid (∀ W, Below W0.heap.size W0 W → Calls Tryd.prog 17 #[.agg #[.int .i64 a1, .int .i64 h1, v1]] W fun e w' => ∃ a' c', e = .returned (.agg #[.int .i64 a1, .int .i64 h1, .slice a' fs.length c']) ∧ SliceAt w' (.slice a' fs.length c') fs ∧ Below W.heap.size W w' ∧ Below W0.heap.size W0 w') := fun W k => (own_any a1 h1 v1 fs W (HS1.out W (kk.trans (k.mono kk.size))) (by omega)).mono fun _ _ ⟨a', c', h1, h2, h3⟩ => ⟨a', c', h1, h2, h3, k.trans (h3.mono k.size)⟩
  have HO2 : Hid (∀ W, Below W0.heap.size W0 W → Calls Tryd.prog 17 #[.agg #[.int .i64 a2, .int .i64 h2, v2]] W fun e w' => ∃ a' c', e = .returned (.agg #[.int .i64 a2, .int .i64 h2, .slice a' cs.length c']) ∧ SliceAt w' (.slice a' cs.length c') cs ∧ Below W.heap.size W w' ∧ Below W0.heap.size W0 w') := fun W k => (own_any a2 h2 v2 cs W (HS2.out W (kk.trans (k.mono kk.size))) (by omega)).mono fun _ _ ⟨a', c', h1, h2, h3⟩ => ⟨a', c', h1, h2, h3, k.trans (h3.mono k.size)⟩
  have HB1 : Hid (fs.length ≤ 4398046511104) := by unfold Hid; omega
  have HB2 : Hid (cs.length ≤ 4398046511104) := by unfold Hid; omega
  clear hW0 hT hS1 hS2 hsz
  go_enter Tryd.func6, Tryd.ntmps6
  go_wp2_with fail
  rw [HW0.out]
  go_cut [9, 10] from 14 to 17 (fun s9 s10 wx => ∃ (p9 p10 : Nat) (oa1 : Option Addr) (oc1 : Nat) (oa2 : Option Addr) (oc2 : Nat), s9 = .pointer (some ⟨p9, 0, none⟩) ∧ s10 = .pointer (some ⟨p10, 0, none⟩) ∧ wx.heap[p9]? = some (.cells #[.int .i64 a1, .int .i64 h1, .slice oa1 fs.length oc1] 24) ∧ wx.heap[p10]? = some (.cells #[.int .i64 a2, .int .i64 h2, .slice oa2 cs.length oc2] 24) ∧ SliceAt wx (.slice oa1 fs.length oc1) fs ∧ SliceAt wx (.slice oa2 cs.length oc2) cs ∧ Below W0.heap.size W0 wx)
  case first =>
    go_region_held3 (fun W => Below W0.heap.size W0 W ∧ (W.cell? ⟨w.heap.size, 0, none⟩ = some (.int .i64 a1) ∧ W.cell? ⟨w.heap.size, 1, none⟩ = some (.int .i64 h1) ∧ W.cell? ⟨w.heap.size, 2, none⟩ = some v1) ∧ (W.cell? ⟨w.heap.size + 1, 0, none⟩ = some (.int .i64 a2) ∧ W.cell? ⟨w.heap.size + 1, 1, none⟩ = some (.int .i64 h2) ∧ W.cell? ⟨w.heap.size + 1, 2, none⟩ = some v2))
      ((refine HS.out _ ?_; repeat' (first | with_reducible exact k2 | with_reducible exact k1 | with_reducible exact k0 | with_reducible exact kz | with_reducible refine drew_next ?_ | with_reducible refine alloc_next ?_ _ | with_reducible refine set_next ?_ (by omega) _)))
      (first
        | (go_at_call_of 17 v1; refine (HO1.out _ (by repeat' (first | with_reducible exact k1 | with_reducible exact k0 | with_reducible exact kz | with_reducible refine drew_next ?_ | with_reducible refine alloc_next ?_ _))).mono ?_; rintro e W1 ⟨oa1, oc1, rfl, so1, d1, k1⟩; have s1 := k1.size; (try (have zA := old1d d1; have zAn := Nat.ne_of_lt (blk_lt zA); have zAm := Nat.ne_of_gt (blk_lt zA); obtain ⟨_, _, _, _, _, _⟩ := open3 zA)); (try (have zBC := old2d d1; obtain ⟨zB, zC⟩ := zBC; obtain ⟨_, _, _, _, _, _⟩ := open3 zB; obtain ⟨_, _, _, _, _, _⟩ := open3 zC)))
        | (go_at_call_of 17 v2; refine (HO2.out _ (by repeat' (first | with_reducible exact k1 | with_reducible exact k0 | with_reducible exact kz | with_reducible refine drew_next ?_ | with_reducible refine alloc_next ?_ _))).mono ?_; rintro e W2 ⟨oa2, oc2, rfl, so2, d2, k2⟩; have s2 := k2.size; have so1' : SliceAt W2 (.slice oa1 fs.length oc1) fs := (by first | exact so1.below d2 | exact (so1.allocd _).below d2 | exact ((so1.allocd _).allocd _).below d2); (try (have zD := carry zA d2; obtain ⟨_, _, _, _, _, _⟩ := open3 zD; have zDf := far zD (.cells #[.int .i64 0, .int .i64 0, .slice none 0 0] 24); obtain ⟨_, _, _, _, _, _⟩ := open3 zDf; have zDn := Nat.ne_of_lt (blk_lt zD); have zDm := Nat.ne_of_gt (blk_lt zD); have zDg := far zD (.cells #[.int .i64 a1, .int .i64 h1, .slice oa1 fs.length oc1] 24); obtain ⟨_, _, _, _, _, _⟩ := open3 zDg)); (try (have zE := carry zB d2; have zF := carry zC d2; obtain ⟨_, _, _, _, _, _⟩ := open3 zE; obtain ⟨_, _, _, _, _, _⟩ := open3 zF)); (try (have zJ := thru zA d2; obtain ⟨_, _, _, _, _, _⟩ := open3 zJ)); (try (have zG := old1 d2; obtain ⟨_, _, _, _, _, _⟩ := open3 zG; have zGf := far zG (.cells #[.int .i64 0, .int .i64 0, .slice none 0 0] 24); obtain ⟨_, _, _, _, _, _⟩ := open3 zGf; have zGn := Nat.ne_of_lt (blk_lt zG); have zGm := Nat.ne_of_gt (blk_lt zG); have zGg := far zG (.cells #[.int .i64 a1, .int .i64 h1, .slice oa1 fs.length oc1] 24); obtain ⟨_, _, _, _, _, _⟩ := open3 zGg)); (try (have zHI := old2 d2; obtain ⟨zH, zI⟩ := zHI; obtain ⟨_, _, _, _, _, _⟩ := open3 zH; obtain ⟨_, _, _, _, _, _⟩ := open3 zI))))
    all_goals go_wp2_with fail
    all_goals go_meet
    all_goals refine ⟨_, _, oa1, oc1, oa2, oc2, rfl, rfl, ?_, ?_, ?_, ?_, ?_⟩
    all_goals repeat' (first | with_reducible assumption | with_reducible exact heap_alloc_new _ _ | with_reducible exact new2 _ _ _ | with_reducible refine set3_at ?_ | with_reducible refine set3_other ?_ (by omega) | with_reducible refine far ?_ _ | with_reducible exact so1' | with_reducible exact so2 | with_reducible refine SliceAt.set3 ?_ ?_ | with_reducible refine SliceAt.allocd ?_ _ | with_reducible exact k2 | with_reducible refine alloc_next ?_ _ | with_reducible refine set_next ?_ (by omega) _)
  case rest =>
    obtain ⟨p9, p10, oa1, oc1, oa2, oc2, rfl, rfl, h9, h10, so1, so2, kx⟩ := hcut
    have y0 := carry x0 kx
    have y1 := carry x1 kx
    have kw := kk.trans (kx.mono kk.size)
    clear HS HO1 HO2 HW0 k0 kz x0 x1 kx kk
    by_cases hok : gridErr a1 h1 fs = 0
    · by_cases hok2 : gridErr a2 h2 cs = 0
      · obtain ⟨m, p, rfl, rfl⟩ := size_of_ok a1 h1 fs hok
        obtain ⟨n, hh, rfl, rfl⟩ := size_of_ok a2 h2 cs hok2
        obtain ⟨cov0, cov1, cov2, _⟩ := cells3 h9
        obtain ⟨cpv0, cpv1, cpv2, _⟩ := cells3 h10
        have HLY : Hid (∀ W u1 u2, Below w.heap.size w W → SliceAt W u1 fs → SliceAt W u2 cs → Calls Tryd.prog 24 #[.agg #[.int .i64 (m : Int), .int .i64 (p : Int), u1], .agg #[.int .i64 (n : Int), .int .i64 (hh : Int), u2], .int .i64 px, .int .i64 py] W fun e w' => ∃ v, e = .returned (.tuple #[.agg #[.int .i64 (n : Int), .int .i64 (hh : Int), v], .int .i64 0]) ∧ OwnG w' W.heap.size v (layG n hh cs m p fs (nearI px) (nearI py)) ∧ Below W.heap.size W w') := fun W u1 u2 k s1 s2 => by
          obtain ⟨b1, o1, c1, rfl, e1, e2, e3⟩ := s1.open (pos_of_ok m p fs hok).1
          obtain ⟨b2, o2, c2, rfl, f1, f2, f3⟩ := s2.open (pos_of_ok n hh cs hok2).1
          exact lay_good m p b1 o1 c1 n hh b2 o2 c2 px py fs cs W (HT.out W k) e3 f3 hok hok2 e1 e2 f1 f2
        have HLG : Hid (∀ W, Below w.heap.size w W → Calls Tryd.prog 25 #[.agg #[.int .i64 (m : Int), .int .i64 (p : Int), v1], .agg #[.int .i64 (n : Int), .int .i64 (hh : Int), v2], .int .i64 px, .int .i64 py] W fun e w' => ∃ v, e = .returned (.agg #[.int .i64 (n : Int), .int .i64 (hh : Int), v]) ∧ OwnG w' W.heap.size v (layG n hh cs m p fs (nearI px) (nearI py)) ∧ Below W.heap.size W w') := fun W k => by
          obtain ⟨b1, o1, c1, rfl, e1, e2, e3⟩ := (HS1.out W k).open (pos_of_ok m p fs hok).1
          obtain ⟨b2, o2, c2, rfl, f1, f2, f3⟩ := (HS2.out W k).open (pos_of_ok n hh cs hok2).1
          exact layGrid_any m p b1 o1 c1 n hh b2 o2 c2 px py fs cs W e3 f3 hok hok2 e1 f1
        have HFLN : Hid ((layG n hh cs m p fs (nearI px) (nearI py)).length ≤ 1000000) := by
          have ⟨hL, _, _, _, _, h7, _⟩ := okRange n hh cs hok2
          unfold Hid
          rw [layG_len n hh m p cs fs _ _ hL, ← hL]
          omega
        generalize layG n hh cs m p fs (nearI px) (nearI py) = fg at HLY HLG HFLN
        have HER1 : Hid (gridErr m p fs = 0) := hok
        have HER2 : Hid (gridErr n hh cs = 0) := hok2
        clear hok hok2
        go_wp2_with fail
        refine (HLY.out _ _ _ kw so1 so2).mono ?_
        rintro e V1 ⟨_, rfl, ⟨gf, cf, rf, tf, rfl, hgf, hcf, hmf, hhf⟩, b1⟩
        have gs1 := carry y0 b1
        have ns1 := carry y1 b1
        have os1 := carry h9 b1
        have ps1 := carry h10 b1
        have soos1 := so1.below b1
        have sops1 := so2.below b1
        have ks1 := kw.trans (b1.mono kw.size)
        clear cov0 cov1 cov2 cpv0 cpv1 cpv2
        have soz : SliceAt V1 (.slice (some ⟨gf, 0, none⟩) fg.length cf) fg := OwnG.slice (base := 0) ⟨gf, cf, rf, tf, rfl, by omega, hcf, hmf, hhf⟩
        clear hhf
        go_wp2_with (refine wpList_store_row rfl 24 (.tmp 11) _ rfl V1.heap.size #[.int .i64 (n : Int), .int .i64 (hh : Int), .slice (some ⟨gf, 0, none⟩) fg.length cf] rfl rfl _ _ (heap_alloc_new V1 _) (by kernel_rfl) rfl (one3v _ _ _ _ _) ?_
                     obtain ⟨mX2, aX2⟩ := var_new V1 24 #[.int .i64 0, .int .i64 0, .slice none 0 0] #[.int .i64 (n : Int), .int .i64 (hh : Int), .slice (some ⟨gf, 0, none⟩) fg.length cf]
                     generalize ((V1.alloc (.cells #[.int .i64 0, .int .i64 0, .slice none 0 0] 24)).setRow V1.heap.size #[.int .i64 (n : Int), .int .i64 (hh : Int), .slice (some ⟨gf, 0, none⟩) fg.length cf]) = X2 at *
                     have gs2 := carry gs1 aX2
                     have ns2 := carry ns1 aX2
                     have os2 := carry os1 aX2
                     have ps2 := carry ps1 aX2
                     have soos2 := soos1.below aX2
                     have sops2 := sops1.below aX2
                     have sozs2 := soz.below aX2
                     have ks2 := ks1.trans (aX2.mono ks1.size)
                     obtain ⟨cgX20, cgX21, cgX22, _⟩ := cells3 gs2)
        refine (ref_to m p v1 fs _ HER1.out _ (HS1.out _ ks2)).mono ?_
        rintro e V3 ⟨rfl, b3⟩
        have gs3 := carry gs2 b3
        have ns3 := carry ns2 b3
        have os3 := carry os2 b3
        have ps3 := carry ps2 b3
        have zs3 := carry mX2 b3
        have soos3 := soos2.below b3
        have sops3 := sops2.below b3
        have sozs3 := sozs2.below b3
        have ks3 := ks2.trans (b3.mono ks2.size)
        clear cgX20 cgX21 cgX22
        obtain ⟨cns30, cns31, cns32, _⟩ := cells3 ns3
        go_wp2_with fail
        refine (ref_to n hh v2 cs _ HER2.out _ (HS2.out _ ks3)).mono ?_
        rintro e V4 ⟨rfl, b4⟩
        have gs4 := carry gs3 b4
        have ns4 := carry ns3 b4
        have os4 := carry os3 b4
        have ps4 := carry ps3 b4
        have zs4 := carry zs3 b4
        have soos4 := soos3.below b4
        have sops4 := sops3.below b4
        have sozs4 := sozs3.below b4
        have ks4 := ks3.trans (b4.mono ks3.size)
        clear cns30 cns31 cns32
        obtain ⟨cgs40, cgs41, cgs42, _⟩ := cells3 gs4
        obtain ⟨cns40, cns41, cns42, _⟩ := cells3 ns4
        obtain ⟨cos40, cos41, cos42, _⟩ := cells3 os4
        obtain ⟨cps40, cps41, cps42, _⟩ := cells3 ps4
        go_wp2_with fail
        refine (gridded_any _ (HT.out _ ks4)).mono ?_
        rintro e V5 ⟨rfl, b5⟩
        have gs5 := carry gs4 b5
        have ns5 := carry ns4 b5
        have os5 := carry os4 b5
        have ps5 := carry ps4 b5
        have zs5 := carry zs4 b5
        have soos5 := soos4.below b5
        have sops5 := sops4.below b5
        have sozs5 := sozs4.below b5
        have ks5 := ks4.trans (b5.mono ks4.size)
        clear cgs40 cgs41 cgs42 cns40 cns41 cns42 cos40 cos41 cos42 cps40 cps41 cps42
        obtain ⟨cgs50, cgs51, cgs52, _⟩ := cells3 gs5
        obtain ⟨cns50, cns51, cns52, _⟩ := cells3 ns5
        obtain ⟨cos50, cos51, cos52, _⟩ := cells3 os5
        obtain ⟨cps50, cps51, cps52, _⟩ := cells3 ps5
        go_wp2_with fail
        refine (same_any_big m p _ _ fs _ soos5 (HS1.out _ ks5) HB1.out).mono ?_
        rintro e V6 ⟨rfl, b6⟩
        have gs6 := carry gs5 b6
        have ns6 := carry ns5 b6
        have os6 := carry os5 b6
        have ps6 := carry ps5 b6
        have zs6 := carry zs5 b6
        have soos6 := soos5.below b6
        have sops6 := sops5.below b6
        have sozs6 := sozs5.below b6
        have ks6 := ks5.trans (b6.mono ks5.size)
        clear cgs50 cgs51 cgs52 cns50 cns51 cns52 cos50 cos51 cos52 cps50 cps51 cps52
        obtain ⟨cgs60, cgs61, cgs62, _⟩ := cells3 gs6
        obtain ⟨cns60, cns61, cns62, _⟩ := cells3 ns6
        obtain ⟨cos60, cos61, cos62, _⟩ := cells3 os6
        obtain ⟨cps60, cps61, cps62, _⟩ := cells3 ps6
        go_wp2_with fail
        refine (same_any_big n hh _ _ cs _ sops6 (HS2.out _ ks6) HB2.out).mono ?_
        rintro e V7 ⟨rfl, b7⟩
        have gs7 := carry gs6 b7
        have ns7 := carry ns6 b7
        have os7 := carry os6 b7
        have ps7 := carry ps6 b7
        have zs7 := carry zs6 b7
        have soos7 := soos6.below b7
        have sops7 := sops6.below b7
        have sozs7 := sozs6.below b7
        have ks7 := ks6.trans (b7.mono ks6.size)
        clear cgs60 cgs61 cgs62 cns60 cns61 cns62 cos60 cos61 cos62 cps60 cps61 cps62
        obtain ⟨cgs70, cgs71, cgs72, _⟩ := cells3 gs7
        obtain ⟨cns70, cns71, cns72, _⟩ := cells3 ns7
        obtain ⟨cos70, cos71, cos72, _⟩ := cells3 os7
        obtain ⟨cps70, cps71, cps72, _⟩ := cells3 ps7
        obtain ⟨czs70, czs71, czs72, _⟩ := cells3 zs7
        go_wp2_with fail
        have HZZ : Hid (SliceAt V7 (.slice (some ⟨gf, 0, none⟩) fg.length cf) fg) := sozs7
        have kd7 : Below V7.heap.size V7 V7.drew := (Below.refl _ _).drew
        have HKN7 : Hid (Below w.heap.size w V7) := ks7
        have HNX7 : Hid (∀ W W', Below W.heap.size W W' → (fun W => Below V7.heap.size V7 W ∧ (W.cell? ⟨w.heap.size, 0, none⟩ = some (.int .i64 (m : Int)) ∧ W.cell? ⟨w.heap.size, 1, none⟩ = some (.int .i64 (p : Int)) ∧ W.cell? ⟨w.heap.size, 2, none⟩ = some (v1)) ∧ (W.cell? ⟨w.heap.size + 1, 0, none⟩ = some (.int .i64 (n : Int)) ∧ W.cell? ⟨w.heap.size + 1, 1, none⟩ = some (.int .i64 (hh : Int)) ∧ W.cell? ⟨w.heap.size + 1, 2, none⟩ = some (v2)) ∧ (W.cell? ⟨V1.heap.size, 0, none⟩ = some (.int .i64 (n : Int)) ∧ W.cell? ⟨V1.heap.size, 1, none⟩ = some (.int .i64 (hh : Int)) ∧ W.cell? ⟨V1.heap.size, 2, none⟩ = some (.slice (some ⟨gf, 0, none⟩) fg.length cf))) W → (fun W => Below V7.heap.size V7 W ∧ (W.cell? ⟨w.heap.size, 0, none⟩ = some (.int .i64 (m : Int)) ∧ W.cell? ⟨w.heap.size, 1, none⟩ = some (.int .i64 (p : Int)) ∧ W.cell? ⟨w.heap.size, 2, none⟩ = some (v1)) ∧ (W.cell? ⟨w.heap.size + 1, 0, none⟩ = some (.int .i64 (n : Int)) ∧ W.cell? ⟨w.heap.size + 1, 1, none⟩ = some (.int .i64 (hh : Int)) ∧ W.cell? ⟨w.heap.size + 1, 2, none⟩ = some (v2)) ∧ (W.cell? ⟨V1.heap.size, 0, none⟩ = some (.int .i64 (n : Int)) ∧ W.cell? ⟨V1.heap.size, 1, none⟩ = some (.int .i64 (hh : Int)) ∧ W.cell? ⟨V1.heap.size, 2, none⟩ = some (.slice (some ⟨gf, 0, none⟩) fg.length cf))) W') := by
          rintro W W' hb ⟨k0, ⟨gq0, gq1, gq2⟩, ⟨nq0, nq1, nq2⟩, ⟨zq0, zq1, zq2⟩⟩
          exact ⟨k0.trans (hb.mono k0.size), ⟨cell_keep hb gq0, cell_keep hb gq1, cell_keep hb gq2⟩, ⟨cell_keep hb nq0, cell_keep hb nq1, cell_keep hb nq2⟩, ⟨cell_keep hb zq0, cell_keep hb zq1, cell_keep hb zq2⟩⟩
        have HST07 : Hid ((fun W => Below V7.heap.size V7 W ∧ (W.cell? ⟨w.heap.size, 0, none⟩ = some (.int .i64 (m : Int)) ∧ W.cell? ⟨w.heap.size, 1, none⟩ = some (.int .i64 (p : Int)) ∧ W.cell? ⟨w.heap.size, 2, none⟩ = some (v1)) ∧ (W.cell? ⟨w.heap.size + 1, 0, none⟩ = some (.int .i64 (n : Int)) ∧ W.cell? ⟨w.heap.size + 1, 1, none⟩ = some (.int .i64 (hh : Int)) ∧ W.cell? ⟨w.heap.size + 1, 2, none⟩ = some (v2)) ∧ (W.cell? ⟨V1.heap.size, 0, none⟩ = some (.int .i64 (n : Int)) ∧ W.cell? ⟨V1.heap.size, 1, none⟩ = some (.int .i64 (hh : Int)) ∧ W.cell? ⟨V1.heap.size, 2, none⟩ = some (.slice (some ⟨gf, 0, none⟩) fg.length cf))) V7.drew) := ⟨kd7, ⟨cgs70, cgs71, cgs72⟩, ⟨cns70, cns71, cns72⟩, ⟨czs70, czs71, czs72⟩⟩
        go_region_held3 (fun W => Below V7.heap.size V7 W ∧ (W.cell? ⟨w.heap.size, 0, none⟩ = some (.int .i64 (m : Int)) ∧ W.cell? ⟨w.heap.size, 1, none⟩ = some (.int .i64 (p : Int)) ∧ W.cell? ⟨w.heap.size, 2, none⟩ = some (v1)) ∧ (W.cell? ⟨w.heap.size + 1, 0, none⟩ = some (.int .i64 (n : Int)) ∧ W.cell? ⟨w.heap.size + 1, 1, none⟩ = some (.int .i64 (hh : Int)) ∧ W.cell? ⟨w.heap.size + 1, 2, none⟩ = some (v2)) ∧ (W.cell? ⟨V1.heap.size, 0, none⟩ = some (.int .i64 (n : Int)) ∧ W.cell? ⟨V1.heap.size, 1, none⟩ = some (.int .i64 (hh : Int)) ∧ W.cell? ⟨V1.heap.size, 2, none⟩ = some (.slice (some ⟨gf, 0, none⟩) fg.length cf)))
          (first
            | (exact HNX7.out _ _ b10 (by assumption))
            | (exact HNX7.out _ _ b9 (by assumption))
            | (exact HST07.out))
          (first
            | (go_at_call 25; refine (HLG.out _ (HKN7.out.trans (kd7.mono HKN7.out.size))).mono ?_; rintro e V9 ⟨v9, rfl, o9, b9⟩; have k9 := kd7.trans (b9.mono kd7.size))
            | (go_at_call 15; refine (same_any n hh _ v9 fg _ (HZZ.out.below k9) o9.slice HFLN.out).mono ?_; rintro e V10 ⟨rfl, b10⟩; have k10 := k9.trans (b10.mono k9.size)))
        go_wp2_with fail
        go_ret
        exact ⟨rfl, HKN7.out.trans (k10.mono HKN7.out.size)⟩
      · obtain ⟨cov0, cov1, cov2, _⟩ := cells3 h9
        obtain ⟨cpv0, cpv1, cpv2, _⟩ := cells3 h10
        obtain ⟨er, her⟩ : ∃ q, gridErr a2 h2 cs = q := ⟨_, rfl⟩
        have HER2 : Hid (gridErr a2 h2 cs = er) := her
        have HLY : Hid (∀ W u1 u2, Below w.heap.size w W → SliceAt W u1 fs → SliceAt W u2 cs → Calls Tryd.prog 24 #[.agg #[.int .i64 a1, .int .i64 h1, u1], .agg #[.int .i64 a2, .int .i64 h2, u2], .int .i64 px, .int .i64 py] W fun e w' => e = .returned (.tuple #[.agg #[.int .i64 0, .int .i64 0, .slice none 0 0], .int .i64 er]) ∧ Below W.heap.size W w') := fun W u1 u2 k s1 s2 => by
          have := lay_bad2 a1 h1 a2 h2 px py u1 u2 fs cs W (HT.out W k) s1 s2 hok hok2
          rwa [her] at this
        have ne : (er != 0) = true := by rw [← her]; simpa using hok2
        have ne2 : (er == 0) = false := by rw [← her]; simpa using hok2
        have nee : (er == er) = true := by simp
        have HER1 : Hid (gridErr a1 h1 fs = 0) := hok
        clear her hok hok2
        go_wp2_with fail
        refine (HLY.out _ _ _ kw so1 so2).mono ?_
        rintro e V1 ⟨rfl, b1⟩
        have gs1 := carry y0 b1
        have ns1 := carry y1 b1
        have os1 := carry h9 b1
        have ps1 := carry h10 b1
        have soos1 := so1.below b1
        have sops1 := so2.below b1
        have ks1 := kw.trans (b1.mono kw.size)
        clear cov0 cov1 cov2 cpv0 cpv1 cpv2
        go_wp2_with (refine wpList_store_row rfl 24 (.tmp 11) _ rfl V1.heap.size #[.int .i64 0, .int .i64 0, .slice none 0 0] rfl rfl _ _ (heap_alloc_new V1 _) (by kernel_rfl) rfl (one3v _ _ _ _ _) ?_
                     obtain ⟨mX2, aX2⟩ := var_new V1 24 #[.int .i64 0, .int .i64 0, .slice none 0 0] #[.int .i64 0, .int .i64 0, .slice none 0 0]
                     generalize ((V1.alloc (.cells #[.int .i64 0, .int .i64 0, .slice none 0 0] 24)).setRow V1.heap.size #[.int .i64 0, .int .i64 0, .slice none 0 0]) = X2 at *
                     have gs2 := carry gs1 aX2
                     have ns2 := carry ns1 aX2
                     have os2 := carry os1 aX2
                     have ps2 := carry ps1 aX2
                     have soos2 := soos1.below aX2
                     have sops2 := sops1.below aX2
                     have ks2 := ks1.trans (aX2.mono ks1.size)
                     obtain ⟨cgX20, cgX21, cgX22, _⟩ := cells3 gs2)
        refine (ref_to a1 h1 v1 fs _ HER1.out _ (HS1.out _ ks2)).mono ?_
        rintro e V3 ⟨rfl, b3⟩
        have gs3 := carry gs2 b3
        have ns3 := carry ns2 b3
        have os3 := carry os2 b3
        have ps3 := carry ps2 b3
        have zs3 := carry mX2 b3
        have soos3 := soos2.below b3
        have sops3 := sops2.below b3
        have ks3 := ks2.trans (b3.mono ks2.size)
        clear cgX20 cgX21 cgX22
        obtain ⟨cns30, cns31, cns32, _⟩ := cells3 ns3
        go_wp2_with fail
        refine (ref_to a2 h2 v2 cs _ HER2.out _ (HS2.out _ ks3)).mono ?_
        rintro e V4 ⟨rfl, b4⟩
        have gs4 := carry gs3 b4
        have ns4 := carry ns3 b4
        have os4 := carry os3 b4
        have ps4 := carry ps3 b4
        have zs4 := carry zs3 b4
        have soos4 := soos3.below b4
        have sops4 := sops3.below b4
        have ks4 := ks3.trans (b4.mono ks3.size)
        clear cns30 cns31 cns32
        obtain ⟨cgs40, cgs41, cgs42, _⟩ := cells3 gs4
        obtain ⟨cns40, cns41, cns42, _⟩ := cells3 ns4
        obtain ⟨cos40, cos41, cos42, _⟩ := cells3 os4
        obtain ⟨cps40, cps41, cps42, _⟩ := cells3 ps4
        go_wp2_with fail
        refine (gridded_any _ (HT.out _ ks4)).mono ?_
        rintro e V5 ⟨rfl, b5⟩
        have gs5 := carry gs4 b5
        have ns5 := carry ns4 b5
        have os5 := carry os4 b5
        have ps5 := carry ps4 b5
        have zs5 := carry zs4 b5
        have soos5 := soos4.below b5
        have sops5 := sops4.below b5
        have ks5 := ks4.trans (b5.mono ks4.size)
        clear cgs40 cgs41 cgs42 cns40 cns41 cns42 cos40 cos41 cos42 cps40 cps41 cps42
        obtain ⟨cgs50, cgs51, cgs52, _⟩ := cells3 gs5
        obtain ⟨cns50, cns51, cns52, _⟩ := cells3 ns5
        obtain ⟨cos50, cos51, cos52, _⟩ := cells3 os5
        obtain ⟨cps50, cps51, cps52, _⟩ := cells3 ps5
        go_wp2_with fail
        refine (same_any_big a1 h1 _ _ fs _ soos5 (HS1.out _ ks5) HB1.out).mono ?_
        rintro e V6 ⟨rfl, b6⟩
        have gs6 := carry gs5 b6
        have ns6 := carry ns5 b6
        have os6 := carry os5 b6
        have ps6 := carry ps5 b6
        have zs6 := carry zs5 b6
        have soos6 := soos5.below b6
        have sops6 := sops5.below b6
        have ks6 := ks5.trans (b6.mono ks5.size)
        clear cgs50 cgs51 cgs52 cns50 cns51 cns52 cos50 cos51 cos52 cps50 cps51 cps52
        obtain ⟨cgs60, cgs61, cgs62, _⟩ := cells3 gs6
        obtain ⟨cns60, cns61, cns62, _⟩ := cells3 ns6
        obtain ⟨cos60, cos61, cos62, _⟩ := cells3 os6
        obtain ⟨cps60, cps61, cps62, _⟩ := cells3 ps6
        go_wp2_with fail
        refine (same_any_big a2 h2 _ _ cs _ sops6 (HS2.out _ ks6) HB2.out).mono ?_
        rintro e V7 ⟨rfl, b7⟩
        have gs7 := carry gs6 b7
        have ns7 := carry ns6 b7
        have os7 := carry os6 b7
        have ps7 := carry ps6 b7
        have zs7 := carry zs6 b7
        have soos7 := soos6.below b7
        have sops7 := sops6.below b7
        have ks7 := ks6.trans (b7.mono ks6.size)
        clear cgs60 cgs61 cgs62 cns60 cns61 cns62 cos60 cos61 cos62 cps60 cps61 cps62
        obtain ⟨cgs70, cgs71, cgs72, _⟩ := cells3 gs7
        obtain ⟨cns70, cns71, cns72, _⟩ := cells3 ns7
        obtain ⟨cos70, cos71, cos72, _⟩ := cells3 os7
        obtain ⟨cps70, cps71, cps72, _⟩ := cells3 ps7
        obtain ⟨czs70, czs71, czs72, _⟩ := cells3 zs7
        go_wp2_with fail
        refine (gridded_any _ (HT.out _ ks7)).mono ?_
        rintro e V8 ⟨rfl, b8⟩
        have gs8 := carry gs7 b8
        have ns8 := carry ns7 b8
        have os8 := carry os7 b8
        have ps8 := carry ps7 b8
        have zs8 := carry zs7 b8
        have soos8 := soos7.below b8
        have sops8 := sops7.below b8
        have ks8 := ks7.trans (b8.mono ks7.size)
        clear cgs70 cgs71 cgs72 cns70 cns71 cns72 cos70 cos71 cos72 cps70 cps71 cps72 czs70 czs71 czs72
        obtain ⟨cgs80, cgs81, cgs82, _⟩ := cells3 gs8
        obtain ⟨cns80, cns81, cns82, _⟩ := cells3 ns8
        obtain ⟨cos80, cos81, cos82, _⟩ := cells3 os8
        obtain ⟨cps80, cps81, cps82, _⟩ := cells3 ps8
        go_wp2_with fail
        refine (same_any_big a1 h1 _ _ fs _ soos8 (HS1.out _ ks8) HB1.out).mono ?_
        rintro e V9 ⟨rfl, b9⟩
        have ns9 := carry ns8 b9
        have ps9 := carry ps8 b9
        have zs9 := carry zs8 b9
        have soos9 := soos8.below b9
        have sops9 := sops8.below b9
        have ks9 := ks8.trans (b9.mono ks8.size)
        clear cgs80 cgs81 cgs82 cns80 cns81 cns82 cos80 cos81 cos82 cps80 cps81 cps82
        obtain ⟨cns90, cns91, cns92, _⟩ := cells3 ns9
        obtain ⟨cps90, cps91, cps92, _⟩ := cells3 ps9
        go_wp2_with fail
        refine (same_any_big a2 h2 _ _ cs _ sops9 (HS2.out _ ks9) HB2.out).mono ?_
        rintro e V10 ⟨rfl, b10⟩
        have zs10 := carry zs9 b10
        have soos10 := soos9.below b10
        have sops10 := sops9.below b10
        have ks10 := ks9.trans (b10.mono ks9.size)
        clear cns90 cns91 cns92 cps90 cps91 cps92
        obtain ⟨czs100, czs101, czs102, _⟩ := cells3 zs10
        go_wp2_with fail
        refine (noGrid_none _).mono ?_
        rintro e V11 ⟨rfl, b11⟩
        have soos11 := soos10.below b11
        have sops11 := sops10.below b11
        have ks11 := ks10.trans (b11.mono ks10.size)
        clear czs100 czs101 czs102
        go_wp2_with fail
        go_ret
        exact ⟨rfl, ks11⟩
    · obtain ⟨cov0, cov1, cov2, _⟩ := cells3 h9
      obtain ⟨cpv0, cpv1, cpv2, _⟩ := cells3 h10
      obtain ⟨er, her⟩ : ∃ q, gridErr a1 h1 fs = q := ⟨_, rfl⟩
      have HER1 : Hid (gridErr a1 h1 fs = er) := her
      have HLY : Hid (∀ W u1 u2, Below w.heap.size w W → SliceAt W u1 fs → SliceAt W u2 cs → Calls Tryd.prog 24 #[.agg #[.int .i64 a1, .int .i64 h1, u1], .agg #[.int .i64 a2, .int .i64 h2, u2], .int .i64 px, .int .i64 py] W fun e w' => e = .returned (.tuple #[.agg #[.int .i64 0, .int .i64 0, .slice none 0 0], .int .i64 er]) ∧ Below W.heap.size W w') := fun W u1 u2 k s1 s2 => by
        have := lay_bad1 a1 h1 a2 h2 px py u1 u2 fs W (HT.out W k) s1 hok
        rwa [her] at this
      have ne : (er != 0) = true := by rw [← her]; simpa using hok
      have ne2 : (er == 0) = false := by rw [← her]; simpa using hok
      have nee : (er == er) = true := by simp
      clear her hok
      go_wp2_with fail
      refine (HLY.out _ _ _ kw so1 so2).mono ?_
      rintro e V1 ⟨rfl, b1⟩
      have gs1 := carry y0 b1
      have ns1 := carry y1 b1
      have os1 := carry h9 b1
      have ps1 := carry h10 b1
      have soos1 := so1.below b1
      have sops1 := so2.below b1
      have ks1 := kw.trans (b1.mono kw.size)
      clear cov0 cov1 cov2 cpv0 cpv1 cpv2
      go_wp2_with (refine wpList_store_row rfl 24 (.tmp 11) _ rfl V1.heap.size #[.int .i64 0, .int .i64 0, .slice none 0 0] rfl rfl _ _ (heap_alloc_new V1 _) (by kernel_rfl) rfl (one3v _ _ _ _ _) ?_
                   obtain ⟨mX2, aX2⟩ := var_new V1 24 #[.int .i64 0, .int .i64 0, .slice none 0 0] #[.int .i64 0, .int .i64 0, .slice none 0 0]
                   generalize ((V1.alloc (.cells #[.int .i64 0, .int .i64 0, .slice none 0 0] 24)).setRow V1.heap.size #[.int .i64 0, .int .i64 0, .slice none 0 0]) = X2 at *
                   have gs2 := carry gs1 aX2
                   have ns2 := carry ns1 aX2
                   have os2 := carry os1 aX2
                   have ps2 := carry ps1 aX2
                   have soos2 := soos1.below aX2
                   have sops2 := sops1.below aX2
                   have ks2 := ks1.trans (aX2.mono ks1.size)
                   obtain ⟨cgX20, cgX21, cgX22, _⟩ := cells3 gs2)
      refine (ref_to a1 h1 v1 fs _ HER1.out _ (HS1.out _ ks2)).mono ?_
      rintro e V3 ⟨rfl, b3⟩
      have gs3 := carry gs2 b3
      have ns3 := carry ns2 b3
      have os3 := carry os2 b3
      have ps3 := carry ps2 b3
      have zs3 := carry mX2 b3
      have soos3 := soos2.below b3
      have sops3 := sops2.below b3
      have ks3 := ks2.trans (b3.mono ks2.size)
      clear cgX20 cgX21 cgX22
      obtain ⟨cgs30, cgs31, cgs32, _⟩ := cells3 gs3
      obtain ⟨cns30, cns31, cns32, _⟩ := cells3 ns3
      obtain ⟨cos30, cos31, cos32, _⟩ := cells3 os3
      obtain ⟨cps30, cps31, cps32, _⟩ := cells3 ps3
      go_wp2_with fail
      refine (gridded_any _ (HT.out _ ks3)).mono ?_
      rintro e V5 ⟨rfl, b5⟩
      have gs4 := carry gs3 b5
      have ns4 := carry ns3 b5
      have os4 := carry os3 b5
      have ps4 := carry ps3 b5
      have zs4 := carry zs3 b5
      have soos4 := soos3.below b5
      have sops4 := sops3.below b5
      have ks4 := ks3.trans (b5.mono ks3.size)
      clear cgs30 cgs31 cgs32 cns30 cns31 cns32 cos30 cos31 cos32 cps30 cps31 cps32
      obtain ⟨cgs40, cgs41, cgs42, _⟩ := cells3 gs4
      obtain ⟨cns40, cns41, cns42, _⟩ := cells3 ns4
      obtain ⟨cos40, cos41, cos42, _⟩ := cells3 os4
      obtain ⟨cps40, cps41, cps42, _⟩ := cells3 ps4
      go_wp2_with fail
      refine (same_any_big a1 h1 _ _ fs _ soos4 (HS1.out _ ks4) HB1.out).mono ?_
      rintro e V6 ⟨rfl, b6⟩
      have gs5 := carry gs4 b6
      have ns5 := carry ns4 b6
      have os5 := carry os4 b6
      have ps5 := carry ps4 b6
      have zs5 := carry zs4 b6
      have soos5 := soos4.below b6
      have sops5 := sops4.below b6
      have ks5 := ks4.trans (b6.mono ks4.size)
      clear cgs40 cgs41 cgs42 cns40 cns41 cns42 cos40 cos41 cos42 cps40 cps41 cps42
      obtain ⟨cgs50, cgs51, cgs52, _⟩ := cells3 gs5
      obtain ⟨cns50, cns51, cns52, _⟩ := cells3 ns5
      obtain ⟨cos50, cos51, cos52, _⟩ := cells3 os5
      obtain ⟨cps50, cps51, cps52, _⟩ := cells3 ps5
      go_wp2_with fail
      refine (same_any_big a2 h2 _ _ cs _ sops5 (HS2.out _ ks5) HB2.out).mono ?_
      rintro e V7 ⟨rfl, b7⟩
      have gs6 := carry gs5 b7
      have ns6 := carry ns5 b7
      have os6 := carry os5 b7
      have ps6 := carry ps5 b7
      have zs6 := carry zs5 b7
      have soos6 := soos5.below b7
      have sops6 := sops5.below b7
      have ks6 := ks5.trans (b7.mono ks5.size)
      clear cgs50 cgs51 cgs52 cns50 cns51 cns52 cos50 cos51 cos52 cps50 cps51 cps52
      obtain ⟨cgs60, cgs61, cgs62, _⟩ := cells3 gs6
      obtain ⟨cns60, cns61, cns62, _⟩ := cells3 ns6
      obtain ⟨cos60, cos61, cos62, _⟩ := cells3 os6
      obtain ⟨cps60, cps61, cps62, _⟩ := cells3 ps6
      obtain ⟨czs60, czs61, czs62, _⟩ := cells3 zs6
      go_wp2_with fail
      refine (gridded_any _ (HT.out _ ks6)).mono ?_
      rintro e V8 ⟨rfl, b8⟩
      have gs7 := carry gs6 b8
      have ns7 := carry ns6 b8
      have os7 := carry os6 b8
      have ps7 := carry ps6 b8
      have zs7 := carry zs6 b8
      have soos7 := soos6.below b8
      have sops7 := sops6.below b8
      have ks7 := ks6.trans (b8.mono ks6.size)
      clear cgs60 cgs61 cgs62 cns60 cns61 cns62 cos60 cos61 cos62 cps60 cps61 cps62 czs60 czs61 czs62
      obtain ⟨cgs70, cgs71, cgs72, _⟩ := cells3 gs7
      obtain ⟨cns70, cns71, cns72, _⟩ := cells3 ns7
      obtain ⟨cos70, cos71, cos72, _⟩ := cells3 os7
      obtain ⟨cps70, cps71, cps72, _⟩ := cells3 ps7
      go_wp2_with fail
      refine (same_any_big a1 h1 _ _ fs _ soos7 (HS1.out _ ks7) HB1.out).mono ?_
      rintro e V9 ⟨rfl, b9⟩
      have ns8 := carry ns7 b9
      have ps8 := carry ps7 b9
      have zs8 := carry zs7 b9
      have soos8 := soos7.below b9
      have sops8 := sops7.below b9
      have ks8 := ks7.trans (b9.mono ks7.size)
      clear cgs70 cgs71 cgs72 cns70 cns71 cns72 cos70 cos71 cos72 cps70 cps71 cps72
      obtain ⟨cns80, cns81, cns82, _⟩ := cells3 ns8
      obtain ⟨cps80, cps81, cps82, _⟩ := cells3 ps8
      go_wp2_with fail
      refine (same_any_big a2 h2 _ _ cs _ sops8 (HS2.out _ ks8) HB2.out).mono ?_
      rintro e V10 ⟨rfl, b10⟩
      have zs9 := carry zs8 b10
      have soos9 := soos8.below b10
      have sops9 := sops8.below b10
      have ks9 := ks8.trans (b10.mono ks8.size)
      clear cns80 cns81 cns82 cps80 cps81 cps82
      obtain ⟨czs90, czs91, czs92, _⟩ := cells3 zs9
      go_wp2_with fail
      refine (noGrid_none _).mono ?_
      rintro e V11 ⟨rfl, b11⟩
      have soos10 := soos9.below b11
      have sops10 := sops9.below b11
      have ks10 := ks9.trans (b11.mono ks9.size)
      clear czs90 czs91 czs92
      go_wp2_with fail
      go_ret
      exact ⟨rfl, ks10⟩
end Grd
end Go.Proofs.YtinhmklpnkikgaaDoor
