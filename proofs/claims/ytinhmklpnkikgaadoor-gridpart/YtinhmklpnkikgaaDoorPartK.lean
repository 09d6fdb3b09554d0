/- The walks of layOnNew, Part and Resize. -/
import Derived.Test.YtinhmklpnkikgaaDoorPartG
import Derived.Test.YtinhmklpnkikgaaDoorPartJ
import Derived.Test.YtinhmklpnkikgaaDoorPartD
import Derived.Lib.OthersKept
import Derived.Test.YtinhmklpnkikgaaDoorPartF
import Derived.BigQuiet
import Derived.Test.YtinhmklpnkikgaaDoorPartE
namespace Go.Proofs.YtinhmklpnkikgaaDoor
open Go.ChangeShapes Go.WideShapes Go.ChangeAt Go.RowKit
namespace Grd
def newL (n hh : Nat) : List C := List.replicate (n * hh) blank
theorem newL_len (n hh : Nat) : (newL n hh).length = n * hh := by simp [newL]
theorem layG_len (n hh m p : Nat) (cs fs : List C) (X Y : Int) (hL : cs.length = n * hh) : (layG n hh cs m p fs X Y).length = n * hh := by
  unfold layG
  rw [preF_len n hh cs _ hL (layFn_len n m p fs _ _) hh (Nat.le_refl _), Nat.mul_comm]
set_option maxHeartbeats 1000000 in
theorem lon_bad (a h pw ph X Y : Int) (v : Value) (w : World) (hs : isSize pw ph = false) :
    Calls Tryd.prog 49 #[.agg #[.int .i64 a, .int .i64 h, v], .int .i64 pw, .int .i64 ph, .int .i64 X, .int .i64 Y] w fun e w' => e = .returned (.tuple #[.agg #[.int .i64 0, .int .i64 0, .slice none 0 0], .int .i64 3]) ∧ Below w.heap.size w w' := by
  obtain ⟨x0, x1, kk, hsz⟩ := alloc2' w (.cells #[.int .i64 a, .int .i64 h, v] 24) (.cells #[.int .i64 0, .int .i64 0, .slice none 0 0] 24)
  go_enter Tryd.func49, Tryd.ntmps49
  go_wp2_with fail
  refine (new_bad pw ph _ hs).mono ?_
  rintro e W1 ⟨rfl, b1⟩
  have y1 := carry x1 b1
  have k1 := kk.trans (b1.mono kk.size)
  go_wp2_with (first
    | (refine wpList_store_row rfl 24 (.tmp 12) _ rfl W1.heap.size #[.int .i64 0, .int .i64 0, .slice none 0 0] rfl rfl _ _ (heap_alloc_new W1 _) (by kernel_rfl) rfl (one3v _ _ _ _ _) ?_
       obtain ⟨mX, aX⟩ := var_newL W1 24 #[.int .i64 0, .int .i64 0, .slice none 0 0] #[.int .i64 0, .int .i64 0, .slice none 0 0]
       generalize ((W1.alloc (.cells #[.int .i64 0, .int .i64 0, .slice none 0 0] 24)).setRow W1.heap.size #[.int .i64 0, .int .i64 0, .slice none 0 0]) = X1 at *
       have kX := k1.trans (aX.mono k1.size)
       have v1 := carry y1 aX)
    | (refine wpList_load_row rfl 24 (.tmp 12) rfl W1.heap.size rfl _ _ _ _ mX Tryd.underlying24 rfl (by kernel_rfl) ?_)
    | (refine wpList_store_row rfl 24 (.tmp 10) _ rfl (w.heap.size + 1) #[.int .i64 0, .int .i64 0, .slice none 0 0] rfl rfl _ _ v1 (by kernel_rfl) rfl (one3v _ _ _ _ _) ?_))
  (try simp only [Exit.inBlock, Exit.then])
  refine bodyPost_ret (v := .tuple #[.agg #[.int .i64 0, .int .i64 0, .slice none 0 0], .int .i64 3]) ?_ rfl ⟨rfl, below_setRow kX (by omega) _⟩
  exact results_row_tmp rfl _ _ (w.heap.size + 1) _ _ _ _ rfl (setRow_heap _ _ _ _ _ _ v1) Tryd.underlying24 rfl (by kernel_rfl) _ rfl
set_option maxHeartbeats 4000000 in
theorem lon_good (m p b o cx n hh : Nat) (X Y : Int) (fs : List C) (w : World) (hT : Txt.Tab w) (hC : CellsAt w b o fs) (hok : gridErr m p fs = 0) (hl : fs.length ≤ cx) (hm : cx ≤ 9223372036854775807) (hs : isSize n hh = true) (hX : -1000 ≤ X) (hX' : X ≤ 1000) (hY : -1000 ≤ Y) (hY' : Y ≤ 1000) :
    Calls Tryd.prog 49 #[.agg #[.int .i64 (m : Int), .int .i64 (p : Int), .slice (some ⟨b, o, none⟩) fs.length cx], .int .i64 (n : Int), .int .i64 (hh : Int), .int .i64 X, .int .i64 Y] w fun e w' => ∃ v, e = .returned (.tuple #[.agg #[.int .i64 (n : Int), .int .i64 (hh : Int), v], .int .i64 0]) ∧ OwnG w' w.heap.size v (layG n hh (newL n hh) m p fs X Y) ∧ Below w.heap.size w w' := by
  obtain ⟨hL1, q1, q2, q3, q4, q5, hne1⟩ := okRange m p fs hok
  have ⟨_, _, p2, p3, p4, p5⟩ := prod_in n hh hs
  have hb1 := slice_block hC hne1
  obtain ⟨x0, x1, kk, hsz⟩ := alloc2' w (.cells #[.int .i64 (m : Int), .int .i64 (p : Int), .slice (some ⟨b, o, none⟩) fs.length cx] 24) (.cells #[.int .i64 0, .int .i64 0, .slice none 0 0] 24)
  have HT : Hid (∀ W, Below w.heap.size w W → Txt.Tab W) := fun W k => Tab.next hT k
  have HTP : Hid (0 < w.heap.size) := hT.pos
  have HC : Hid (CellsAt w b o fs) := hC
  have HL1 : Hid (fs.length = m * p) := hL1
  have HN : Hid (∀ W, Calls Tryd.prog 9 #[.int .i64 (n : Int), .int .i64 (hh : Int)] W fun e w' => ∃ v, e = .returned (.tuple #[.agg #[.int .i64 (n : Int), .int .i64 (hh : Int), v], .int .i64 0]) ∧ OwnG w' W.heap.size v (newL n hh) ∧ Below W.heap.size W w') := fun W => by
    have := new_good n hh W hs
    have e : ((n : Int) * (hh : Int)).toNat = n * hh := by rw [← Int.natCast_mul, Int.toNat_natCast]
    rw [e] at this
    exact this
  have HMC : Hid (∀ y, y < hh → Meant (rowAt n (newL n hh) y)) := fun y hy => by unfold newL; rw [rowAt_replicate n hh y _ hy]; exact (replicate_right n).1
  have HRF : Hid (∀ y, y < p → RightRow (rowAt m fs y)) := ((gridErr_zero m p fs).1 hok).2.2
  have HGL : Hid ((layG n hh (newL n hh) m p fs X Y).length = (newL n hh).length) := by unfold Hid; rw [layG_len n hh m p _ fs X Y (newL_len n hh), newL_len]
  clear hT hC hok hL1 hne1 hs
  go_enter Tryd.func49, Tryd.ntmps49
  go_wp2_with fail
  refine (HN.out _).mono ?_
  rintro e W4 ⟨_, rfl, ⟨g, cap, rest, t, rfl, hgb, hlc, hcm, hgh⟩, b4⟩
  have u0 := carry x0 b4
  have u1 := carry x1 b4
  have k4 := kk.trans (b4.mono kk.size)
  have hgN : w.heap.size + 2 ≤ g := by rw [← hsz]; exact hgb
  have hgM : g < W4.heap.size := blk_lt hgh
  have hNL := newL_len n hh
  have HNL : Hid ((newL n hh).length = n * hh) := hNL
  generalize hnl : newL n hh = nl at *
  clear hNL hgb
  go_wp2_with (refine wpList_store_row rfl 24 (.tmp 12) _ rfl W4.heap.size #[.int .i64 (n : Int), .int .i64 (hh : Int), .slice (some ⟨g, 0, none⟩) nl.length cap] rfl rfl _ _ (heap_alloc_new W4 _) (by kernel_rfl) rfl (one3v _ _ _ _ _) ?_
               obtain ⟨mX, aX⟩ := var_newL W4 24 #[.int .i64 0, .int .i64 0, .slice none 0 0] #[.int .i64 (n : Int), .int .i64 (hh : Int), .slice (some ⟨g, 0, none⟩) nl.length cap]
               generalize ((W4.alloc (.cells #[.int .i64 0, .int .i64 0, .slice none 0 0] 24)).setRow W4.heap.size #[.int .i64 (n : Int), .int .i64 (hh : Int), .slice (some ⟨g, 0, none⟩) nl.length cap]) = X1 at *
               have kX := k4.trans (aX.mono k4.size)
               have v0 := carry u0 aX
               have v1 := carry u1 aX
               have vg := carry hgh aX
               obtain ⟨c0, c1, c2, _⟩ := cells3 mX
               obtain ⟨d0, d1, d2, _⟩ := cells3 v0)
  generalize hM : W4.heap.size = M at *
  refine (overwrite_any n hh g cap nl rest t m p b o cx fs X Y X1 (HT.out _ kX) (by have := HTP.out; omega) vg HNL.out (by omega) (by omega) (by omega) hlc hcm (HC.out.below kX) (by omega) HL1.out q1 q2 q4 hl hm hX hX' hY hY' HMC.out HRF.out).mono ?_
  rintro e W5 ⟨rfl, hv5, ap5⟩
  have w2 := ap5.carry (k := w.heap.size + 1) v1 (by simp; omega)
  have wM := ap5.carry (k := M) mX (by simp; omega)
  have kW : Below w.heap.size w W5 := kX.trans (ap5.1.mono (by omega))
  clear c0 c1 c2 d0 d1 d2
  go_wp2_with (first
    | (refine wpList_load_row rfl 24 (.tmp 12) rfl M rfl _ _ _ _ wM Tryd.underlying24 rfl (by kernel_rfl) ?_)
    | (refine wpList_store_row rfl 24 (.tmp 10) _ rfl (w.heap.size + 1) #[.int .i64 (n : Int), .int .i64 (hh : Int), .slice (some ⟨g, 0, none⟩) nl.length cap] rfl rfl _ _ w2 (by kernel_rfl) rfl (one3v _ _ _ _ _) ?_))
  (try simp only [Exit.inBlock, Exit.then])
  refine bodyPost_ret (v := .tuple #[.agg #[.int .i64 (n : Int), .int .i64 (hh : Int), .slice (some ⟨g, 0, none⟩) nl.length cap], .int .i64 0]) ?_ rfl ⟨_, rfl, ⟨g, cap, rest, t, ?_, by omega, ?_, hcm, ?_⟩, below_setRow kW (by omega) _⟩
  · exact results_row_tmp rfl _ _ (w.heap.size + 1) _ _ _ _ rfl (setRow_heap _ _ _ _ _ _ w2) Tryd.underlying24 rfl (by kernel_rfl) _ rfl
  · rw [hnl, HGL.out]
  · rw [hnl, HGL.out]; exact hlc
  · rw [setRow_other _ _ _ _ (by omega), hnl]
    exact hv5
set_option maxHeartbeats 1000000 in
theorem part_bad1 (a h : Int) (v : Value) (cs : List C) (rx ry rw rh : Int) (w : World) (hT : Txt.Tab w) (hS : SliceAt w v cs) (hok : gridErr a h cs ≠ 0) :
    Calls Tryd.prog 26 #[.agg #[.int .i64 a, .int .i64 h, v], .agg #[.int .i64 rx, .int .i64 ry, .int .i64 rw, .int .i64 rh]] w fun e w' => e = .returned (.tuple #[.agg #[.int .i64 0, .int .i64 0, .slice none 0 0], .int .i64 (gridErr a h cs)]) ∧ Below w.heap.size w w' := by
  obtain ⟨_, _, xr, kk, hsz⟩ := alloc3 w (.cells #[.int .i64 a, .int .i64 h, v] 24) (.cells #[.int .i64 rx, .int .i64 ry, .int .i64 rw, .int .i64 rh] 36) (.cells #[.int .i64 0, .int .i64 0, .slice none 0 0] 24)
  have HK := check_any a h v cs _ (Tab.next hT kk) (hS.below kk)
  generalize gridErr a h cs = er at *
  have ne : (er != 0) = true := by simpa using hok
  clear hok hT hS
  go_enter Tryd.func26, Tryd.ntmps26
  go_wp2_with fail
  refine HK.mono ?_
  rintro e W1 ⟨rfl, b1⟩
  have y2 := carry xr b1
  go_wp2_with (refine wpList_store_row rfl 24 (.tmp 4) _ rfl (w.heap.size + 2) #[.int .i64 0, .int .i64 0, .slice none 0 0] rfl rfl _ _ y2 (by kernel_rfl) rfl (one3v _ _ _ _ _) ?_)
  (try simp only [Exit.inBlock, Exit.then])
  refine bodyPost_ret (v := .tuple #[.agg #[.int .i64 0, .int .i64 0, .slice none 0 0], .int .i64 er]) ?_ rfl ⟨rfl, below_setRow (kk.trans (b1.mono kk.size)) (by omega) _⟩
  exact results_row_tmp rfl _ _ (w.heap.size + 2) _ _ _ _ rfl (setRow_heap _ _ _ _ _ _ y2) Tryd.underlying24 rfl (by kernel_rfl) _ rfl
set_option maxHeartbeats 1000000 in
theorem resize_bad1 (a h : Int) (v : Value) (cs : List C) (pw ph : Int) (w : World) (hT : Txt.Tab w) (hS : SliceAt w v cs) (hok : gridErr a h cs ≠ 0) :
    Calls Tryd.prog 27 #[.agg #[.int .i64 a, .int .i64 h, v], .int .i64 pw, .int .i64 ph] w fun e w' => e = .returned (.tuple #[.agg #[.int .i64 0, .int .i64 0, .slice none 0 0], .int .i64 (gridErr a h cs)]) ∧ Below w.heap.size w w' := by
  obtain ⟨_, xr, kk, hsz⟩ := alloc2' w (.cells #[.int .i64 a, .int .i64 h, v] 24) (.cells #[.int .i64 0, .int .i64 0, .slice none 0 0] 24)
  have HK := check_any a h v cs _ (Tab.next hT kk) (hS.below kk)
  generalize gridErr a h cs = er at *
  have ne : (er != 0) = true := by simpa using hok
  clear hok hT hS
  go_enter Tryd.func27, Tryd.ntmps27
  go_wp2_with fail
  refine HK.mono ?_
  rintro e W1 ⟨rfl, b1⟩
  have y2 := carry xr b1
  go_wp2_with (refine wpList_store_row rfl 24 (.tmp 6) _ rfl (w.heap.size + 1) #[.int .i64 0, .int .i64 0, .slice none 0 0] rfl rfl _ _ y2 (by kernel_rfl) rfl (one3v _ _ _ _ _) ?_)
  (try simp only [Exit.inBlock, Exit.then])
  refine bodyPost_ret (v := .tuple #[.agg #[.int .i64 0, .int .i64 0, .slice none 0 0], .int .i64 er]) ?_ rfl ⟨rfl, below_setRow (kk.trans (b1.mono kk.size)) (by omega) _⟩
  exact results_row_tmp rfl _ _ (w.heap.size + 1) _ _ _ _ rfl (setRow_heap _ _ _ _ _ _ y2) Tryd.underlying24 rfl (by kernel_rfl) _ rfl
set_option maxHeartbeats 1000000 in
theorem part_bad2 (m p : Nat) (v : Value) (fs : List C) (rx ry rw rh : Int) (w : World) (hT : Txt.Tab w) (hS : SliceAt w v fs) (hok : gridErr m p fs = 0) (hx0 : -9223372036854775808 ≤ rx) (hx1 : rx ≤ 9223372036854775807) (hy0 : -9223372036854775808 ≤ ry) (hy1 : ry ≤ 9223372036854775807) (hold : holdsI m p rx ry rw rh = false) :
    Calls Tryd.prog 26 #[.agg #[.int .i64 (m : Int), .int .i64 (p : Int), v], .agg #[.int .i64 rx, .int .i64 ry, .int .i64 rw, .int .i64 rh]] w fun e w' => e = .returned (.tuple #[.agg #[.int .i64 0, .int .i64 0, .slice none 0 0], .int .i64 4]) ∧ Below w.heap.size w w' := by
  obtain ⟨-, q1, q2, q3, q4, -, -⟩ := okRange m p fs hok
  obtain ⟨x0, x1, xr, kk, hsz⟩ := alloc3 w (.cells #[.int .i64 (m : Int), .int .i64 (p : Int), v] 24) (.cells #[.int .i64 rx, .int .i64 ry, .int .i64 rw, .int .i64 rh] 36) (.cells #[.int .i64 0, .int .i64 0, .slice none 0 0] 24)
  have HK := check_ok m p v fs _ (Tab.next hT kk) (hS.below kk) hok
  have HH : Hid (∀ W, Calls Tryd.prog 47 #[.agg #[.int .i64 (m : Int), .int .i64 (p : Int), v], .agg #[.int .i64 rx, .int .i64 ry, .int .i64 rw, .int .i64 rh]] W fun e w' => e = .returned (.bool false) ∧ Below W.heap.size W w') := fun W => by
    have := holds_any m p v rx ry rw rh W (by omega) (by omega) hx0 hx1 hy0 hy1
    rwa [hold] at this
  clear hok hT hS hold
  go_enter Tryd.func26, Tryd.ntmps26
  go_wp2_with fail
  refine HK.mono ?_
  rintro e W1 ⟨rfl, b1⟩
  have k1 := kk.trans (b1.mono kk.size)
  have y2 := carry xr b1
  obtain ⟨c0, c1, c2, _⟩ := cells3 (carry x0 b1)
  obtain ⟨d0, d1, d2, d3⟩ := cells4 (carry x1 b1)
  go_wp2_with fail
  refine (HH.out _).mono ?_
  rintro e W2 ⟨rfl, b2⟩
  have z2 := carry y2 b2
  go_wp2_with (refine wpList_store_row rfl 24 (.tmp 4) _ rfl (w.heap.size + 2) #[.int .i64 0, .int .i64 0, .slice none 0 0] rfl rfl _ _ z2 (by kernel_rfl) rfl (one3v _ _ _ _ _) ?_)
  (try simp only [Exit.inBlock, Exit.then])
  refine bodyPost_ret (v := .tuple #[.agg #[.int .i64 0, .int .i64 0, .slice none 0 0], .int .i64 4]) ?_ rfl ⟨rfl, below_setRow (k1.trans (b2.mono k1.size)) (by omega) _⟩
  exact results_row_tmp rfl _ _ (w.heap.size + 2) _ _ _ _ rfl (setRow_heap _ _ _ _ _ _ z2) Tryd.underlying24 rfl (by kernel_rfl) _ rfl
set_option maxHeartbeats 4000000 in
theorem part_good (m p b o cx rx ry n hh : Nat) (fs : List C) (w : World) (hT : Txt.Tab w) (hC : CellsAt w b o fs) (hl : fs.length ≤ cx) (hm : cx ≤ 9223372036854775807) (hok : gridErr m p fs = 0) (hn : 1 ≤ n) (hh1 : 1 ≤ hh) (hxn : rx + n ≤ m) (hyh : ry + hh ≤ p) :
    Calls Tryd.prog 26 #[.agg #[.int .i64 (m : Int), .int .i64 (p : Int), .slice (some ⟨b, o, none⟩) fs.length cx], .agg #[.int .i64 (rx : Int), .int .i64 (ry : Int), .int .i64 (n : Int), .int .i64 (hh : Int)]] w fun e w' => ∃ v, e = .returned (.tuple #[.agg #[.int .i64 (n : Int), .int .i64 (hh : Int), v], .int .i64 0]) ∧ OwnG w' w.heap.size v (layG n hh (newL n hh) m p fs (-(rx : Int)) (-(ry : Int))) ∧ Below w.heap.size w w' := by
  obtain ⟨-, q1, q2, q3, q4, -, hne⟩ := okRange m p fs hok
  have hS : SliceAt w (.slice (some ⟨b, o, none⟩) fs.length cx) fs := .inr ⟨hne, b, o, cx, rfl, hl, hm, hC⟩
  obtain ⟨x0, x1, xr, kk, hsz⟩ := alloc3 w (.cells #[.int .i64 (m : Int), .int .i64 (p : Int), .slice (some ⟨b, o, none⟩) fs.length cx] 24) (.cells #[.int .i64 (rx : Int), .int .i64 (ry : Int), .int .i64 (n : Int), .int .i64 (hh : Int)] 36) (.cells #[.int .i64 0, .int .i64 0, .slice none 0 0] 24)
  have HK := check_ok m p _ fs _ (Tab.next hT kk) (hS.below kk) hok
  have HH : Hid (∀ W, Calls Tryd.prog 47 #[.agg #[.int .i64 (m : Int), .int .i64 (p : Int), .slice (some ⟨b, o, none⟩) fs.length cx], .agg #[.int .i64 (rx : Int), .int .i64 (ry : Int), .int .i64 (n : Int), .int .i64 (hh : Int)]] W fun e w' => e = .returned (.bool true) ∧ Below W.heap.size W w') := fun W => by
    have := holds_any m p (.slice (some ⟨b, o, none⟩) fs.length cx) rx ry n hh W (by omega) (by omega) (by omega) (by omega) (by omega) (by omega)
    have e : holdsI m p rx ry n hh = true := by unfold holdsI; rw [decide_eq_true_eq]; omega
    rwa [e] at this
  have HLN : Hid (∀ W, Below w.heap.size w W → Calls Tryd.prog 49 #[.agg #[.int .i64 (m : Int), .int .i64 (p : Int), .slice (some ⟨b, o, none⟩) fs.length cx], .int .i64 (n : Int), .int .i64 (hh : Int), .int .i64 (-(rx : Int)), .int .i64 (-(ry : Int))] W fun e w' => ∃ v, e = .returned (.tuple #[.agg #[.int .i64 (n : Int), .int .i64 (hh : Int), v], .int .i64 0]) ∧ OwnG w' W.heap.size v (layG n hh (newL n hh) m p fs (-(rx : Int)) (-(ry : Int))) ∧ Below W.heap.size W w') := fun W k =>
    lon_good m p b o cx n hh (-(rx : Int)) (-(ry : Int)) fs W (Tab.next hT k) (hC.below k) hok hl hm (by unfold isSize; rw [decide_eq_true_eq]; omega) (by omega) (by omega) (by omega) (by omega)
  generalize layG n hh (newL n hh) m p fs (-(rx : Int)) (-(ry : Int)) = res at HLN ⊢
  clear hok hT hS hC
  go_enter Tryd.func26, Tryd.ntmps26
  go_wp2_with fail
  refine HK.mono ?_
  rintro e W1 ⟨rfl, b1⟩
  have k1 := kk.trans (b1.mono kk.size)
  have y0 := carry x0 b1
  have y1 := carry x1 b1
  have y2 := carry xr b1
  obtain ⟨c0, c1, c2, _⟩ := cells3 y0
  obtain ⟨d0, d1, d2, d3⟩ := cells4 y1
  go_wp2_with fail
  refine (HH.out _).mono ?_
  rintro e W2 ⟨rfl, b2⟩
  have k2 := k1.trans (b2.mono k1.size)
  have z2 := carry y2 b2
  clear c0 c1 c2 d0 d1 d2 d3
  obtain ⟨c0, c1, c2, _⟩ := cells3 (carry y0 b2)
  obtain ⟨d0, d1, d2, d3⟩ := cells4 (carry y1 b2)
  go_wp2_with fail
  refine (HLN.out _ k2).mono ?_
  rintro e W3 ⟨_, rfl, ⟨g, cap, rest, t, rfl, hgb, hlc, hcm, hgh⟩, b3⟩
  have k3 := k2.trans (b3.mono k2.size)
  have u2 := carry z2 b3
  have hN2 : w.heap.size + 2 < W2.heap.size := blk_lt z2
  go_wp2_with (refine wpList_store_row rfl 24 (.tmp 4) _ rfl (w.heap.size + 2) #[.int .i64 (n : Int), .int .i64 (hh : Int), .slice (some ⟨g, 0, none⟩) res.length cap] rfl rfl _ _ u2 (by kernel_rfl) rfl (one3v _ _ _ _ _) ?_)
  (try simp only [Exit.inBlock, Exit.then])
  refine bodyPost_ret (v := .tuple #[.agg #[.int .i64 (n : Int), .int .i64 (hh : Int), .slice (some ⟨g, 0, none⟩) res.length cap], .int .i64 0]) ?_ rfl ⟨_, rfl, ⟨g, cap, rest, t, rfl, by omega, hlc, hcm, ?_⟩, below_setRow k3 (by omega) _⟩
  · exact results_row_tmp rfl _ _ (w.heap.size + 2) _ _ _ _ rfl (setRow_heap _ _ _ _ _ _ u2) Tryd.underlying24 rfl (by kernel_rfl) _ rfl
  · rw [setRow_other _ _ _ _ (by omega)]
    exact hgh
set_option maxHeartbeats 1000000 in
theorem resize_bad2 (m p : Nat) (v : Value) (fs : List C) (pw ph : Int) (w : World) (hT : Txt.Tab w) (hS : SliceAt w v fs) (hok : gridErr m p fs = 0) (hs : isSize pw ph = false) :
    Calls Tryd.prog 27 #[.agg #[.int .i64 (m : Int), .int .i64 (p : Int), v], .int .i64 pw, .int .i64 ph] w fun e w' => e = .returned (.tuple #[.agg #[.int .i64 0, .int .i64 0, .slice none 0 0], .int .i64 3]) ∧ Below w.heap.size w w' := by
  obtain ⟨x0, xr, kk, hsz⟩ := alloc2' w (.cells #[.int .i64 (m : Int), .int .i64 (p : Int), v] 24) (.cells #[.int .i64 0, .int .i64 0, .slice none 0 0] 24)
  have HK := check_ok m p v fs _ (Tab.next hT kk) (hS.below kk) hok
  clear hok hT hS
  go_enter Tryd.func27, Tryd.ntmps27
  go_wp2_with fail
  refine HK.mono ?_
  rintro e W1 ⟨rfl, b1⟩
  have k1 := kk.trans (b1.mono kk.size)
  have y2 := carry xr b1
  obtain ⟨c0, c1, c2, _⟩ := cells3 (carry x0 b1)
  go_wp2_with fail
  refine (lon_bad m p pw ph 0 0 v _ hs).mono ?_
  rintro e W2 ⟨rfl, b2⟩
  have z2 := carry y2 b2
  go_wp2_with (refine wpList_store_row rfl 24 (.tmp 6) _ rfl (w.heap.size + 1) #[.int .i64 0, .int .i64 0, .slice none 0 0] rfl rfl _ _ z2 (by kernel_rfl) rfl (one3v _ _ _ _ _) ?_)
  (try simp only [Exit.inBlock, Exit.then])
  refine bodyPost_ret (v := .tuple #[.agg #[.int .i64 0, .int .i64 0, .slice none 0 0], .int .i64 3]) ?_ rfl ⟨rfl, below_setRow (k1.trans (b2.mono k1.size)) (by omega) _⟩
  exact results_row_tmp rfl _ _ (w.heap.size + 1) _ _ _ _ rfl (setRow_heap _ _ _ _ _ _ z2) Tryd.underlying24 rfl (by kernel_rfl) _ rfl
set_option maxHeartbeats 4000000 in
theorem resize_good (m p b o cx n hh : Nat) (fs : List C) (w : World) (hT : Txt.Tab w) (hC : CellsAt w b o fs) (hl : fs.length ≤ cx) (hm : cx ≤ 9223372036854775807) (hok : gridErr m p fs = 0) (hs : isSize n hh = true) :
    Calls Tryd.prog 27 #[.agg #[.int .i64 (m : Int), .int .i64 (p : Int), .slice (some ⟨b, o, none⟩) fs.length cx], .int .i64 (n : Int), .int .i64 (hh : Int)] w fun e w' => ∃ v, e = .returned (.tuple #[.agg #[.int .i64 (n : Int), .int .i64 (hh : Int), v], .int .i64 0]) ∧ OwnG w' w.heap.size v (layG n hh (newL n hh) m p fs 0 0) ∧ Below w.heap.size w w' := by
  obtain ⟨-, q1, q2, q3, q4, -, hne⟩ := okRange m p fs hok
  have hS : SliceAt w (.slice (some ⟨b, o, none⟩) fs.length cx) fs := .inr ⟨hne, b, o, cx, rfl, hl, hm, hC⟩
  obtain ⟨x0, xr, kk, hsz⟩ := alloc2' w (.cells #[.int .i64 (m : Int), .int .i64 (p : Int), .slice (some ⟨b, o, none⟩) fs.length cx] 24) (.cells #[.int .i64 0, .int .i64 0, .slice none 0 0] 24)
  have HK := check_ok m p _ fs _ (Tab.next hT kk) (hS.below kk) hok
  have HLN : Hid (∀ W, Below w.heap.size w W → Calls Tryd.prog 49 #[.agg #[.int .i64 (m : Int), .int .i64 (p : Int), .slice (some ⟨b, o, none⟩) fs.length cx], .int .i64 (n : Int), .int .i64 (hh : Int), .int .i64 0, .int .i64 0] W fun e w' => ∃ v, e = .returned (.tuple #[.agg #[.int .i64 (n : Int), .int .i64 (hh : Int), v], .int .i64 0]) ∧ OwnG w' W.heap.size v (layG n hh (newL n hh) m p fs 0 0) ∧ Below W.heap.size W w') := fun W k =>
    lon_good m p b o cx n hh 0 0 fs W (Tab.next hT k) (hC.below k) hok hl hm hs (by omega) (by omega) (by omega) (by omega)
  generalize layG n hh (newL n hh) m p fs 0 0 = res at HLN ⊢
  clear hok hT hS hC hs
  go_enter Tryd.func27, Tryd.ntmps27
  go_wp2_with fail
  refine HK.mono ?_
  rintro e W1 ⟨rfl, b1⟩
  have k1 := kk.trans (b1.mono kk.size)
  have y2 := carry xr b1
  obtain ⟨c0, c1, c2, _⟩ := cells3 (carry x0 b1)
  go_wp2_with fail
  refine (HLN.out _ k1).mono ?_
  rintro e W3 ⟨_, rfl, ⟨g, cap, rest, t, rfl, hgb, hlc, hcm, hgh⟩, b3⟩
  have k3 := k1.trans (b3.mono k1.size)
  have u2 := carry y2 b3
  have hN2 : w.heap.size + 1 < W1.heap.size := blk_lt y2
  go_wp2_with (refine wpList_store_row rfl 24 (.tmp 6) _ rfl (w.heap.size + 1) #[.int .i64 (n : Int), .int .i64 (hh : Int), .slice (some ⟨g, 0, none⟩) res.length cap] rfl rfl _ _ u2 (by kernel_rfl) rfl (one3v _ _ _ _ _) ?_)
  (try simp only [Exit.inBlock, Exit.then])
  refine bodyPost_ret (v := .tuple #[.agg #[.int .i64 (n : Int), .int .i64 (hh : Int), .slice (some ⟨g, 0, none⟩) res.length cap], .int .i64 0]) ?_ rfl ⟨_, rfl, ⟨g, cap, rest, t, rfl, by omega, hlc, hcm, ?_⟩, below_setRow k3 (by omega) _⟩
  · exact results_row_tmp rfl _ _ (w.heap.size + 1) _ _ _ _ rfl (setRow_heap _ _ _ _ _ _ u2) Tryd.underlying24 rfl (by kernel_rfl) _ rfl
  · rw [setRow_other _ _ _ _ (by omega)]
    exact hgh
end Grd
end Go.Proofs.YtinhmklpnkikgaaDoor

/- Plain mathematics on the runes of a text, over the model's own decoding of UTF-8: no program is named. -/
namespace Go.Proofs.YtinhmklpnkikgaaDoor
namespace Txt

/-- The runes of s from place pos on, each with how many bytes it takes; at most so many. -/
def rs (s : ByteArray) : Nat → Nat → List (Int × Nat)
  | 0, _ => []
  | f + 1, pos => if pos < s.size then (((Utf8.decode s pos).1 : Int), (Utf8.decode s pos).2) :: rs s f (pos + (Utf8.decode s pos).2) else []
def runes (s : ByteArray) : List (Int × Nat) := rs s s.size 0
def wideL : List (Int × Nat) → Int
  | [] => 0
  | x :: t => wd x.1 + wideL t
def wideS (s : ByteArray) : Int := wideL (runes s)
/-- How many bytes of a text's runes are left when it is cut: 'w' cells have been taken. -/
def cutL (n : Int) : List (Int × Nat) → Int → Nat
  | [], _ => 0
  | x :: t, w => if n < w + wd x.1 then 0 else x.2 + cutL n t (w + wd x.1)
def cutS (s : ByteArray) (n : Int) : List UInt8 := s.data.toList.take (cutL n (runes s) 0)

end Txt
end Go.Proofs.YtinhmklpnkikgaaDoor

/- The walk of grid.Write: what is refused. -/
namespace Go.Proofs.YtinhmklpnkikgaaDoor
open Go.ChangeShapes Go.WideShapes Go.ChangeAt Go.RowKit
namespace Grd
open Txt (wd)
open Sty (isSt)
end Grd
end Go.Proofs.YtinhmklpnkikgaaDoor

/- The walk of grid.Write: a right place and a right style. -/
namespace Go.Proofs.YtinhmklpnkikgaaDoor
open Go.ChangeShapes Go.WideShapes Go.ChangeAt Go.RowKit
namespace Grd
open Txt (wd)
open Sty (isSt)
def writeF (X Y : Nat) (l : List (Int × Nat)) (look : Int × Int × Int) (y : Nat) (row : List C) : List C := if y = Y then mendL (writeR look l row X) else row
def writeG (n hh : Nat) (cs : List C) (X Y : Nat) (l : List (Int × Nat)) (look : Int × Int × Int) : List C := preF n cs (writeF X Y l look) hh
/-- A store of one cell, the world behind it a name. -/
end Grd
end Go.Proofs.YtinhmklpnkikgaaDoor

/- Plain mathematics: what is filled, written, laid or cut is a right grid; what was laid is there again. -/
namespace Go.Proofs.YtinhmklpnkikgaaDoor
namespace Grd
open Txt (wd)
open Sty (isSt)
theorem right_preF (n hh : Nat) (cs : List C) (f : Nat → List C → List C) (hs : isSize n hh = true) (hL : cs.length = n * hh) (hf : KeepLen n f) (h : ∀ y, y < hh → RightRow (f y (rowAt n cs y))) : gridErr n hh (preF n cs f hh) = 0 := by
  rw [gridErr_zero]
  refine ⟨hs, by rw [preF_len n hh cs f hL hf hh (Nat.le_refl _), Nat.mul_comm], fun y hy => ?_⟩
  rw [rowAt_preF n hh cs f hL hf y hh hy (Nat.le_refl _)]
  exact h y hy
theorem right_fill (n hh : Nat) (cs : List C) (rx ry rw rh : Int) (c : C) (hok : gridErr n hh cs = 0) (hw : wd c.1 = 1) (hs : isSt c.2 = true) : gridErr n hh (fillG n hh cs rx ry rw rh c) = 0 := by
  obtain ⟨h1, h2, h3⟩ := (gridErr_zero n hh cs).1 hok
  refine right_preF n hh cs _ h1 h2 (fillF_len n hh rx ry rw rh c) fun y hy => ?_
  unfold fillF
  split
  · exact mend_right _ (meant_fill _ _ c (h3 y hy).1 hw hs)
  · exact h3 y hy
theorem right_write (n hh : Nat) (cs : List C) (X Y : Nat) (l : List (Int × Nat)) (look : Int × Int × Int) (hok : gridErr n hh cs = 0) (hs : isSt look = true) : gridErr n hh (writeG n hh cs X Y l look) = 0 := by
  obtain ⟨h1, h2, h3⟩ := (gridErr_zero n hh cs).1 hok
  refine right_preF n hh cs _ h1 h2 (writeF_len n X Y l look) fun y hy => ?_
  unfold writeF
  split
  · exact mend_right _ (meant_write look hs l _ X (h3 y hy).1)
  · exact h3 y hy
theorem right_lay (n hh m p : Nat) (cs fs : List C) (X Y : Int) (hok : gridErr n hh cs = 0) (hok2 : gridErr m p fs = 0) : gridErr n hh (layG n hh cs m p fs X Y) = 0 := by
  obtain ⟨h1, h2, h3⟩ := (gridErr_zero n hh cs).1 hok
  obtain ⟨_, g2, g3⟩ := (gridErr_zero m p fs).1 hok2
  refine right_preF n hh cs _ h1 h2 (layFn_len n m p fs X Y) fun y hy => ?_
  unfold layFn
  split
  · rename_i hc
    have hq : ((y : Int) - Y).toNat < p := by omega
    have := meant_lay (rowAt n cs y) (rowAt m fs ((y : Int) - Y).toNat) X (h3 y hy).1 (g3 _ hq)
    rw [row_len m p fs _ g2 hq] at this
    exact mend_right _ this
  · exact h3 y hy
theorem right_new (n hh : Nat) (hs : isSize n hh = true) : gridErr n hh (newL n hh) = 0 := by
  rw [gridErr_zero]
  refine ⟨hs, newL_len n hh, fun y hy => ?_⟩
  unfold newL blank
  rw [rowAt_replicate n hh y _ hy]
  exact replicate_right n
theorem preF_rows (n : Nat) (cs ds : List C) (f : Nat → List C → List C) : ∀ k, (∀ y, y < k → f y (rowAt n cs y) = rowAt n ds y) → preF n cs f k = ds.take (k * n)
  | 0, _ => by simp [preF]
  | k + 1, h => by
    show preF n cs f k ++ f k (rowAt n cs k) = _
    rw [preF_rows n cs ds f k (fun y hy => h y (by omega)), h k (by omega), take_row]
/-- What was laid wholly within is there again. -/
theorem lay_back (n hh m p : Nat) (cs fs : List C) (X Y : Nat) (hok : gridErr n hh cs = 0) (hok2 : gridErr m p fs = 0) (hX : X + m ≤ n) (hY : Y + p ≤ hh) :
    layG m p (newL m p) n hh (layG n hh cs m p fs X Y) (-(X : Int)) (-(Y : Int)) = fs := by
  obtain ⟨h1, h2, h3⟩ := (gridErr_zero n hh cs).1 hok
  obtain ⟨g1, g2, g3⟩ := (gridErr_zero m p fs).1 hok2
  have hp := preF_rows m (newL m p) fs (layFn n hh (layG n hh cs m p fs X Y) (-(X : Int)) (-(Y : Int))) p (fun y hy => by
    have hfl := row_len m p fs y g2 hy
    have hnl := row_len m p (newL m p) y (newL_len m p) hy
    have hcl := row_len n hh cs (y + Y) h2 (by omega)
    obtain ⟨fm, fl⟩ := g3 y hy
    have hz : rowAt n (layG n hh cs m p fs X Y) (y + Y) = mendL (putRow (rowAt n cs (y + Y)) (layP m X) (layF (rowAt m fs y) X)) := by
      unfold layG
      rw [rowAt_preF n hh cs _ h2 (layFn_len n m p fs X Y) (y + Y) hh (by omega) (Nat.le_refl _)]
      unfold layFn
      rw [if_pos (by omega)]
      congr 3
      congr 1
      omega
    unfold layFn
    rw [if_pos (by omega)]
    have he : ((y : Int) - -(Y : Int)).toNat = y + Y := by omega
    rw [he, hz]
    generalize rowAt m fs y = fr at *
    generalize rowAt n cs (y + Y) = cr at *
    generalize rowAt m (newL m p) y = nr at *
    have hq : ∀ x, x < m → (putRow cr (layP m X) (layF fr X)).getD (X + x) z0 = fr.getD x z0 := fun x hx => by
      rw [putRow_at _ _ _ _ (by omega), if_pos (by unfold layP; rw [decide_eq_true_eq]; omega)]
      unfold layF
      congr 1
      omega
    have hlo : ∀ x, x < m → loose (putRow cr (layP m X) (layF fr X)) (X + x) = false := fun x hx => by
      have hf := fl x (by omega)
      unfold loose at hf ⊢
      rw [hq x hx, putRow_len, hcl]
      by_cases hr : (fr.getD x z0).1 = 0
      · rw [if_pos hr] at hf ⊢
        simp only [Bool.or_eq_false_iff, decide_eq_false_iff_not, Decidable.not_not] at hf ⊢
        have := hq (x - 1) (by omega)
        rw [show X + (x - 1) = X + x - 1 by omega] at this
        rw [this]
        exact ⟨by omega, hf.2⟩
      · rw [if_neg hr] at hf ⊢
        by_cases hw : wd (fr.getD x z0).1 = 2
        · simp only [hw, decide_true, Bool.true_and, Bool.or_eq_false_iff, decide_eq_false_iff_not, Decidable.not_not] at hf ⊢
          have := hq (x + 1) (by omega)
          rw [show X + (x + 1) = X + x + 1 by omega] at this
          rw [this]
          exact ⟨by omega, hf.2⟩
        · simp [hw, -List.getD_eq_getElem?_getD]
    have hput : putRow nr (layP n (-(X : Int))) (layF (mendL (putRow cr (layP m X) (layF fr X))) (-(X : Int))) = fr := by
      refine ext_getD _ _ (by rw [putRow_len, hnl, hfl]) fun x hx => ?_
      rw [putRow_len, hnl] at hx
      rw [putRow_at _ _ _ _ (by omega), if_pos (by unfold layP; rw [decide_eq_true_eq]; omega)]
      unfold layF
      have e : ((x : Int) - -(X : Int)).toNat = X + x := by omega
      rw [e, mendL_eq, mendM_at _ _ (by rw [putRow_len]; omega)]
      have hl2 := hlo x hx
      have hq2 := hq x hx
      unfold layF at hl2 hq2
      rw [hl2, hq2]
      rfl
    rw [hput]
    exact mendL_fix _ fl)
  show preF m (newL m p) (layFn n hh (layG n hh cs m p fs X Y) (-(X : Int)) (-(Y : Int))) p = fs
  rw [hp, List.take_of_length_le (by rw [g2, Nat.mul_comm]; exact Nat.le_refl _)]
end Grd
end Go.Proofs.YtinhmklpnkikgaaDoor

/- Plain mathematics: a part of a grid, row by row. -/
namespace Go.Proofs.YtinhmklpnkikgaaDoor
namespace Grd
/-- A part of a row. -/
def cutRow (m rx n : Nat) (fs : List C) (y : Nat) : List C := ((rowAt m fs y).drop rx).take n
/-- The first k rows of a part, each mended. -/
def partRows (m rx ry n : Nat) (fs : List C) (k : Nat) : List (List C) := (List.range k).map fun i => mendL (cutRow m rx n fs (ry + i))
theorem partRows_succ (m rx ry n : Nat) (fs : List C) (k : Nat) : partRows m rx ry n fs (k + 1) = partRows m rx ry n fs k ++ [mendL (cutRow m rx n fs (ry + k))] := by simp [partRows, List.range_succ]
theorem partRows_len (m rx ry n : Nat) (fs : List C) (k : Nat) : (partRows m rx ry n fs k).length = k := by simp [partRows]
theorem cutRow_len (m p rx n : Nat) (fs : List C) (y : Nat) (hL : fs.length = m * p) (hy : y < p) (hx : rx + n ≤ m) : (cutRow m rx n fs y).length = n := by
  unfold cutRow
  rw [List.length_take, List.length_drop, row_len m p fs y hL hy]
  omega
theorem partRows_at (m p rx ry n hh : Nat) (fs : List C) (hL : fs.length = m * p) (hx : rx + n ≤ m) (hy : ry + hh ≤ p) (i : Nat) (hi : i < (partRows m rx ry n fs hh).length) : ((partRows m rx ry n fs hh).getD i []).length = n := by
  rw [partRows_len] at hi
  have : (partRows m rx ry n fs hh).getD i [] = mendL (cutRow m rx n fs (ry + i)) := by simp [partRows, List.getD, hi]
  rw [this, mendL_len, cutRow_len m p rx n fs _ hL (by omega) hx]
theorem put_cut (row fr : List C) (m rx n : Nat) (hr : row.length = n) (hf : fr.length = m) (hx : rx + n ≤ m) : putRow row (layP m (-(rx : Int))) (layF fr (-(rx : Int))) = (fr.drop rx).take n := by
  refine List.ext_getElem ?_ fun x h1 h2 => ?_
  · rw [putRow_len, List.length_take, List.length_drop]
    omega
  · rw [putRow_len] at h1
    have e := putRow_at row (layP m (-(rx : Int))) (layF fr (-(rx : Int))) x h1
    have hp : layP m (-(rx : Int)) x = true := by unfold layP; rw [decide_eq_true_eq]; omega
    rw [hp, if_pos rfl] at e
    have hi : ((x : Int) - -(rx : Int)).toNat = rx + x := by omega
    unfold layF at e
    rw [hi] at e
    have hlt : rx + x < fr.length := by omega
    have l2 : (putRow row (layP m (-(rx : Int))) (layF fr (-(rx : Int)))).getD x z0 = (putRow row (layP m (-(rx : Int))) (layF fr (-(rx : Int))))[x]'(by rw [putRow_len]; exact h1) := by
      rw [List.getD, List.getElem?_eq_getElem (by rw [putRow_len]; exact h1)]
      rfl
    have l3 : fr.getD (rx + x) z0 = fr[rx + x] := by
      rw [List.getD, List.getElem?_eq_getElem hlt]
      rfl
    have e2 := l2.symm.trans (e.trans l3)
    refine e2.trans ?_
    rw [List.getElem_take, List.getElem_drop]
theorem part_rows (m p rx ry n hh : Nat) (fs : List C) (hL : fs.length = m * p) (hx : rx + n ≤ m) (hy : ry + hh ≤ p) : layG n hh (newL n hh) m p fs (-(rx : Int)) (-(ry : Int)) = (partRows m rx ry n fs hh).flatten := by
  have key : ∀ k, k ≤ hh → preF n (newL n hh) (layFn m p fs (-(rx : Int)) (-(ry : Int))) k = (partRows m rx ry n fs k).flatten := by
    intro k
    induction k with
    | zero => intro _; simp [preF, partRows]
    | succ k ih =>
      intro hk
      show preF n (newL n hh) (layFn m p fs (-(rx : Int)) (-(ry : Int))) k ++ layFn m p fs (-(rx : Int)) (-(ry : Int)) k (rowAt n (newL n hh) k) = _
      rw [ih (by omega), partRows_succ, List.flatten_append]
      congr 1
      have hi : ((k : Int) - -(ry : Int)).toNat = ry + k := by omega
      unfold layFn
      rw [if_pos (by omega), hi, put_cut _ _ m rx n (row_len n hh _ k (newL_len n hh) (by omega)) (row_len m p fs _ hL (by omega)) hx]
      simp [cutRow]
  exact key hh (Nat.le_refl _)
end Grd
end Go.Proofs.YtinhmklpnkikgaaDoor

/- slices.Equal and SameGrid of cells of any number; slices.Clone of any cells; own. -/
namespace Go.Proofs.YtinhmklpnkikgaaDoor
open Go.ChangeShapes Go.WideShapes Go.ChangeAt Go.RowKit
namespace Grd
set_option maxHeartbeats 1000000 in
/-- SameGrid of two grids that read alike. -/
end Grd
end Go.Proofs.YtinhmklpnkikgaaDoor

/- The walk of the reference's CheckGrid. -/
namespace Go.Proofs.YtinhmklpnkikgaaDoor
open Go.ChangeShapes Go.WideShapes Go.ChangeAt Go.RowKit
namespace Grd
open Txt (wd)
open Sty (isSt)
end Grd
end Go.Proofs.YtinhmklpnkikgaaDoor

/- The reference's CheckGrid, its answer named. -/
namespace Go.Proofs.YtinhmklpnkikgaaDoor
open Go.ChangeShapes Go.WideShapes Go.ChangeAt Go.RowKit
namespace Grd
end Grd
end Go.Proofs.YtinhmklpnkikgaaDoor
