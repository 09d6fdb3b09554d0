/- The walk of grid.Lay. -/
import Derived.Test.YtinhmklpnkikgaaDoorPartF
import Derived.Deep.RegionHeld3
import Derived.Test.YtinhmklpnkikgaaDoorPartD
import Derived.Lib.OthersKept
import Derived.BigQuiet
namespace Go.Proofs.YtinhmklpnkikgaaDoor
open Go.ChangeShapes Go.WideShapes Go.ChangeAt Go.RowKit
namespace Grd
theorem var_newL (W : World) (T : TypeId) (z cs : Array Value) : ((W.alloc (.cells z T)).setRow W.heap.size cs).heap[W.heap.size]? = some (.cells cs T (0, 0)) ∧ Below W.heap.size W ((W.alloc (.cells z T)).setRow W.heap.size cs) :=
  ⟨setRow_heap _ _ _ _ _ _ (heap_alloc_new _ _), below_setRow ((Below.refl _ _).alloc (Nat.le_refl _) _) (Nat.le_refl _) _⟩
theorem okRange (n hh : Nat) (cs : List C) (hok : gridErr n hh cs = 0) : cs.length = n * hh ∧ 1 ≤ n ∧ n ≤ 120 ∧ 1 ≤ hh ∧ hh ≤ 60 ∧ cs.length ≤ 7200 ∧ cs ≠ [] := by
  obtain ⟨hsize, hL, _⟩ := (gridErr_zero n hh cs).1 hok
  have ⟨_, p1, p2, p3, p4, p5⟩ := prod_in n hh hsize
  have h7 : cs.length ≤ 7200 := by
    have : ((n * hh : Nat) : Int) ≤ 7200 := by rw [Int.natCast_mul]; exact p1
    omega
  refine ⟨hL, by omega, by omega, by omega, by omega, h7, fun h => ?_⟩
  rw [h, List.length_nil] at hL
  have : 0 < n * hh := Nat.mul_pos (by omega) (by omega)
  omega
theorem slice_block {w : World} {b o : Nat} {cs : List C} (h : CellsAt w b o cs) (hne : cs ≠ []) : b < w.heap.size :=
  World.block_lt_of_cell? w _ (h 0 (List.length_pos_iff.2 hne)).1
set_option maxHeartbeats 1000000 in
theorem lay_bad1 (a1 h1 a2 h2 px py : Int) (v1 v2 : Value) (fs : List C) (w : World) (hT : Txt.Tab w) (hS : SliceAt w v1 fs) (hok : gridErr a1 h1 fs ≠ 0) :
    Calls Tryd.prog 24 #[.agg #[.int .i64 a1, .int .i64 h1, v1], .agg #[.int .i64 a2, .int .i64 h2, v2], .int .i64 px, .int .i64 py] w fun e w' => e = .returned (.tuple #[.agg #[.int .i64 0, .int .i64 0, .slice none 0 0], .int .i64 (gridErr a1 h1 fs)]) ∧ Below w.heap.size w w' := by
  obtain ⟨_, _, x2, kk, hsz⟩ := alloc3 w (.cells #[.int .i64 a1, .int .i64 h1, v1] 24) (.cells #[.int .i64 a2, .int .i64 h2, v2] 24) (.cells #[.int .i64 0, .int .i64 0, .slice none 0 0] 24)
  have HK := check_any a1 h1 v1 fs _ (Tab.next hT kk) (hS.below kk)
  generalize gridErr a1 h1 fs = er at *
  have ne : (er != 0) = true := by simpa using hok
  clear hok hT hS
  go_enter Tryd.func24, Tryd.ntmps24
  go_wp2_with fail
  refine HK.mono ?_
  rintro e W1 ⟨rfl, b1⟩
  have y2 := carry x2 b1
  go_wp2_with (refine wpList_store_row rfl 24 (.tmp 8) _ rfl (w.heap.size + 2) #[.int .i64 0, .int .i64 0, .slice none 0 0] rfl rfl _ _ y2 (by kernel_rfl) rfl (one3v _ _ _ _ _) ?_)
  (try simp only [Exit.inBlock, Exit.then])
  refine bodyPost_ret (v := .tuple #[.agg #[.int .i64 0, .int .i64 0, .slice none 0 0], .int .i64 er]) ?_ rfl ⟨rfl, below_setRow (kk.trans (b1.mono kk.size)) (by omega) _⟩
  exact results_row_tmp rfl _ _ (w.heap.size + 2) _ _ _ _ rfl (setRow_heap _ _ _ _ _ _ y2) Tryd.underlying24 rfl (by kernel_rfl) _ rfl
set_option maxHeartbeats 1000000 in
theorem lay_bad2 (a1 h1 a2 h2 px py : Int) (v1 v2 : Value) (fs cs : List C) (w : World) (hT : Txt.Tab w) (hS : SliceAt w v1 fs) (hS2 : SliceAt w v2 cs) (hok : gridErr a1 h1 fs = 0) (hok2 : gridErr a2 h2 cs ≠ 0) :
    Calls Tryd.prog 24 #[.agg #[.int .i64 a1, .int .i64 h1, v1], .agg #[.int .i64 a2, .int .i64 h2, v2], .int .i64 px, .int .i64 py] w fun e w' => e = .returned (.tuple #[.agg #[.int .i64 0, .int .i64 0, .slice none 0 0], .int .i64 (gridErr a2 h2 cs)]) ∧ Below w.heap.size w w' := by
  obtain ⟨_, x1, x2, kk, hsz⟩ := alloc3 w (.cells #[.int .i64 a1, .int .i64 h1, v1] 24) (.cells #[.int .i64 a2, .int .i64 h2, v2] 24) (.cells #[.int .i64 0, .int .i64 0, .slice none 0 0] 24)
  have HK := check_ok a1 h1 v1 fs _ (Tab.next hT kk) (hS.below kk) hok
  have HK2 : Hid (∀ W, Below w.heap.size w W → Calls Tryd.prog 11 #[.agg #[.int .i64 a2, .int .i64 h2, v2]] W fun e w' => e = .returned (.int .i64 (gridErr a2 h2 cs)) ∧ Below W.heap.size W w') := fun W k => check_any a2 h2 v2 cs W (Tab.next hT k) (hS2.below k)
  generalize gridErr a2 h2 cs = er at *
  have ne : (er != 0) = true := by simpa using hok2
  clear hok hok2 hT hS hS2
  go_enter Tryd.func24, Tryd.ntmps24
  go_wp2_with fail
  refine HK.mono ?_
  rintro e W1 ⟨rfl, b1⟩
  have k1 := kk.trans (b1.mono kk.size)
  have y2 := carry x2 b1
  obtain ⟨c0, c1, c2, _⟩ := cells3 (carry x1 b1)
  go_wp2_with fail
  refine (HK2.out _ k1).mono ?_
  rintro e W2 ⟨rfl, b2⟩
  have z2 := carry y2 b2
  go_wp2_with (refine wpList_store_row rfl 24 (.tmp 8) _ rfl (w.heap.size + 2) #[.int .i64 0, .int .i64 0, .slice none 0 0] rfl rfl _ _ z2 (by kernel_rfl) rfl (one3v _ _ _ _ _) ?_)
  (try simp only [Exit.inBlock, Exit.then])
  refine bodyPost_ret (v := .tuple #[.agg #[.int .i64 0, .int .i64 0, .slice none 0 0], .int .i64 er]) ?_ rfl ⟨rfl, below_setRow (k1.trans (b2.mono k1.size)) (by omega) _⟩
  exact results_row_tmp rfl _ _ (w.heap.size + 2) _ _ _ _ rfl (setRow_heap _ _ _ _ _ _ z2) Tryd.underlying24 rfl (by kernel_rfl) _ rfl
set_option maxHeartbeats 4000000 in
theorem lay_good (m p b1 o1 c1 n hh b2 o2 c2 : Nat) (px py : Int) (fs cs : List C) (w : World) (hT : Txt.Tab w) (hC1 : CellsAt w b1 o1 fs) (hC2 : CellsAt w b2 o2 cs) (hok : gridErr m p fs = 0) (hok2 : gridErr n hh cs = 0) (hl1 : fs.length ≤ c1) (hm1 : c1 ≤ 9223372036854775807) (hl2 : cs.length ≤ c2) (hm2 : c2 ≤ 9223372036854775807) :
    Calls Tryd.prog 24 #[.agg #[.int .i64 (m : Int), .int .i64 (p : Int), .slice (some ⟨b1, o1, none⟩) fs.length c1], .agg #[.int .i64 (n : Int), .int .i64 (hh : Int), .slice (some ⟨b2, o2, none⟩) cs.length c2], .int .i64 px, .int .i64 py] w fun e w' => ∃ v, e = .returned (.tuple #[.agg #[.int .i64 (n : Int), .int .i64 (hh : Int), v], .int .i64 0]) ∧ OwnG w' w.heap.size v (layG n hh cs m p fs (nearI px) (nearI py)) ∧ Below w.heap.size w w' := by
  obtain ⟨hL1, q1, q2, q3, q4, q5, hne1⟩ := okRange m p fs hok
  obtain ⟨hL2, r1, r2, r3, r4, r5, hne2⟩ := okRange n hh cs hok2
  have hS1 : SliceAt w (.slice (some ⟨b1, o1, none⟩) fs.length c1) fs := .inr ⟨hne1, b1, o1, c1, rfl, hl1, hm1, hC1⟩
  have hS2 : SliceAt w (.slice (some ⟨b2, o2, none⟩) cs.length c2) cs := .inr ⟨hne2, b2, o2, c2, rfl, hl2, hm2, hC2⟩
  have hb1 := slice_block hC1 hne1
  obtain ⟨x0, x1, x2, kk, hsz⟩ := alloc3 w (.cells #[.int .i64 (m : Int), .int .i64 (p : Int), .slice (some ⟨b1, o1, none⟩) fs.length c1] 24) (.cells #[.int .i64 (n : Int), .int .i64 (hh : Int), .slice (some ⟨b2, o2, none⟩) cs.length c2] 24) (.cells #[.int .i64 0, .int .i64 0, .slice none 0 0] 24)
  have HK := check_ok m p _ fs _ (Tab.next hT kk) (hS1.below kk) hok
  have HT : Hid (∀ W, Below w.heap.size w W → Txt.Tab W) := fun W k => Tab.next hT k
  have HTP : Hid (0 < w.heap.size) := hT.pos
  have HK2 : Hid (∀ W, Below w.heap.size w W → Calls Tryd.prog 11 #[.agg #[.int .i64 (n : Int), .int .i64 (hh : Int), .slice (some ⟨b2, o2, none⟩) cs.length c2]] W fun e w' => e = .returned (.int .i64 0) ∧ Below W.heap.size W w') := fun W k => check_ok n hh _ cs W (Tab.next hT k) (hS2.below k) hok2
  have HC1 : Hid (CellsAt w b1 o1 fs) := hC1
  have HC2 : Hid (CellsAt w b2 o2 cs) := hC2
  have HL1 : Hid (fs.length = m * p) := hL1
  have HL2 : Hid (cs.length = n * hh) := hL2
  have HMC : Hid (∀ y, y < hh → Meant (rowAt n cs y)) := fun y hy => (((gridErr_zero n hh cs).1 hok2).2.2 y hy).1
  have HRF : Hid (∀ y, y < p → RightRow (rowAt m fs y)) := ((gridErr_zero m p fs).1 hok).2.2
  have HGL : Hid ((layG n hh cs m p fs (nearI px) (nearI py)).length = cs.length) := by
    unfold Hid layG
    rw [preF_len n hh cs _ hL2 (layFn_len n m p fs _ _) hh (Nat.le_refl _), hL2, Nat.mul_comm]
  clear hT hS1 hS2 hok hok2 hC1 hC2 hL1 hL2 hne1 hne2
  go_enter Tryd.func24, Tryd.ntmps24
  go_wp2_with fail
  refine HK.mono ?_
  rintro e W1 ⟨rfl, b1'⟩
  have k1 := kk.trans (b1'.mono kk.size)
  have y0 := carry x0 b1'
  have y1 := carry x1 b1'
  have y2 := carry x2 b1'
  obtain ⟨d0, d1, d2, _⟩ := cells3 y1
  go_wp2_with fail
  refine (HK2.out _ k1).mono ?_
  rintro e W2 ⟨rfl, b2'⟩
  have k2 := k1.trans (b2'.mono k1.size)
  have z0 := carry y0 b2'
  have z1 := carry y1 b2'
  have z2 := carry y2 b2'
  clear d0 d1 d2
  obtain ⟨d0, d1, d2, _⟩ := cells3 z1
  go_wp2_with fail
  refine (copyOf_any n hh b2 o2 c2 cs _ (HC2.out.below k2) (by omega)).mono ?_
  rintro e W4 ⟨_, rfl, ⟨g, cap, rest, t, rfl, hgb, hlc, hcm, hgh⟩, b4⟩
  have u0 := carry z0 b4
  have u2 := carry z2 b4
  have k4 := k2.trans (b4.mono k2.size)
  go_wp2_with (refine wpList_store_row rfl 24 (.tmp 12) _ rfl W4.heap.size #[.int .i64 (n : Int), .int .i64 (hh : Int), .slice (some ⟨g, 0, none⟩) cs.length cap] rfl rfl _ _ (heap_alloc_new W4 _) (by kernel_rfl) rfl (one3v _ _ _ _ _) ?_
               obtain ⟨mX, aX⟩ := var_newL W4 24 #[.int .i64 0, .int .i64 0, .slice none 0 0] #[.int .i64 (n : Int), .int .i64 (hh : Int), .slice (some ⟨g, 0, none⟩) cs.length cap]
               generalize ((W4.alloc (.cells #[.int .i64 0, .int .i64 0, .slice none 0 0] 24)).setRow W4.heap.size #[.int .i64 (n : Int), .int .i64 (hh : Int), .slice (some ⟨g, 0, none⟩) cs.length cap]) = X at *
               have kX := k4.trans (aX.mono k4.size)
               have v0 := carry u0 aX
               have v2 := carry u2 aX
               have vg := carry hgh aX)
  have hgN : w.heap.size + 3 ≤ g := by
    have h1 := b1'.size
    have h2 := b2'.size
    have h3 : ((((w.alloc (.cells #[.int .i64 (m : Int), .int .i64 (p : Int), .slice (some ⟨b1, o1, none⟩) fs.length c1] 24)).alloc (.cells #[.int .i64 (n : Int), .int .i64 (hh : Int), .slice (some ⟨b2, o2, none⟩) cs.length c2] 24)).alloc (.cells #[.int .i64 0, .int .i64 0, .slice none 0 0] 24))).heap.size = w.heap.size + 3 := hsz
    omega
  have hgM : g < W4.heap.size := blk_lt hgh
  have hgX : g < X.heap.size := blk_lt vg
  generalize hM : W4.heap.size = M at *
  have KO : Hid (Calls Tryd.prog 48 #[.agg #[.int .i64 (n : Int), .int .i64 (hh : Int), .slice (some ⟨g, 0, none⟩) cs.length cap], .agg #[.int .i64 (m : Int), .int .i64 (p : Int), .slice (some ⟨b1, o1, none⟩) fs.length c1], .int .i64 (nearI px), .int .i64 (nearI py)] X.drew fun e w' => e = .returned (.tuple #[]) ∧ w'.heap[g]? = some (.cells (flat (layG n hh cs m p fs (nearI px) (nearI py)) ++ rest).toArray t (0, 0)) ∧ Apart g [g] X.drew w') :=
    overwrite_any n hh g cap cs rest t m p b1 o1 c1 fs (nearI px) (nearI py) X.drew (HT.out _ kX.drew) (by have := HTP.out; omega) vg HL2.out r1 r2 r4 hlc hcm (HC1.out.below kX.drew) (by omega) HL1.out q1 q2 q4 hl1 hm1 (near_in px).1 (near_in px).2 (near_in py).1 (near_in py).2 HMC.out HRF.out
  obtain ⟨e0, e1, e2, _⟩ := cells3 v0
  obtain ⟨f0, f1, f2, _⟩ := cells3 mX
  have HS0 : Hid ((X.drew.cell? ⟨w.heap.size, 0, none⟩ = some (.int .i64 (m : Int)) ∧ X.drew.cell? ⟨w.heap.size, 1, none⟩ = some (.int .i64 (p : Int)) ∧ X.drew.cell? ⟨w.heap.size, 2, none⟩ = some (.slice (some ⟨b1, o1, none⟩) fs.length c1)) ∧ (X.drew.cell? ⟨M, 0, none⟩ = some (.int .i64 (n : Int)) ∧ X.drew.cell? ⟨M, 1, none⟩ = some (.int .i64 (hh : Int)) ∧ X.drew.cell? ⟨M, 2, none⟩ = some (.slice (some ⟨g, 0, none⟩) cs.length cap))) := ⟨⟨e0, e1, e2⟩, f0, f1, f2⟩
  have HS2 : Hid (∀ W, Apart g [g] X.drew W → (W.cell? ⟨w.heap.size, 0, none⟩ = some (.int .i64 (m : Int)) ∧ W.cell? ⟨w.heap.size, 1, none⟩ = some (.int .i64 (p : Int)) ∧ W.cell? ⟨w.heap.size, 2, none⟩ = some (.slice (some ⟨b1, o1, none⟩) fs.length c1)) ∧ (W.cell? ⟨M, 0, none⟩ = some (.int .i64 (n : Int)) ∧ W.cell? ⟨M, 1, none⟩ = some (.int .i64 (hh : Int)) ∧ W.cell? ⟨M, 2, none⟩ = some (.slice (some ⟨g, 0, none⟩) cs.length cap))) := fun W k => by
    have a := cells3 (k.carry (k := w.heap.size) v0 (by simp; omega))
    have b := cells3 (k.carry (k := M) mX (by simp; omega))
    exact ⟨⟨a.1, a.2.1, a.2.2.1⟩, b.1, b.2.1, b.2.2.1⟩
  clear hgh e0 e1 e2 f0 f1 f2 u0 u2 z0 z1 z2 y0 y1 y2 x0 x1 x2 d0 d1 d2 HK HK2
  go_region_held3 (fun W => (W.cell? ⟨w.heap.size, 0, none⟩ = some (.int .i64 (m : Int)) ∧ W.cell? ⟨w.heap.size, 1, none⟩ = some (.int .i64 (p : Int)) ∧ W.cell? ⟨w.heap.size, 2, none⟩ = some (.slice (some ⟨b1, o1, none⟩) fs.length c1)) ∧ (W.cell? ⟨M, 0, none⟩ = some (.int .i64 (n : Int)) ∧ W.cell? ⟨M, 1, none⟩ = some (.int .i64 (hh : Int)) ∧ W.cell? ⟨M, 2, none⟩ = some (.slice (some ⟨g, 0, none⟩) cs.length cap)))
    (first
      | (exact HS2.out _ ap5)
      | (exact HS0.out))
    (first
      | (go_at_call 44; refine (near_any _ _).mono ?_; rintro e _ ⟨rfl, rfl⟩)
      | (go_at_call 48; refine KO.out.mono ?_; rintro e W5 ⟨rfl, hv5, ap5⟩))
  have w2 := ap5.carry (k := w.heap.size + 2) v2 (by simp; omega)
  have wM := ap5.carry (k := M) mX (by simp; omega)
  have kW : Below w.heap.size w W5 := kX.drew.trans (ap5.1.mono (by omega))
  go_wp2_with (first
    | (refine wpList_load_row rfl 24 _ rfl M rfl _ _ _ _ wM Tryd.underlying24 rfl (by kernel_rfl) ?_)
    | (refine wpList_store_row rfl 24 (.tmp 8) _ rfl (w.heap.size + 2) #[.int .i64 (n : Int), .int .i64 (hh : Int), .slice (some ⟨g, 0, none⟩) cs.length cap] rfl rfl _ _ w2 (by kernel_rfl) rfl (one3v _ _ _ _ _) ?_))
  (try simp only [Exit.inBlock, Exit.then])
  refine bodyPost_ret (v := .tuple #[.agg #[.int .i64 (n : Int), .int .i64 (hh : Int), .slice (some ⟨g, 0, none⟩) cs.length cap], .int .i64 0]) ?_ rfl ⟨_, rfl, ⟨g, cap, rest, t, by rw [HGL.out], by omega, by rw [HGL.out]; exact hlc, hcm, ?_⟩, below_setRow kW (by omega) _⟩
  · exact results_row_tmp rfl _ _ (w.heap.size + 2) _ _ _ _ rfl (setRow_heap _ _ _ _ _ _ w2) Tryd.underlying24 rfl (by kernel_rfl) _ rfl
  · rw [setRow_other _ _ _ _ (by omega)]
    exact hv5
end Grd
end Go.Proofs.YtinhmklpnkikgaaDoor

/- holds. -/
namespace Go.Proofs.YtinhmklpnkikgaaDoor
open Go.ChangeShapes Go.WideShapes Go.ChangeAt Go.RowKit
namespace Grd
def holdsI (n hh : Nat) (x y a b : Int) : Bool := decide (0 < a ∧ 0 < b ∧ 0 ≤ x ∧ 0 ≤ y ∧ a ≤ (n : Int) - x ∧ b ≤ (hh : Int) - y)
set_option maxHeartbeats 4000000 in
theorem holds_any (n hh : Nat) (v : Value) (x y a b : Int) (w : World) (hn : n ≤ 120) (hh' : hh ≤ 60) (hx0 : -9223372036854775808 ≤ x) (hx1 : x ≤ 9223372036854775807) (hy0 : -9223372036854775808 ≤ y) (hy1 : y ≤ 9223372036854775807) :
    Calls Tryd.prog 47 #[.agg #[.int .i64 (n : Int), .int .i64 (hh : Int), v], .agg #[.int .i64 x, .int .i64 y, .int .i64 a, .int .i64 b]] w fun e w' => e = .returned (.bool (holdsI n hh x y a b)) ∧ Below w.heap.size w w' := by
  have kk : Below w.heap.size w ((w.alloc (.cells #[.int .i64 (n : Int), .int .i64 (hh : Int), v] 24)).alloc (.cells #[.int .i64 x, .int .i64 y, .int .i64 a, .int .i64 b] 36)) := ((Below.refl _ _).alloc (Nat.le_refl _) _).alloc (by simp) _
  by_cases h1 : 0 < a
  · by_cases h2 : 0 < b
    · by_cases h3 : 0 ≤ x
      · by_cases h4 : 0 ≤ y
        · by_cases h5 : a ≤ (n : Int) - x
          · have e : holdsI n hh x y a b = decide (b ≤ (hh : Int) - y) := by unfold holdsI; rw [decide_eq_decide]; omega
            rw [e]
            go_enter Tryd.func47, Tryd.ntmps47
            go_wp2_with fail
            go_ret
            exact ⟨rfl, kk⟩
          · have e : holdsI n hh x y a b = false := by unfold holdsI; rw [decide_eq_false_iff_not]; omega
            rw [e]
            have g5 : decide (a ≤ (n : Int) - x) = false := by rw [decide_eq_false_iff_not]; exact h5
            go_enter Tryd.func47, Tryd.ntmps47
            go_wp2_with fail
            go_ret
            exact ⟨rfl, kk⟩
        · have e : holdsI n hh x y a b = false := by unfold holdsI; rw [decide_eq_false_iff_not]; omega
          rw [e]
          have g4 : decide (0 ≤ y) = false := by rw [decide_eq_false_iff_not]; exact h4
          go_enter Tryd.func47, Tryd.ntmps47
          go_wp2_with fail
          go_ret
          exact ⟨rfl, kk⟩
      · have e : holdsI n hh x y a b = false := by unfold holdsI; rw [decide_eq_false_iff_not]; omega
        rw [e]
        have g3 : decide (0 ≤ x) = false := by rw [decide_eq_false_iff_not]; exact h3
        go_enter Tryd.func47, Tryd.ntmps47
        go_wp2_with fail
        go_ret
        exact ⟨rfl, kk⟩
    · have e : holdsI n hh x y a b = false := by unfold holdsI; rw [decide_eq_false_iff_not]; omega
      rw [e]
      have g2 : decide (0 < b) = false := by rw [decide_eq_false_iff_not]; exact h2
      go_enter Tryd.func47, Tryd.ntmps47
      go_wp2_with fail
      go_ret
      exact ⟨rfl, kk⟩
  · have e : holdsI n hh x y a b = false := by unfold holdsI; rw [decide_eq_false_iff_not]; omega
    rw [e]
    have g1 : decide (0 < a) = false := by rw [decide_eq_false_iff_not]; exact h1
    go_enter Tryd.func47, Tryd.ntmps47
    go_wp2_with fail
    go_ret
    exact ⟨rfl, kk⟩
end Grd
end Go.Proofs.YtinhmklpnkikgaaDoor

/- The walks of layOnNew, Part and Resize. -/
namespace Go.Proofs.YtinhmklpnkikgaaDoor
open Go.ChangeShapes Go.WideShapes Go.ChangeAt Go.RowKit
namespace Grd
def newL (n hh : Nat) : List C := List.replicate (n * hh) blank
theorem newL_len (n hh : Nat) : (newL n hh).length = n * hh := by simp [newL]
theorem layG_len (n hh m p : Nat) (cs fs : List C) (X Y : Int) (hL : cs.length = n * hh) : (layG n hh cs m p fs X Y).length = n * hh := by
  unfold layG
  rw [preF_len n hh cs _ hL (layFn_len n m p fs _ _) hh (Nat.le_refl _), Nat.mul_comm]
set_option maxHeartbeats 1000000 in
theorem lon_bad (a h pw ph X Y : Int) (v : Value) (w : World) (hs : isSize pw ph = false) :
    Calls Tryd.prog 49 #[.agg #[.int .i64 a, .int .i64 h, v], .int .i64 pw, .int .i64 ph, .int .i64 X, .int .i64 Y] w fun e w' => e = .returned (.tuple #[.agg #[.int .i64 0, .int .i64 0, .slice none 0 0], .int .i64 3]) ∧ Below w.heap.size w w' := by
  obtain ⟨x0, x1, kk, hsz⟩ := alloc2' w (.cells #[.int .i64 a, .int .i64 h, v] 24) (.cells #[.int .i64 0, .int .i64 0, .slice none 0 0] 24)
  go_enter Tryd.func49, Tryd.ntmps49
  go_wp2_with fail
  refine (new_bad pw ph _ hs).mono ?_
  rintro e W1 ⟨rfl, b1⟩
  have y1 := carry x1 b1
  have k1 := kk.trans (b1.mono kk.size)
  go_wp2_with (first
    | (refine wpList_store_row rfl 24 (.tmp 12) _ rfl W1.heap.size #[.int .i64 0, .int .i64 0, .slice none 0 0] rfl rfl _ _ (heap_alloc_new W1 _) (by kernel_rfl) rfl (one3v _ _ _ _ _) ?_
       obtain ⟨mX, aX⟩ := var_newL W1 24 #[.int .i64 0, .int .i64 0, .slice none 0 0] #[.int .i64 0, .int .i64 0, .slice none 0 0]
       generalize ((W1.alloc (.cells #[.int .i64 0, .int .i64 0, .slice none 0 0] 24)).setRow W1.heap.size #[.int .i64 0, .int .i64 0, .slice none 0 0]) = X1 at *
       have kX := k1.trans (aX.mono k1.size)
       have v1 := carry y1 aX)
    | (refine wpList_load_row rfl 24 (.tmp 12) rfl W1.heap.size rfl _ _ _ _ mX Tryd.underlying24 rfl (by kernel_rfl) ?_)
    | (refine wpList_store_row rfl 24 (.tmp 10) _ rfl (w.heap.size + 1) #[.int .i64 0, .int .i64 0, .slice none 0 0] rfl rfl _ _ v1 (by kernel_rfl) rfl (one3v _ _ _ _ _) ?_))
  (try simp only [Exit.inBlock, Exit.then])
  refine bodyPost_ret (v := .tuple #[.agg #[.int .i64 0, .int .i64 0, .slice none 0 0], .int .i64 3]) ?_ rfl ⟨rfl, below_setRow kX (by omega) _⟩
  exact results_row_tmp rfl _ _ (w.heap.size + 1) _ _ _ _ rfl (setRow_heap _ _ _ _ _ _ v1) Tryd.underlying24 rfl (by kernel_rfl) _ rfl
set_option maxHeartbeats 4000000 in
theorem lon_good (m p b o cx n hh : Nat) (X Y : Int) (fs : List C) (w : World) (hT : Txt.Tab w) (hC : CellsAt w b o fs) (hok : gridErr m p fs = 0) (hl : fs.length ≤ cx) (hm : cx ≤ 9223372036854775807) (hs : isSize n hh = true) (hX : -1000 ≤ X) (hX' : X ≤ 1000) (hY : -1000 ≤ Y) (hY' : Y ≤ 1000) :
    Calls Tryd.prog 49 #[.agg #[.int .i64 (m : Int), .int .i64 (p : Int), .slice (some ⟨b, o, none⟩) fs.length cx], .int .i64 (n : Int), .int .i64 (hh : Int), .int .i64 X, .int .i64 Y] w fun e w' => ∃ v, e = .returned (.tuple #[.agg #[.int .i64 (n : Int), .int .i64 (hh : Int), v], .int .i64 0]) ∧ OwnG w' w.heap.size v (layG n hh (newL n hh) m p fs X Y) ∧ Below w.heap.size w w' := by
  obtain ⟨hL1, q1, q2, q3, q4, q5, hne1⟩ := okRange m p fs hok
  have ⟨_, _, p2, p3, p4, p5⟩ := prod_in n hh hs
  have hb1 := slice_block hC hne1
  obtain ⟨x0, x1, kk, hsz⟩ := alloc2' w (.cells #[.int .i64 (m : Int), .int .i64 (p : Int), .slice (some ⟨b, o, none⟩) fs.length cx] 24) (.cells #[.int .i64 0, .int .i64 0, .slice none 0 0] 24)
  have HT : Hid (∀ W, Below w.heap.size w W → Txt.Tab W) := fun W k => Tab.next hT k
  have HTP : Hid (0 < w.heap.size) := hT.pos
  have HC : Hid (CellsAt w b o fs) := hC
  have HL1 : Hid (fs.length = m * p) := hL1
  have HN : Hid (∀ W, Calls Tryd.prog 9 #[.int .i64 (n : Int), .int .i64 (hh : Int)] W fun e w' => ∃ v, e = .returned (.tuple #[.agg #[.int .i64 (n : Int), .int .i64 (hh : Int), v], .int .i64 0]) ∧ OwnG w' W.heap.size v (newL n hh) ∧ Below W.heap.size W w') := fun W => by
    have := new_good n hh W hs
    have e : ((n : Int) * (hh : Int)).toNat = n * hh := by rw [← Int.natCast_mul, Int.toNat_natCast]
    rw [e] at this
    exact this
  have HMC : Hid (∀ y, y < hh → Meant (rowAt n (newL n hh) y)) := fun y hy => by unfold newL; rw [rowAt_replicate n hh y _ hy]; exact (replicate_right n).1
  have HRF : Hid (∀ y, y < p → RightRow (rowAt m fs y)) := ((gridErr_zero m p fs).1 hok).2.2
  have HGL : Hid ((layG n hh (newL n hh) m p fs X Y).length = (newL n hh).length) := by unfold Hid; rw [layG_len n hh m p _ fs X Y (newL_len n hh), newL_len]
  clear hT hC hok hL1 hne1 hs
  go_enter Tryd.func49, Tryd.ntmps49
  go_wp2_with fail
  refine (HN.out _).mono ?_
  rintro e W4 ⟨_, rfl, ⟨g, cap, rest, t, rfl, hgb, hlc, hcm, hgh⟩, b4⟩
  have u0 := carry x0 b4
  have u1 := carry x1 b4
  have k4 := kk.trans (b4.mono kk.size)
  have hgN : w.heap.size + 2 ≤ g := by rw [← hsz]; exact hgb
  have hgM : g < W4.heap.size := blk_lt hgh
  have hNL := newL_len n hh
  have HNL : Hid ((newL n hh).length = n * hh) := hNL
  generalize hnl : newL n hh = nl at *
  clear hNL hgb
  go_wp2_with (refine wpList_store_row rfl 24 (.tmp 12) _ rfl W4.heap.size #[.int .i64 (n : Int), .int .i64 (hh : Int), .slice (some ⟨g, 0, none⟩) nl.length cap] rfl rfl _ _ (heap_alloc_new W4 _) (by kernel_rfl) rfl (one3v _ _ _ _ _) ?_
               obtain ⟨mX, aX⟩ := var_newL W4 24 #[.int .i64 0, .int .i64 0, .slice none 0 0] #[.int .i64 (n : Int), .int .i64 (hh : Int), .slice (some ⟨g, 0, none⟩) nl.length cap]
               generalize ((W4.alloc (.cells #[.int .i64 0, .int .i64 0, .slice none 0 0] 24)).setRow W4.heap.size #[.int .i64 (n : Int), .int .i64 (hh : Int), .slice (some ⟨g, 0, none⟩) nl.length cap]) = X1 at *
               have kX := k4.trans (aX.mono k4.size)
               have v0 := carry u0 aX
               have v1 := carry u1 aX
               have vg := carry hgh aX
               obtain ⟨c0, c1, c2, _⟩ := cells3 mX
               obtain ⟨d0, d1, d2, _⟩ := cells3 v0)
  generalize hM : W4.heap.size = M at *
  refine (overwrite_any n hh g cap nl rest t m p b o cx fs X Y X1 (HT.out _ kX) (by have := HTP.out; omega) vg HNL.out (by omega) (by omega) (by omega) hlc hcm (HC.out.below kX) (by omega) HL1.out q1 q2 q4 hl hm hX hX' hY hY' HMC.out HRF.out).mono ?_
  rintro e W5 ⟨rfl, hv5, ap5⟩
  have w2 := ap5.carry (k := w.heap.size + 1) v1 (by simp; omega)
  have wM := ap5.carry (k := M) mX (by simp; omega)
  have kW : Below w.heap.size w W5 := kX.trans (ap5.1.mono (by omega))
  clear c0 c1 c2 d0 d1 d2
  go_wp2_with (first
    | (refine wpList_load_row rfl 24 (.tmp 12) rfl M rfl _ _ _ _ wM Tryd.underlying24 rfl (by kernel_rfl) ?_)
    | (refine wpList_store_row rfl 24 (.tmp 10) _ rfl (w.heap.size + 1) #[.int .i64 (n : Int), .int .i64 (hh : Int), .slice (some ⟨g, 0, none⟩) nl.length cap] rfl rfl _ _ w2 (by kernel_rfl) rfl (one3v _ _ _ _ _) ?_))
  (try simp only [Exit.inBlock, Exit.then])
  refine bodyPost_ret (v := .tuple #[.agg #[.int .i64 (n : Int), .int .i64 (hh : Int), .slice (some ⟨g, 0, none⟩) nl.length cap], .int .i64 0]) ?_ rfl ⟨_, rfl, ⟨g, cap, rest, t, ?_, by omega, ?_, hcm, ?_⟩, below_setRow kW (by omega) _⟩
  · exact results_row_tmp rfl _ _ (w.heap.size + 1) _ _ _ _ rfl (setRow_heap _ _ _ _ _ _ w2) Tryd.underlying24 rfl (by kernel_rfl) _ rfl
  · rw [hnl, HGL.out]
  · rw [hnl, HGL.out]; exact hlc
  · rw [setRow_other _ _ _ _ (by omega), hnl]
    exact hv5
set_option maxHeartbeats 1000000 in
theorem part_bad1 (a h : Int) (v : Value) (cs : List C) (rx ry rw rh : Int) (w : World) (hT : Txt.Tab w) (hS : SliceAt w v cs) (hok : gridErr a h cs ≠ 0) :
    Calls Tryd.prog 26 #[.agg #[.int .i64 a, .int .i64 h, v], .agg #[.int .i64 rx, .int .i64 ry, .int .i64 rw, .int .i64 rh]] w fun e w' => e = .returned (.tuple #[.agg #[.int .i64 0, .int .i64 0, .slice none 0 0], .int .i64 (gridErr a h cs)]) ∧ Below w.heap.size w w' := by
  obtain ⟨_, _, xr, kk, hsz⟩ := alloc3 w (.cells #[.int .i64 a, .int .i64 h, v] 24) (.cells #[.int .i64 rx, .int .i64 ry, .int .i64 rw, .int .i64 rh] 36) (.cells #[.int .i64 0, .int .i64 0, .slice none 0 0] 24)
  have HK := check_any a h v cs _ (Tab.next hT kk) (hS.below kk)
  generalize gridErr a h cs = er at *
  have ne : (er != 0) = true := by simpa using hok
  clear hok hT hS
  go_enter Tryd.func26, Tryd.ntmps26
  go_wp2_with fail
  refine HK.mono ?_
  rintro e W1 ⟨rfl, b1⟩
  have y2 := carry xr b1
  go_wp2_with (refine wpList_store_row rfl 24 (.tmp 4) _ rfl (w.heap.size + 2) #[.int .i64 0, .int .i64 0, .slice none 0 0] rfl rfl _ _ y2 (by kernel_rfl) rfl (one3v _ _ _ _ _) ?_)
  (try simp only [Exit.inBlock, Exit.then])
  refine bodyPost_ret (v := .tuple #[.agg #[.int .i64 0, .int .i64 0, .slice none 0 0], .int .i64 er]) ?_ rfl ⟨rfl, below_setRow (kk.trans (b1.mono kk.size)) (by omega) _⟩
  exact results_row_tmp rfl _ _ (w.heap.size + 2) _ _ _ _ rfl (setRow_heap _ _ _ _ _ _ y2) Tryd.underlying24 rfl (by kernel_rfl) _ rfl
set_option maxHeartbeats 1000000 in
theorem resize_bad1 (a h : Int) (v : Value) (cs : List C) (pw ph : Int) (w : World) (hT : Txt.Tab w) (hS : SliceAt w v cs) (hok : gridErr a h cs ≠ 0) :
    Calls Tryd.prog 27 #[.agg #[.int .i64 a, .int .i64 h, v], .int .i64 pw, .int .i64 ph] w fun e w' => e = .returned (.tuple #[.agg #[.int .i64 0, .int .i64 0, .slice none 0 0], .int .i64 (gridErr a h cs)]) ∧ Below w.heap.size w w' := by
  obtain ⟨_, xr, kk, hsz⟩ := alloc2' w (.cells #[.int .i64 a, .int .i64 h, v] 24) (.cells #[.int .i64 0, .int .i64 0, .slice none 0 0] 24)
  have HK := check_any a h v cs _ (Tab.next hT kk) (hS.below kk)
  generalize gridErr a h cs = er at *
  have ne : (er != 0) = true := by simpa using hok
  clear hok hT hS
  go_enter Tryd.func27, Tryd.ntmps27
  go_wp2_with fail
  refine HK.mono ?_
  rintro e W1 ⟨rfl, b1⟩
  have y2 := carry xr b1
  go_wp2_with (refine wpList_store_row rfl 24 (.tmp 6) _ rfl (w.heap.size + 1) #[.int .i64 0, .int .i64 0, .slice none 0 0] rfl rfl _ _ y2 (by kernel_rfl) rfl (one3v _ _ _ _ _) ?_)
  (try simp only [Exit.inBlock, Exit.then])
  refine bodyPost_ret (v := .tuple #[.agg #[.int .i64 0, .int .i64 0, .slice none 0 0], .int .i64 er]) ?_ rfl ⟨rfl, below_setRow (kk.trans (b1.mono kk.size)) (by omega) _⟩
  exact results_row_tmp rfl _ _ (w.heap.size + 1) _ _ _ _ rfl (setRow_heap _ _ _ _ _ _ y2) Tryd.underlying24 rfl (by kernel_rfl) _ rfl
set_option maxHeartbeats 1000000 in
theorem part_bad2 (m p : Nat) (v : Value) (fs : List C) (rx ry rw rh : Int) (w : World) (hT : Txt.Tab w) (hS : SliceAt w v fs) (hok : gridErr m p fs = 0) (hx0 : -9223372036854775808 ≤ rx) (hx1 : rx ≤ 9223372036854775807) (hy0 : -9223372036854775808 ≤ ry) (hy1 : ry ≤ 9223372036854775807) (hold : holdsI m p rx ry rw rh = false) :
    Calls Tryd.prog 26 #[.agg #[.int .i64 (m : Int), .int .i64 (p : Int), v], .agg #[.int .i64 rx, .int .i64 ry, .int .i64 rw, .int .i64 rh]] w fun e w' => e = .returned (.tuple #[.agg #[.int .i64 0, .int .i64 0, .slice none 0 0], .int .i64 4]) ∧ Below w.heap.size w w' := by
  obtain ⟨-, q1, q2, q3, q4, -, -⟩ := okRange m p fs hok
  obtain ⟨x0, x1, xr, kk, hsz⟩ := alloc3 w (.cells #[.int .i64 (m : Int), .int .i64 (p : Int), v] 24) (.cells #[.int .i64 rx, .int .i64 ry, .int .i64 rw, .int .i64 rh] 36) (.cells #[.int .i64 0, .int .i64 0, .slice none 0 0] 24)
  have HK := check_ok m p v fs _ (Tab.next hT kk) (hS.below kk) hok
  have HH : Hid (∀ W, Calls Tryd.prog 47 #[.agg #[.int .i64 (m : Int), .int .i64 (p : Int), v], .agg #[.int .i64 rx, .int .i64 ry, .int .i64 rw, .int .i64 rh]] W fun e w' => e = .returned (.bool false) ∧ Below W.heap.size W w') := fun W => by
    have := holds_any m p v rx ry rw rh W (by omega) (by omega) hx0 hx1 hy0 hy1
    rwa [hold] at this
  clear hok hT hS hold
  go_enter Tryd.func26, Tryd.ntmps26
  go_wp2_with fail
  refine HK.mono ?_
  rintro e W1 ⟨rfl, b1⟩
  have k1 := kk.trans (b1.mono kk.size)
  have y2 := carry xr b1
  obtain ⟨c0, c1, c2, _⟩ := cells3 (carry x0 b1)
  obtain ⟨d0, d1, d2, d3⟩ := cells4 (carry x1 b1)
  go_wp2_with fail
  refine (HH.out _).mono ?_
  rintro e W2 ⟨rfl, b2⟩
  have z2 := carry y2 b2
  go_wp2_with (refine wpList_store_row rfl 24 (.tmp 4) _ rfl (w.heap.size + 2) #[.int .i64 0, .int .i64 0, .slice none 0 0] rfl rfl _ _ z2 (by kernel_rfl) rfl (one3v _ _ _ _ _) ?_)
  (try simp only [Exit.inBlock, Exit.then])
  refine bodyPost_ret (v := .tuple #[.agg #[.int .i64 0, .int .i64 0, .slice none 0 0], .int .i64 4]) ?_ rfl ⟨rfl, below_setRow (k1.trans (b2.mono k1.size)) (by omega) _⟩
  exact results_row_tmp rfl _ _ (w.heap.size + 2) _ _ _ _ rfl (setRow_heap _ _ _ _ _ _ z2) Tryd.underlying24 rfl (by kernel_rfl) _ rfl
set_option maxHeartbeats 4000000 in
theorem part_good (m p b o cx rx ry n hh : Nat) (fs : List C) (w : World) (hT : Txt.Tab w) (hC : CellsAt w b o fs) (hl : fs.length ≤ cx) (hm : cx ≤ 9223372036854775807) (hok : gridErr m p fs = 0) (hn : 1 ≤ n) (hh1 : 1 ≤ hh) (hxn : rx + n ≤ m) (hyh : ry + hh ≤ p) :
    Calls Tryd.prog 26 #[.agg #[.int .i64 (m : Int), .int .i64 (p : Int), .slice (some ⟨b, o, none⟩) fs.length cx], .agg #[.int .i64 (rx : Int), .int .i64 (ry : Int), .int .i64 (n : Int), .int .i64 (hh : Int)]] w fun e w' => ∃ v, e = .returned (.tuple #[.agg #[.int .i64 (n : Int), .int .i64 (hh : Int), v], .int .i64 0]) ∧ OwnG w' w.heap.size v (layG n hh (newL n hh) m p fs (-(rx : Int)) (-(ry : Int))) ∧ Below w.heap.size w w' := by
  obtain ⟨-, q1, q2, q3, q4, -, hne⟩ := okRange m p fs hok
  have hS : SliceAt w (.slice (some ⟨b, o, none⟩) fs.length cx) fs := .inr ⟨hne, b, o, cx, rfl, hl, hm, hC⟩
  obtain ⟨x0, x1, xr, kk, hsz⟩ := alloc3 w (.cells #[.int .i64 (m : Int), .int .i64 (p : Int), .slice (some ⟨b, o, none⟩) fs.length cx] 24) (.cells #[.int .i64 (rx : Int), .int .i64 (ry : Int), .int .i64 (n : Int), .int .i64 (hh : Int)] 36) (.cells #[.int .i64 0, .int .i64 0, .slice none 0 0] 24)
  have HK := check_ok m p _ fs _ (Tab.next hT kk) (hS.below kk) hok
  have HH : Hid (∀ W, Calls Tryd.prog 47 #[.agg #[.int .i64 (m : Int), .int .i64 (p : Int), .slice (some ⟨b, o, none⟩) fs.length cx], .agg #[.int .i64 (rx : Int), .int .i64 (ry : Int), .int .i64 (n : Int), .int .i64 (hh : Int)]] W fun e w' => e = .returned (.bool true) ∧ Below W.heap.size W w') := fun W => by
    have := holds_any m p (.slice (some ⟨b, o, none⟩) fs.length cx) rx ry n hh W (by omega) (by omega) (by omega) (by omega) (by omega) (by omega)
    have e : holdsI m p rx ry n hh = true := by unfold holdsI; rw [decide_eq_true_eq]; omega
    rwa [e] at this
  have HLN : Hid (∀ W, Below w.heap.size w W → Calls Tryd.prog 49 #[.agg #[.int .i64 (m : Int), .int .i64 (p : Int), .slice (some ⟨b, o, none⟩) fs.length cx], .int .i64 (n : Int), .int .i64 (hh : Int), .int .i64 (-(rx : Int)), .int .i64 (-(ry : Int))] W fun e w' => ∃ v, e = .returned (.tuple #[.agg #[.int .i64 (n : Int), .int .i64 (hh : Int), v], .int .i64 0]) ∧ OwnG w' W.heap.size v (layG n hh (newL n hh) m p fs (-(rx : Int)) (-(ry : Int))) ∧ Below W.heap.size W w') := fun W k =>
    lon_good m p b o cx n hh (-(rx : Int)) (-(ry : Int)) fs W (Tab.next hT k) (hC.below k) hok hl hm (by unfold isSize; rw [decide_eq_true_eq]; omega) (by omega) (by omega) (by omega) (by omega)
  generalize layG n hh (newL n hh) m p fs (-(rx : Int)) (-(ry : Int)) = res at HLN ⊢
  clear hok hT hS hC
  go_enter Tryd.func26, Tryd.ntmps26
  go_wp2_with fail
  refine HK.mono ?_
  rintro e W1 ⟨rfl, b1⟩
  have k1 := kk.trans (b1.mono kk.size)
  have y0 := carry x0 b1
  have y1 := carry x1 b1
  have y2 := carry xr b1
  obtain ⟨c0, c1, c2, _⟩ := cells3 y0
  obtain ⟨d0, d1, d2, d3⟩ := cells4 y1
  go_wp2_with fail
  refine (HH.out _).mono ?_
  rintro e W2 ⟨rfl, b2⟩
  have k2 := k1.trans (b2.mono k1.size)
  have z2 := carry y2 b2
  clear c0 c1 c2 d0 d1 d2 d3
  obtain ⟨c0, c1, c2, _⟩ := cells3 (carry y0 b2)
  obtain ⟨d0, d1, d2, d3⟩ := cells4 (carry y1 b2)
  go_wp2_with fail
  refine (HLN.out _ k2).mono ?_
  rintro e W3 ⟨_, rfl, ⟨g, cap, rest, t, rfl, hgb, hlc, hcm, hgh⟩, b3⟩
  have k3 := k2.trans (b3.mono k2.size)
  have u2 := carry z2 b3
  have hN2 : w.heap.size + 2 < W2.heap.size := blk_lt z2
  go_wp2_with (refine wpList_store_row rfl 24 (.tmp 4) _ rfl (w.heap.size + 2) #[.int .i64 (n : Int), .int .i64 (hh : Int), .slice (some ⟨g, 0, none⟩) res.length cap] rfl rfl _ _ u2 (by kernel_rfl) rfl (one3v _ _ _ _ _) ?_)
  (try simp only [Exit.inBlock, Exit.then])
  refine bodyPost_ret (v := .tuple #[.agg #[.int .i64 (n : Int), .int .i64 (hh : Int), .slice (some ⟨g, 0, none⟩) res.length cap], .int .i64 0]) ?_ rfl ⟨_, rfl, ⟨g, cap, rest, t, rfl, by omega, hlc, hcm, ?_⟩, below_setRow k3 (by omega) _⟩
  · exact results_row_tmp rfl _ _ (w.heap.size + 2) _ _ _ _ rfl (setRow_heap _ _ _ _ _ _ u2) Tryd.underlying24 rfl (by kernel_rfl) _ rfl
  · rw [setRow_other _ _ _ _ (by omega)]
    exact hgh
set_option maxHeartbeats 1000000 in
theorem resize_bad2 (m p : Nat) (v : Value) (fs : List C) (pw ph : Int) (w : World) (hT : Txt.Tab w) (hS : SliceAt w v fs) (hok : gridErr m p fs = 0) (hs : isSize pw ph = false) :
    Calls Tryd.prog 27 #[.agg #[.int .i64 (m : Int), .int .i64 (p : Int), v], .int .i64 pw, .int .i64 ph] w fun e w' => e = .returned (.tuple #[.agg #[.int .i64 0, .int .i64 0, .slice none 0 0], .int .i64 3]) ∧ Below w.heap.size w w' := by
  obtain ⟨x0, xr, kk, hsz⟩ := alloc2' w (.cells #[.int .i64 (m : Int), .int .i64 (p : Int), v] 24) (.cells #[.int .i64 0, .int .i64 0, .slice none 0 0] 24)
  have HK := check_ok m p v fs _ (Tab.next hT kk) (hS.below kk) hok
  clear hok hT hS
  go_enter Tryd.func27, Tryd.ntmps27
  go_wp2_with fail
  refine HK.mono ?_
  rintro e W1 ⟨rfl, b1⟩
  have k1 := kk.trans (b1.mono kk.size)
  have y2 := carry xr b1
  obtain ⟨c0, c1, c2, _⟩ := cells3 (carry x0 b1)
  go_wp2_with fail
  refine (lon_bad m p pw ph 0 0 v _ hs).mono ?_
  rintro e W2 ⟨rfl, b2⟩
  have z2 := carry y2 b2
  go_wp2_with (refine wpList_store_row rfl 24 (.tmp 6) _ rfl (w.heap.size + 1) #[.int .i64 0, .int .i64 0, .slice none 0 0] rfl rfl _ _ z2 (by kernel_rfl) rfl (one3v _ _ _ _ _) ?_)
  (try simp only [Exit.inBlock, Exit.then])
  refine bodyPost_ret (v := .tuple #[.agg #[.int .i64 0, .int .i64 0, .slice none 0 0], .int .i64 3]) ?_ rfl ⟨rfl, below_setRow (k1.trans (b2.mono k1.size)) (by omega) _⟩
  exact results_row_tmp rfl _ _ (w.heap.size + 1) _ _ _ _ rfl (setRow_heap _ _ _ _ _ _ z2) Tryd.underlying24 rfl (by kernel_rfl) _ rfl
set_option maxHeartbeats 4000000 in
theorem resize_good (m p b o cx n hh : Nat) (fs : List C) (w : World) (hT : Txt.Tab w) (hC : CellsAt w b o fs) (hl : fs.length ≤ cx) (hm : cx ≤ 9223372036854775807) (hok : gridErr m p fs = 0) (hs : isSize n hh = true) :
    Calls Tryd.prog 27 #[.agg #[.int .i64 (m : Int), .int .i64 (p : Int), .slice (some ⟨b, o, none⟩) fs.length cx], .int .i64 (n : Int), .int .i64 (hh : Int)] w fun e w' => ∃ v, e = .returned (.tuple #[.agg #[.int .i64 (n : Int), .int .i64 (hh : Int), v], .int .i64 0]) ∧ OwnG w' w.heap.size v (layG n hh (newL n hh) m p fs 0 0) ∧ Below w.heap.size w w' := by
  obtain ⟨-, q1, q2, q3, q4, -, hne⟩ := okRange m p fs hok
  have hS : SliceAt w (.slice (some ⟨b, o, none⟩) fs.length cx) fs := .inr ⟨hne, b, o, cx, rfl, hl, hm, hC⟩
  obtain ⟨x0, xr, kk, hsz⟩ := alloc2' w (.cells #[.int .i64 (m : Int), .int .i64 (p : Int), .slice (some ⟨b, o, none⟩) fs.length cx] 24) (.cells #[.int .i64 0, .int .i64 0, .slice none 0 0] 24)
  have HK := check_ok m p _ fs _ (Tab.next hT kk) (hS.below kk) hok
  have HLN : Hid (∀ W, Below w.heap.size w W → Calls Tryd.prog 49 #[.agg #[.int .i64 (m : Int), .int .i64 (p : Int), .slice (some ⟨b, o, none⟩) fs.length cx], .int .i64 (n : Int), .int .i64 (hh : Int), .int .i64 0, .int .i64 0] W fun e w' => ∃ v, e = .returned (.tuple #[.agg #[.int .i64 (n : Int), .int .i64 (hh : Int), v], .int .i64 0]) ∧ OwnG w' W.heap.size v (layG n hh (newL n hh) m p fs 0 0) ∧ Below W.heap.size W w') := fun W k =>
    lon_good m p b o cx n hh 0 0 fs W (Tab.next hT k) (hC.below k) hok hl hm hs (by omega) (by omega) (by omega) (by omega)
  generalize layG n hh (newL n hh) m p fs 0 0 = res at HLN ⊢
  clear hok hT hS hC hs
  go_enter Tryd.func27, Tryd.ntmps27
  go_wp2_with fail
  refine HK.mono ?_
  rintro e W1 ⟨rfl, b1⟩
  have k1 := kk.trans (b1.mono kk.size)
  have y2 := carry xr b1
  obtain ⟨c0, c1, c2, _⟩ := cells3 (carry x0 b1)
  go_wp2_with fail
  refine (HLN.out _ k1).mono ?_
  rintro e W3 ⟨_, rfl, ⟨g, cap, rest, t, rfl, hgb, hlc, hcm, hgh⟩, b3⟩
  have k3 := k1.trans (b3.mono k1.size)
  have u2 := carry y2 b3
  have hN2 : w.heap.size + 1 < W1.heap.size := blk_lt y2
  go_wp2_with (refine wpList_store_row rfl 24 (.tmp 6) _ rfl (w.heap.size + 1) #[.int .i64 (n : Int), .int .i64 (hh : Int), .slice (some ⟨g, 0, none⟩) res.length cap] rfl rfl _ _ u2 (by kernel_rfl) rfl (one3v _ _ _ _ _) ?_)
  (try simp only [Exit.inBlock, Exit.then])
  refine bodyPost_ret (v := .tuple #[.agg #[.int .i64 (n : Int), .int .i64 (hh : Int), .slice (some ⟨g, 0, none⟩) res.length cap], .int .i64 0]) ?_ rfl ⟨_, rfl, ⟨g, cap, rest, t, rfl, by omega, hlc, hcm, ?_⟩, below_setRow k3 (by omega) _⟩
  · exact results_row_tmp rfl _ _ (w.heap.size + 1) _ _ _ _ rfl (setRow_heap _ _ _ _ _ _ u2) Tryd.underlying24 rfl (by kernel_rfl) _ rfl
  · rw [setRow_other _ _ _ _ (by omega)]
    exact hgh
end Grd
end Go.Proofs.YtinhmklpnkikgaaDoor

/- Plain mathematics on the runes of a text, over the model's own decoding of UTF-8: no program is named. -/
namespace Go.Proofs.YtinhmklpnkikgaaDoor
namespace Txt

/-- The runes of s from place pos on, each with how many bytes it takes; at most so many. -/
def rs (s : ByteArray) : Nat → Nat → List (Int × Nat)
  | 0, _ => []
  | f + 1, pos => if pos < s.size then (((Utf8.decode s pos).1 : Int), (Utf8.decode s pos).2) :: rs s f (pos + (Utf8.decode s pos).2) else []
def runes (s : ByteArray) : List (Int × Nat) := rs s s.size 0
def wideL : List (Int × Nat) → Int
  | [] => 0
  | x :: t => wd x.1 + wideL t
def wideS (s : ByteArray) : Int := wideL (runes s)
/-- How many bytes of a text's runes are left when it is cut: 'w' cells have been taken. -/
def cutL (n : Int) : List (Int × Nat) → Int → Nat
  | [], _ => 0
  | x :: t, w => if n < w + wd x.1 then 0 else x.2 + cutL n t (w + wd x.1)
def cutS (s : ByteArray) (n : Int) : List UInt8 := s.data.toList.take (cutL n (runes s) 0)

theorem width_pos (s : ByteArray) (pos : Nat) (h : pos < s.size) : 1 ≤ (Utf8.decode s pos).2 := by
  by_cases ha : (s[pos]'h).toNat < 128
  · rw [decode_ascii s pos h ha]
    exact Nat.le_refl _
  · exact (decode_high s pos h (by omega)).2
theorem rs_end (s : ByteArray) (f pos : Nat) (h : ¬ pos < s.size) : rs s f pos = [] := by
  cases f with
  | zero => rfl
  | succ f => simp [rs, h]
theorem rs_step (s : ByteArray) (f pos : Nat) (h : pos < s.size) : rs s (f + 1) pos = (((Utf8.decode s pos).1 : Int), (Utf8.decode s pos).2) :: rs s f (pos + (Utf8.decode s pos).2) := by
  simp [rs, h]
theorem decode_fits (s : ByteArray) (pos : Nat) (h : pos < s.size) : pos + (Utf8.decode s pos).2 ≤ s.size := by
  simp only [Utf8.decode]
  repeat' split
  all_goals simp_all
  all_goals omega
theorem wideL_range : ∀ l : List (Int × Nat), 0 ≤ wideL l ∧ wideL l ≤ 2 * l.length
  | [] => by simp [wideL]
  | x :: t => by
    have := wideL_range t
    have := wd_range x.1
    simp only [wideL, List.length_cons]
    omega
theorem rs_length (s : ByteArray) : ∀ f pos : Nat, pos ≤ s.size → (rs s f pos).length + pos ≤ s.size
  | 0, _, h => by simpa [rs] using h
  | f + 1, pos, h => by
    by_cases hp : pos < s.size
    · have h1 := rs_length s f (pos + (Utf8.decode s pos).2) (decode_fits s pos hp)
      have h2 := width_pos s pos hp
      rw [rs_step s f pos hp, List.length_cons]
      omega
    · rw [rs_end s _ pos hp]; simpa using h
theorem wideS_range (s : ByteArray) : 0 ≤ wideS s ∧ wideS s ≤ 2 * s.size := by
  have h1 := wideL_range (runes s)
  have h2 := rs_length s s.size 0 (Nat.zero_le _)
  unfold wideS
  unfold runes at h1 ⊢
  omega
end Txt
end Go.Proofs.YtinhmklpnkikgaaDoor

/- The walk of grid.Write: what is refused. -/
namespace Go.Proofs.YtinhmklpnkikgaaDoor
open Go.ChangeShapes Go.WideShapes Go.ChangeAt Go.RowKit
namespace Grd
open Txt (wd)
open Sty (isSt)
theorem Apart.iterNew {N : Nat} {S : List Nat} {a b : World} (h : Apart N S a b) (g : Nat) (s : ByteArray) (p : Nat) (hg : a.heap.size ≤ g) (hN : N ≤ g) : Apart N S a (b.iterAt g s p) :=
  ⟨Lib.below_iterAt h.1 hN s p, fun i hi hl => (Lib.iterAt_other _ _ _ _ _ (by omega)).trans (h.2 i hi hl)⟩
theorem holds_to (n hh : Nat) (v : Value) (x y a b : Int) (q : Bool) (hq : holdsI n hh x y a b = q) (w : World) (hn : n ≤ 120) (hh' : hh ≤ 60) (hx0 : -9223372036854775808 ≤ x) (hx1 : x ≤ 9223372036854775807) (hy0 : -9223372036854775808 ≤ y) (hy1 : y ≤ 9223372036854775807) :
    Calls Tryd.prog 47 #[.agg #[.int .i64 (n : Int), .int .i64 (hh : Int), v], .agg #[.int .i64 x, .int .i64 y, .int .i64 a, .int .i64 b]] w fun e w' => e = .returned (.bool q) ∧ Below w.heap.size w w' := by
  have := holds_any n hh v x y a b w hn hh' hx0 hx1 hy0 hy1
  rwa [hq] at this
set_option maxHeartbeats 1000000 in
theorem write_bad1 (a h : Int) (v : Value) (cs : List C) (px py f bk x : Int) (s : ByteArray) (w : World) (hT : Txt.Tab w) (hS : SliceAt w v cs) (hok : gridErr a h cs ≠ 0) :
    Calls Tryd.prog 22 #[.agg #[.int .i64 a, .int .i64 h, v], .int .i64 px, .int .i64 py, .string s, .agg #[.int .i64 f, .int .i64 bk, .int .i64 x]] w fun e w' => e = .returned (.tuple #[.agg #[.int .i64 0, .int .i64 0, .slice none 0 0], .int .i64 (gridErr a h cs)]) ∧ Below w.heap.size w w' := by
  obtain ⟨_, _, x2, kk, hsz⟩ := alloc3 w (.cells #[.int .i64 a, .int .i64 h, v] 24) (.cells #[.int .i64 f, .int .i64 bk, .int .i64 x] 38) (.cells #[.int .i64 0, .int .i64 0, .slice none 0 0] 24)
  have HK := check_any a h v cs _ (Tab.next hT kk) (hS.below kk)
  generalize hW0 : (((w.alloc (.cells #[.int .i64 a, .int .i64 h, v] 24)).alloc (.cells #[.int .i64 f, .int .i64 bk, .int .i64 x] 38)).alloc (.cells #[.int .i64 0, .int .i64 0, .slice none 0 0] 24)) = W0 at x2 kk hsz HK
  have HW0 : Hid (_ = W0) := hW0
  generalize gridErr a h cs = er at *
  have HK' : Hid (Calls Tryd.prog 11 #[.agg #[.int .i64 a, .int .i64 h, v]] W0 fun e w' => e = .returned (.int .i64 er) ∧ Below W0.heap.size W0 w') := HK
  have ne : (er != 0) = true := by simpa using hok
  clear HK hW0 hok
  go_enter Tryd.func22, Tryd.ntmps22
  go_wp2_with (first
    | (go_at_call 11; rw [HW0.out]; refine HK'.out.mono ?_; rintro e W1 ⟨rfl, b1⟩; have y2 := carry x2 b1)
    | (refine wpList_store_row rfl 24 (.tmp 10) _ rfl (w.heap.size + 2) #[.int .i64 0, .int .i64 0, .slice none 0 0] rfl rfl _ _ y2 (by kernel_rfl) rfl (one3v _ _ _ _ _) ?_))
  (try simp only [Exit.inBlock, Exit.then])
  refine bodyPost_ret (v := .tuple #[.agg #[.int .i64 0, .int .i64 0, .slice none 0 0], .int .i64 er]) ?_ rfl ⟨rfl, below_setRow (kk.trans (b1.mono kk.size)) (by omega) _⟩
  exact results_row_tmp rfl _ _ (w.heap.size + 2) _ _ _ _ rfl (setRow_heap _ _ _ _ _ _ y2) Tryd.underlying24 rfl (by kernel_rfl) _ rfl
set_option maxHeartbeats 1000000 in
theorem write_bad2 (n hh : Nat) (v : Value) (cs : List C) (px py f bk x : Int) (s : ByteArray) (w : World) (hT : Txt.Tab w) (hS : SliceAt w v cs) (hok : gridErr n hh cs = 0) (hx0 : -9223372036854775808 ≤ px) (hx1 : px ≤ 9223372036854775807) (hy0 : -9223372036854775808 ≤ py) (hy1 : py ≤ 9223372036854775807) (hold : holdsI n hh px py 1 1 = false) :
    Calls Tryd.prog 22 #[.agg #[.int .i64 (n : Int), .int .i64 (hh : Int), v], .int .i64 px, .int .i64 py, .string s, .agg #[.int .i64 f, .int .i64 bk, .int .i64 x]] w fun e w' => e = .returned (.tuple #[.agg #[.int .i64 0, .int .i64 0, .slice none 0 0], .int .i64 4]) ∧ Below w.heap.size w w' := by
  obtain ⟨x0, x1, x2, kk, hsz⟩ := alloc3 w (.cells #[.int .i64 (n : Int), .int .i64 (hh : Int), v] 24) (.cells #[.int .i64 f, .int .i64 bk, .int .i64 x] 38) (.cells #[.int .i64 0, .int .i64 0, .slice none 0 0] 24)
  have HK := check_ok n hh v cs _ (Tab.next hT kk) (hS.below kk) hok
  have ⟨_, _, _, p3, _, p5⟩ := prod_in n hh ((gridErr_zero n hh cs).1 hok).1
  clear hT hS hok
  generalize hW0 : (((w.alloc (.cells #[.int .i64 (n : Int), .int .i64 (hh : Int), v] 24)).alloc (.cells #[.int .i64 f, .int .i64 bk, .int .i64 x] 38)).alloc (.cells #[.int .i64 0, .int .i64 0, .slice none 0 0] 24)) = W0 at x0 x1 x2 kk hsz HK
  have HW0 : Hid (_ = W0) := hW0
  have HK' : Hid (Calls Tryd.prog 11 #[.agg #[.int .i64 (n : Int), .int .i64 (hh : Int), v]] W0 fun e w' => e = .returned (.int .i64 0) ∧ Below W0.heap.size W0 w') := HK
  clear HK hW0
  have HH : Hid (holdsI n hh px py 1 1 = false) := hold
  clear hold
  go_enter Tryd.func22, Tryd.ntmps22
  go_wp2_with (first
    | (go_at_call 11; rw [HW0.out]; refine HK'.out.mono ?_; rintro e W1 ⟨rfl, b1⟩; have k1 := kk.trans (b1.mono kk.size); have y2 := carry x2 b1; have y1 := carry x1 b1; have y0 := carry x0 b1; have ⟨e0, e1, e2, _⟩ := cells3 y0)
    | (go_at_call 47; refine (holds_to n hh v px py 1 1 _ HH.out _ (by omega) (by omega) hx0 hx1 hy0 hy1).mono ?_; rintro e W2 ⟨rfl, b2⟩; have k2 := k1.trans (b2.mono k1.size); have z2 := carry y2 b2; have ⟨d0, d1, d2, _⟩ := cells3 (carry y1 b2))
    | (refine wpList_store_row rfl 24 (.tmp 10) _ rfl (w.heap.size + 2) #[.int .i64 0, .int .i64 0, .slice none 0 0] rfl rfl _ _ z2 (by kernel_rfl) rfl (one3v _ _ _ _ _) ?_))
  (try simp only [Exit.inBlock, Exit.then])
  refine bodyPost_ret (v := .tuple #[.agg #[.int .i64 0, .int .i64 0, .slice none 0 0], .int .i64 4]) ?_ rfl ⟨rfl, below_setRow k2 (by omega) _⟩
  exact results_row_tmp rfl _ _ (w.heap.size + 2) _ _ _ _ rfl (setRow_heap _ _ _ _ _ _ z2) Tryd.underlying24 rfl (by kernel_rfl) _ rfl
set_option maxHeartbeats 1000000 in
theorem write_bad3 (n hh : Nat) (v : Value) (cs : List C) (px py f bk x : Int) (s : ByteArray) (w : World) (hT : Txt.Tab w) (hS : SliceAt w v cs) (hok : gridErr n hh cs = 0) (hx0 : -9223372036854775808 ≤ px) (hx1 : px ≤ 9223372036854775807) (hy0 : -9223372036854775808 ≤ py) (hy1 : py ≤ 9223372036854775807) (hold : holdsI n hh px py 1 1 = true) (hs : isSt (f, bk, x) = false) :
    Calls Tryd.prog 22 #[.agg #[.int .i64 (n : Int), .int .i64 (hh : Int), v], .int .i64 px, .int .i64 py, .string s, .agg #[.int .i64 f, .int .i64 bk, .int .i64 x]] w fun e w' => e = .returned (.tuple #[.agg #[.int .i64 0, .int .i64 0, .slice none 0 0], .int .i64 4]) ∧ Below w.heap.size w w' := by
  obtain ⟨x0, x1, x2, kk, hsz⟩ := alloc3 w (.cells #[.int .i64 (n : Int), .int .i64 (hh : Int), v] 24) (.cells #[.int .i64 f, .int .i64 bk, .int .i64 x] 38) (.cells #[.int .i64 0, .int .i64 0, .slice none 0 0] 24)
  have HK := check_ok n hh v cs _ (Tab.next hT kk) (hS.below kk) hok
  have ⟨_, _, _, p3, _, p5⟩ := prod_in n hh ((gridErr_zero n hh cs).1 hok).1
  clear hT hS hok
  generalize hW0 : (((w.alloc (.cells #[.int .i64 (n : Int), .int .i64 (hh : Int), v] 24)).alloc (.cells #[.int .i64 f, .int .i64 bk, .int .i64 x] 38)).alloc (.cells #[.int .i64 0, .int .i64 0, .slice none 0 0] 24)) = W0 at x0 x1 x2 kk hsz HK
  have HW0 : Hid (_ = W0) := hW0
  have HK' : Hid (Calls Tryd.prog 11 #[.agg #[.int .i64 (n : Int), .int .i64 (hh : Int), v]] W0 fun e w' => e = .returned (.int .i64 0) ∧ Below W0.heap.size W0 w') := HK
  clear HK hW0
  have HH : Hid (holdsI n hh px py 1 1 = true) := hold
  have HS : Hid (isSt (f, bk, x) = false) := hs
  clear hold hs
  go_enter Tryd.func22, Tryd.ntmps22
  go_wp2_with (first
    | (go_at_call 11; rw [HW0.out]; refine HK'.out.mono ?_; rintro e W1 ⟨rfl, b1⟩; have k1 := kk.trans (b1.mono kk.size); have y2 := carry x2 b1; have y1 := carry x1 b1; have y0 := carry x0 b1; have ⟨e0, e1, e2, _⟩ := cells3 y0)
    | (go_at_call 47; refine (holds_to n hh v px py 1 1 _ HH.out _ (by omega) (by omega) hx0 hx1 hy0 hy1).mono ?_; rintro e W2 ⟨rfl, b2⟩; have k2 := k1.trans (b2.mono k1.size); have z2 := carry y2 b2; have ⟨d0, d1, d2, _⟩ := cells3 (carry y1 b2))
    | (go_at_call 41; refine (check_to f bk x _ HS.out _).mono ?_; rintro e W3 ⟨rfl, b3⟩; have k3 := k2.trans (b3.mono k2.size); have u2 := carry z2 b3)
    | (refine wpList_store_row rfl 24 (.tmp 10) _ rfl (w.heap.size + 2) #[.int .i64 0, .int .i64 0, .slice none 0 0] rfl rfl _ _ u2 (by kernel_rfl) rfl (one3v _ _ _ _ _) ?_))
  (try simp only [Exit.inBlock, Exit.then])
  refine bodyPost_ret (v := .tuple #[.agg #[.int .i64 0, .int .i64 0, .slice none 0 0], .int .i64 4]) ?_ rfl ⟨rfl, below_setRow k3 (by omega) _⟩
  exact results_row_tmp rfl _ _ (w.heap.size + 2) _ _ _ _ rfl (setRow_heap _ _ _ _ _ _ u2) Tryd.underlying24 rfl (by kernel_rfl) _ rfl
end Grd
end Go.Proofs.YtinhmklpnkikgaaDoor

/- The walk of grid.Write: a right place and a right style. -/
namespace Go.Proofs.YtinhmklpnkikgaaDoor
open Go.ChangeShapes Go.WideShapes Go.ChangeAt Go.RowKit
namespace Grd
open Txt (wd)
open Sty (isSt)
theorem cell4_size : (Tryd.prog.info? 40).map (·.size) = some 4 := by kernel_rfl
def writeF (X Y : Nat) (l : List (Int × Nat)) (look : Int × Int × Int) (y : Nat) (row : List C) : List C := if y = Y then mendL (writeR look l row X) else row
def writeG (n hh : Nat) (cs : List C) (X Y : Nat) (l : List (Int × Nat)) (look : Int × Int × Int) : List C := preF n cs (writeF X Y l look) hh
theorem writeF_len (n X Y : Nat) (l : List (Int × Nat)) (look : Int × Int × Int) : KeepLen n (writeF X Y l look) := fun y row h => by
  unfold writeF
  split
  · rw [mendL_len, writeR_len, h]
  · exact h
theorem writeR_stop (look : Int × Int × Int) (r : Int × Nat) (t : List (Int × Nat)) (row : List C) (x n : Nat) (hn : row.length = n) (h : (n : Int) - x < wd r.1) : writeR look (r :: t) row x = row := by
  unfold writeR; rw [hn, if_pos h]
theorem writeR_go (look : Int × Int × Int) (r : Int × Nat) (t : List (Int × Nat)) (row : List C) (x n : Nat) (hn : row.length = n) (h : ¬ (n : Int) - x < wd r.1) : writeR look (r :: t) row x = writeR look t (writeOne look row x r.1) (x + (wd r.1).toNat) := by
  rw [writeR, hn, if_neg h]
/-- A store of one cell, the world behind it a name. -/
theorem wpList_store_cell {ops : Array Oper} {rest : List Oper} {op : Oper} {a : Act} {w : World} {Q : Exit → Act → World → Prop} (hgd : op.guard = none) (x y : Operand) (ho : op.op = .store 40 x y)
    (g o : Nat) (c : C) (hx : a.eval x = .pointer (some ⟨g, o, none⟩)) (hy : a.eval y = .agg #[.int .i32 c.1, .int .i64 c.2.1, .int .i64 c.2.2.1, .int .i64 c.2.2.2]) (ht : w.there g o 4)
    (h : ∀ Z, Z = w.setCells g o (words c) → wpList Tryd.prog ops Q rest (a.put op.dst undef) Z) : wpList Tryd.prog ops Q (op :: rest) a w :=
  wpList_store_mid hgd 40 x y ho g o _ hx hy ht cell4_size (words_one c) (h _ rfl)
set_option maxHeartbeats 8000000 in
theorem write_good (n hh b o cx X Y : Nat) (cs : List C) (f bk x : Int) (s : ByteArray) (w : World) (hT : Txt.Tab w) (hC : CellsAt w b o cs) (hok : gridErr n hh cs = 0) (hc : cs.length ≤ cx) (hm : cx ≤ 9223372036854775807) (hX : X < n) (hY : Y < hh) (hs : isSt (f, bk, x) = true) :
    Calls Tryd.prog 22 #[.agg #[.int .i64 (n : Int), .int .i64 (hh : Int), .slice (some ⟨b, o, none⟩) cs.length cx], .int .i64 (X : Int), .int .i64 (Y : Int), .string s, .agg #[.int .i64 f, .int .i64 bk, .int .i64 x]] w fun e w' => ∃ v, e = .returned (.tuple #[.agg #[.int .i64 (n : Int), .int .i64 (hh : Int), v], .int .i64 0]) ∧ OwnG w' w.heap.size v (writeG n hh cs X Y (Txt.runes s) (f, bk, x)) ∧ Below w.heap.size w w' := by
  obtain ⟨hsize, hL, hrows⟩ := (gridErr_zero n hh cs).1 hok
  have ⟨p0, p1, p2, p3, p4, p5⟩ := prod_in n hh hsize
  have hne : cs ≠ [] := by
    intro h
    rw [h, List.length_nil] at hL
    have : 0 < n * hh := Nat.mul_pos (by omega) (by omega)
    omega
  have hl2 : cs.length ≤ 7200 := by
    have : ((n * hh : Nat) : Int) ≤ 7200 := by rw [Int.natCast_mul]; exact p1
    omega
  have hS : SliceAt w (.slice (some ⟨b, o, none⟩) cs.length cx) cs := .inr ⟨hne, b, o, cx, rfl, hc, hm, hC⟩
  obtain ⟨x0, x1, x2, kk, hsz⟩ := alloc3 w (.cells #[.int .i64 (n : Int), .int .i64 (hh : Int), .slice (some ⟨b, o, none⟩) cs.length cx] 24) (.cells #[.int .i64 f, .int .i64 bk, .int .i64 x] 38) (.cells #[.int .i64 0, .int .i64 0, .slice none 0 0] 24)
  have HK := check_ok n hh _ cs _ (Tab.next hT kk) (hS.below kk) hok
  have HT : Hid (∀ W, Below w.heap.size w W → Txt.Tab W) := fun W k => Tab.next hT k
  have HTP : Hid (0 < w.heap.size) := hT.pos
  have HC : Hid (CellsAt w b o cs) := hC
  have HL : Hid (cs.length = n * hh) := hL
  have HMW : Hid (Alike (writeR (f, bk, x) (Txt.runes s) (rowAt n cs Y) X)) := (meant_write (f, bk, x) hs (Txt.runes s) _ X (hrows Y hY).1).alike
  have HH : Hid (holdsI n hh X Y 1 1 = true) := by unfold Hid holdsI; rw [decide_eq_true_eq]; omega
  clear hT hS hok hC hne hrows hL p0 p1 hsize
  generalize hW0 : (((w.alloc (.cells #[.int .i64 (n : Int), .int .i64 (hh : Int), .slice (some ⟨b, o, none⟩) cs.length cx] 24)).alloc (.cells #[.int .i64 f, .int .i64 bk, .int .i64 x] 38)).alloc (.cells #[.int .i64 0, .int .i64 0, .slice none 0 0] 24)) = W0 at x0 x1 x2 kk hsz HK
  have HW0 : Hid (_ = W0) := hW0
  have HK' : Hid (Calls Tryd.prog 11 #[.agg #[.int .i64 (n : Int), .int .i64 (hh : Int), .slice (some ⟨b, o, none⟩) cs.length cx]] W0 fun e w' => e = .returned (.int .i64 0) ∧ Below W0.heap.size W0 w') := HK
  have HS : Hid (isSt (f, bk, x) = true) := hs
  clear HK hW0 hs
  go_enter Tryd.func22, Tryd.ntmps22
  go_wp2_with (first
    | (go_at_call 11; rw [HW0.out]; refine HK'.out.mono ?_; rintro e W1 ⟨rfl, b1⟩; have k1 := kk.trans (b1.mono kk.size); have y2 := carry x2 b1; have y1 := carry x1 b1; have y0 := carry x0 b1; have ⟨e0, e1, e2, _⟩ := cells3 y0)
    | (go_at_call 47; refine (holds_to n hh _ X Y 1 1 _ HH.out _ (by omega) (by omega) (by omega) (by omega) (by omega) (by omega)).mono ?_; rintro e W2 ⟨rfl, b2⟩; have k2 := k1.trans (b2.mono k1.size); have z2 := carry y2 b2; have z1 := carry y1 b2; have z0 := carry y0 b2; have ⟨d0, d1, d2, _⟩ := cells3 z1)
    | (go_at_call 41; refine (check_to f bk x _ HS.out _).mono ?_; rintro e W3 ⟨rfl, b3⟩; have k3 := k2.trans (b3.mono k2.size); have u2 := carry z2 b3; have u1 := carry z1 b3; have u0 := carry z0 b3; have ⟨g0, g1, g2, _⟩ := cells3 u0)
    | (go_at_call 42; refine (copyOf_any n hh b o cx cs _ (HC.out.below k3) (by omega)).mono ?_; rintro e W4 ⟨v4, rfl, ⟨g, cap, rest, t, rfl, hgb, hlc, hcm, hgh⟩, b4⟩; have hW4 := heap_alloc_new W4 (.cells #[.int .i64 0, .int .i64 0, .slice none 0 0] 24))
    | (refine wpList_store_row rfl 24 (.tmp 13) _ rfl W4.heap.size #[.int .i64 (n : Int), .int .i64 (hh : Int), .slice (some ⟨g, 0, none⟩) cs.length cap] rfl rfl _ _ hW4 (by kernel_rfl) rfl (one3v _ _ _ _ _) ?_; have qM0 := setRow_heap _ _ _ #[.int .i64 (n : Int), .int .i64 (hh : Int), .slice (some ⟨g, 0, none⟩) cs.length cap] _ _ hW4)
    | (refine wpList_load_row rfl 24 _ rfl W4.heap.size rfl _ _ _ _ qM0 Tryd.underlying24 rfl (by kernel_rfl) ?_)
    | (go_at_call 36; refine (rowOf_any g 0 cs.length cap n Y hh _ (by omega) (row_fits n hh _ Y HL.out hY) hlc hcm).mono ?_; rintro e W5 ⟨rfl, b5⟩))
  have hsz1 := b1.size
  have hsz2 := b2.size
  have hsz3 := b3.size
  have hsz4 := b4.size
  have hg4 : g < W4.heap.size := blk_lt hgh
  have hX' : ∀ k o', W4.heap[k]? = some o' → W5.heap[k]? = some o' := fun k o' hk => carry (by
    have := blk_lt hk
    rw [setRow_other _ _ _ _ (by omega), Below.heap_alloc _ _ _ this, hk]) b5
  have q1 := hX' _ _ (carry u1 b4)
  have q3 := hX' _ _ (carry u2 b4)
  have qg := hX' _ _ hgh
  have qM := carry qM0 b5
  have k4 := k3.trans (b4.mono k3.size)
  have kY : Below w.heap.size w W5 := (below_setRow (k4.alloc k4.size (.cells #[.int .i64 0, .int .i64 0, .slice none 0 0] 24)) k4.size #[.int .i64 (n : Int), .int .i64 (hh : Int), .slice (some ⟨g, 0, none⟩) cs.length cap]).trans (b5.mono (by simp; omega))
  have hgN : w.heap.size + 3 ≤ g := by omega
  have hMW : W4.heap.size < W5.heap.size := blk_lt qM
  generalize hM : W4.heap.size = M at *
  clear hX' qM0 hW4 hgh u0 u1 u2 g0 g1 g2 b4 b3 z0 z1 z2 d0 d1 d2 b2 y0 y1 y2 e0 e1 e2 b1 x0 x1 x2 HW0 HK' k1 k2 k3 k4 kk hsz hsz1 hsz2 hsz3 hsz4 hgb b5 hM HS HH
  generalize W5 = Y0 at *
  have HGL : Hid ((writeG n hh cs X Y (Txt.runes s) (f, bk, x)).length = cs.length) := by
    unfold Hid writeG
    rw [preF_len n hh cs _ HL.out (writeF_len n X Y _ _) hh (Nat.le_refl _), HL.out, Nat.mul_comm]
  have hst0 := upto_start n hh cs (writeF X Y (Txt.runes s) (f, bk, x)) Y (fun y hy => by unfold writeF; rw [if_neg (by omega)])
  rw [upto_at n hh cs _ Y hY] at hst0
  have hen0 := upto_end n hh cs (writeF X Y (Txt.runes s) (f, bk, x)) HL.out (Y + 1) (fun y hy => by unfold writeF; rw [if_neg (by omega)])
  rw [upto_next n hh cs _ Y hY] at hen0
  have hpl : (flat (preF n cs (writeF X Y (Txt.runes s) (f, bk, x)) Y)).length = Y * n * 4 := by rw [flat_len, preF_len n hh cs _ HL.out (writeF_len n X Y _ _) Y (by omega)]
  have hqg : flat cs ++ rest = flat (preF n cs (writeF X Y (Txt.runes s) (f, bk, x)) Y) ++ (flat (rowAt n cs Y) ++ (flat (cs.drop ((Y + 1) * n)) ++ rest)) := by
    rw [← flat_three, hst0]
  have HGE : Hid (flat (preF n cs (writeF X Y (Txt.runes s) (f, bk, x)) Y) ++ (flat (mendL (writeR (f, bk, x) (Txt.runes s) (rowAt n cs Y) X)) ++ (flat (cs.drop ((Y + 1) * n)) ++ rest)) = flat (writeG n hh cs X Y (Txt.runes s) (f, bk, x)) ++ rest) := by
    unfold Hid writeG
    rw [← hen0, flat_three]
    unfold writeF
    rw [if_pos rfl]
  have hrl := row_len n hh cs Y HL.out hY
  rw [hqg] at qg
  clear hqg hst0 hen0
  generalize flat (preF n cs (writeF X Y (Txt.runes s) (f, bk, x)) Y) = pre at *
  generalize flat (cs.drop ((Y + 1) * n)) ++ rest = post at *
  generalize rowAt n cs Y = row0 at *
  generalize Y * n * 4 = off at *
  have HPL : Hid (pre.length = off) := hpl
  have HRL : Hid (row0.length = n) := hrl
  clear hpl hrl
  go_loopw [1] (fun a wr => ∃ (pos fu xx : Nat) (row : List C), wr.heap[Y0.heap.size]? = some (.stringIter s pos) ∧ Apart g [g] Y0 wr ∧ a = .int .i64 (xx : Int) ∧ xx ≤ n ∧ row.length = n ∧ wr.heap[g]? = some (.cells (pre ++ (flat row ++ post)).toArray t (0, 0)) ∧ writeR (f, bk, x) (Txt.rs s fu pos) row xx = writeR (f, bk, x) (Txt.runes s) row0 X ∧ s.size ≤ pos + fu ∧ pos ≤ s.size) (fun _ wr => s.size - wr.iterPos Y0.heap.size)
  case atStart =>
    refine ⟨0, s.size, X, row0, World.iter_heap Y0 s 0, ⟨(Below.refl _ Y0).alloc (by omega) _, fun k _ hk => Below.heap_alloc _ _ _ hk⟩, rfl, by omega, HRL.out, ?_, rfl, by omega, by omega⟩
    exact (Below.heap_alloc _ _ _ (by omega)).trans qg
  case round =>
    obtain ⟨pos, fu, xx, row, hit, hap, rfl, hxn, hrn, hv, heq, hfu, hps⟩ := hrel
    clear qg
    have HEQ : Hid (writeR (f, bk, x) (Txt.rs s fu pos) row xx = writeR (f, bk, x) (Txt.runes s) row0 X) := heq
    have HRN : Hid (row.length = n) := hrn
    clear heq hrn
    by_cases hp : pos < s.size
    · have hnx : ∀ ty, (Instr.next (.pointer (some ⟨Y0.heap.size, 0, none⟩)) true ty).run Tryd.prog wr = _ := fun ty => Lib.run_next_any_at wr Y0.heap.size s pos ty hit hp
      have hwd := Txt.width_pos s pos hp
      have hfit := Txt.decode_fits s pos hp
      obtain ⟨fu, rfl⟩ : ∃ q, fu = q + 1 := ⟨fu - 1, by omega⟩
      have HR : Hid (Txt.rs s (fu + 1) pos = (((Utf8.decode s pos).1 : Int), (Utf8.decode s pos).2) :: Txt.rs s fu (pos + (Utf8.decode s pos).2)) := Txt.rs_step s fu pos hp
      have hwr := Txt.wd_range (Utf8.decode s pos).1
      have hit2 := Lib.iterAt_heap wr Y0.heap.size s pos (pos + (Utf8.decode s pos).2) hit
      have ap2 := hap.iterNew Y0.heap.size s (pos + (Utf8.decode s pos).2) (Nat.le_refl _) (by omega)
      have hv2 := (Lib.iterAt_other wr Y0.heap.size g s (pos + (Utf8.decode s pos).2) (by omega)).trans hv
      have kI2 := kY.trans (ap2.1.mono (show w.heap.size ≤ g by omega))
      have HI : Hid (wr.iterPos Y0.heap.size = pos) := by simp only [Hid, World.iterPos, hit]
      clear hit hap hv
      generalize Utf8.decode s pos = d at *
      by_cases hbr : (n : Int) - xx < wd d.1
      · have HST : Hid (row = writeR (f, bk, x) (Txt.runes s) row0 X) := by
          unfold Hid
          rw [← HEQ.out, HR.out, writeR_stop (f, bk, x) _ _ row xx n HRN.out hbr]
        obtain ⟨wv, hwv⟩ : ∃ q, wd d.1 = q := ⟨_, rfl⟩
        have HW : Hid (wd d.1 = wv) := hwv
        rw [hwv] at hbr hwr
        clear hwv HEQ HR
        go_wp2_with (first
          | (go_at_call 40; refine (width_to d.1 _ (HT.out _ kI2) _ HW.out).mono ?_; rintro e W1 ⟨rfl, b1⟩; have apW := ap2.step b1 (by have := blk_lt hv2; omega); have hvW := carry hv2 b1
             have KM := mend_any g (cap - Y * n) row pre post t W1 hvW (by rw [HRN.out]; omega) (HT.out _ (kY.trans (apW.1.mono (by omega)))) (by have := HTP.out; omega) (by rw [HST.out]; exact HMW.out)
             rw [HRN.out, HPL.out] at KM)
          | (go_at_call 45; refine KM.mono ?_; rintro e W6 ⟨rfl, hv6, ap6⟩; have ap7 := apW.trans ap6; have v3 := ap7.carry q3 (by simp; omega); have vM := ap7.carry qM (by simp; omega); have kW := kY.trans (ap7.1.mono (show w.heap.size ≤ g by omega)))
          | (refine wpList_load_row rfl 24 _ rfl M rfl _ _ _ _ vM Tryd.underlying24 rfl (by kernel_rfl) ?_)
          | (refine wpList_store_row rfl 24 (.tmp 10) _ rfl (w.heap.size + 2) #[.int .i64 (n : Int), .int .i64 (hh : Int), .slice (some ⟨g, 0, none⟩) cs.length cap] rfl rfl _ _ v3 (by kernel_rfl) rfl (one3v _ _ _ _ _) ?_))
        (try simp only [Exit.inBlock, Exit.then])
        refine bodyPost_ret (v := .tuple #[.agg #[.int .i64 (n : Int), .int .i64 (hh : Int), .slice (some ⟨g, 0, none⟩) cs.length cap], .int .i64 0]) ?_ rfl ⟨_, rfl, ?_, below_setRow kW (by omega) _⟩
        · exact results_row_tmp rfl _ _ (w.heap.size + 2) _ _ _ _ rfl (setRow_heap _ _ _ _ _ _ v3) Tryd.underlying24 rfl (by kernel_rfl) _ rfl
        · refine ⟨g, cap, rest, t, by rw [HGL.out], by omega, by rw [HGL.out]; exact hlc, hcm, ?_⟩
          rw [setRow_other _ _ _ _ (by omega), hv6, HST.out, HGE.out]
      · have HGO : Hid (writeR (f, bk, x) (Txt.rs s fu (pos + d.2)) (writeOne (f, bk, x) row xx d.1) (xx + (wd d.1).toNat) = writeR (f, bk, x) (Txt.runes s) row0 X) := by
          unfold Hid
          rw [← HEQ.out, HR.out, writeR_go (f, bk, x) _ _ row xx n HRN.out hbr]
        clear HEQ HR
        rcases (show wd d.1 = 0 ∨ wd d.1 = 1 ∨ wd d.1 = 2 by omega) with h0 | h0 | h0
        · have HG2 : Hid (writeR (f, bk, x) (Txt.rs s fu (pos + d.2)) row xx = writeR (f, bk, x) (Txt.runes s) row0 X) := by
            have := HGO.out
            unfold writeOne at this
            rw [if_pos h0, h0] at this
            exact this
          have HW : Hid (wd d.1 = 0) := h0
          have nb : ¬ (n : Int) - xx < 0 := by omega
          clear h0 hwr hbr HGO
          go_wp2_with (go_at_call 40; refine (width_to d.1 _ (HT.out _ kI2) _ HW.out).mono ?_; rintro e W1 ⟨rfl, b1⟩; have apW := ap2.step b1 (by have := blk_lt hv2; omega); have hvW := carry hv2 b1; have hitW := carry hit2 b1; have ⟨s0, s1, s2, _⟩ := cells3 (apW.carry q1 (by simp; omega)))
          go_roundw
          case rel => exact ⟨pos + d.2, fu, xx, row, hitW, apW, by first | rfl | simp, hxn, HRN.out, hvW, HG2.out, by omega, by omega⟩
          case measure =>
            rw [HI.out]
            simp only [World.iterPos, hitW]
            omega
        · have HG2 : Hid (writeR (f, bk, x) (Txt.rs s fu (pos + d.2)) (row.set xx (d.1, f, bk, x)) (xx + 1) = writeR (f, bk, x) (Txt.runes s) row0 X) := by
            have := HGO.out
            unfold writeOne at this
            rw [if_neg (by omega), if_neg (by omega), h0] at this
            exact this
          have HW : Hid (wd d.1 = 1) := h0
          have nb : ¬ (n : Int) - xx < 1 := by omega
          have hxl : xx < n := by omega
          clear h0 hwr hbr HGO
          go_wp2_with (first
            | (go_at_call 40; refine (width_to d.1 _ (HT.out _ kI2) _ HW.out).mono ?_; rintro e W1 ⟨rfl, b1⟩; have apW := ap2.step b1 (by have := blk_lt hv2; omega); have hvW := carry hv2 b1; have hitW := carry hit2 b1; have ⟨s0, s1, s2, _⟩ := cells3 (apW.carry q1 (by simp; omega)))
            | (refine wpList_store_cell rfl (.tmp 61) (.tmp 60) rfl g (off + xx * 4) (d.1, f, bk, x) rfl rfl (by have := there_cell hvW xx (by rw [HRN.out]; exact hxl); rwa [HPL.out] at this) ?_
               intro Z hZ
               have hvZ := store_cell hvW xx (by rw [HRN.out]; exact hxl) (d.1, f, bk, x)
               have apZ := apW.setCells g (pre.length + xx * 4) (words (d.1, f, bk, x)) (by simp) (Nat.le_refl _)
               have hitZ := (heap_setCells_ne g Y0.heap.size (by omega) (words (d.1, f, bk, x)) (pre.length + xx * 4) W1).trans hitW
               rw [HPL.out, ← hZ] at hvZ apZ hitZ
               clear hZ))
          go_roundw
          case rel => exact ⟨pos + d.2, fu, xx + 1, row.set xx (d.1, f, bk, x), hitZ, apZ, by first | rfl | simp, by omega, by rw [List.length_set, HRN.out], hvZ, HG2.out, by omega, by omega⟩
          case measure =>
            rw [HI.out]
            simp only [World.iterPos, hitZ]
            omega
        · have HG2 : Hid (writeR (f, bk, x) (Txt.rs s fu (pos + d.2)) ((row.set xx (d.1, f, bk, x)).set (xx + 1) (0, f, bk, x)) (xx + 2) = writeR (f, bk, x) (Txt.runes s) row0 X) := by
            have := HGO.out
            unfold writeOne at this
            rw [if_neg (by omega), if_pos h0, h0] at this
            exact this
          have HW : Hid (wd d.1 = 2) := h0
          have nb : ¬ (n : Int) - xx < 2 := by omega
          have hxl : xx + 1 < n := by omega
          clear h0 hwr hbr HGO
          go_wp2_with (first
            | (go_at_call 40; refine (width_to d.1 _ (HT.out _ kI2) _ HW.out).mono ?_; rintro e W1 ⟨rfl, b1⟩; have apW := ap2.step b1 (by have := blk_lt hv2; omega); have hvW := carry hv2 b1; have hitW := carry hit2 b1; have ⟨s0, s1, s2, _⟩ := cells3 (apW.carry q1 (by simp; omega)))
            | (refine wpList_store_cell rfl (.tmp 61) (.tmp 60) rfl g (off + xx * 4) (d.1, f, bk, x) rfl rfl (by have := there_cell hvW xx (by rw [HRN.out]; omega); rwa [HPL.out] at this) ?_
               intro Z hZ
               have hvZ := store_cell hvW xx (by rw [HRN.out]; omega) (d.1, f, bk, x)
               have apZ := apW.setCells g (pre.length + xx * 4) (words (d.1, f, bk, x)) (by simp) (Nat.le_refl _)
               have hitZ := (heap_setCells_ne g Y0.heap.size (by omega) (words (d.1, f, bk, x)) (pre.length + xx * 4) W1).trans hitW
               rw [HPL.out, ← hZ] at hvZ apZ hitZ
               have ⟨t0, t1, t2, _⟩ := cells3 (apZ.carry q1 (by simp; omega))
               clear hZ)
            | (refine wpList_store_cell rfl (.tmp 69) (.tmp 68) rfl g (off + (xx + 1) * 4) (0, f, bk, x) rfl rfl (by have := there_cell hvZ (xx + 1) (by rw [List.length_set, HRN.out]; exact hxl); rwa [HPL.out] at this) ?_
               intro Z2 hZ
               have hvY := store_cell hvZ (xx + 1) (by rw [List.length_set, HRN.out]; exact hxl) (0, f, bk, x)
               have apY := apZ.setCells g (pre.length + (xx + 1) * 4) (words (0, f, bk, x)) (by simp) (Nat.le_refl _)
               have hitY := (heap_setCells_ne g Y0.heap.size (by omega) (words (0, f, bk, x)) (pre.length + (xx + 1) * 4) Z).trans hitZ
               rw [HPL.out, ← hZ] at hvY apY hitY
               clear hZ))
          go_roundw
          case rel => exact ⟨pos + d.2, fu, xx + 2, (row.set xx (d.1, f, bk, x)).set (xx + 1) (0, f, bk, x), hitY, apY, by first | rfl | simp, by omega, by rw [List.length_set, List.length_set, HRN.out], hvY, HG2.out, by omega, by omega⟩
          case measure =>
            rw [HI.out]
            simp only [World.iterPos, hitY]
            omega
    · have hnx : ∀ ty, (Instr.next (.pointer (some ⟨Y0.heap.size, 0, none⟩)) true ty).run Tryd.prog wr = _ := fun ty => Lib.run_next_end_at wr Y0.heap.size s pos ty hit hp
      have HST : Hid (row = writeR (f, bk, x) (Txt.runes s) row0 X) := by
        have := HEQ.out
        rw [Txt.rs_end s fu pos hp] at this
        exact this
      have KM := mend_any g (cap - Y * n) row pre post t wr hv (by rw [HRN.out]; omega) (HT.out _ (kY.trans (hap.1.mono (by omega)))) (by have := HTP.out; omega) (by rw [HST.out]; exact HMW.out)
      rw [HRN.out, HPL.out] at KM
      go_wp2_with (first
        | (go_at_call 45; refine KM.mono ?_; rintro e W6 ⟨rfl, hv6, ap6⟩; have ap7 := hap.trans ap6; have v3 := ap7.carry q3 (by simp; omega); have vM := ap7.carry qM (by simp; omega); have kW := kY.trans (ap7.1.mono (show w.heap.size ≤ g by omega)))
        | (refine wpList_load_row rfl 24 _ rfl M rfl _ _ _ _ vM Tryd.underlying24 rfl (by kernel_rfl) ?_)
        | (refine wpList_store_row rfl 24 (.tmp 10) _ rfl (w.heap.size + 2) #[.int .i64 (n : Int), .int .i64 (hh : Int), .slice (some ⟨g, 0, none⟩) cs.length cap] rfl rfl _ _ v3 (by kernel_rfl) rfl (one3v _ _ _ _ _) ?_))
      (try simp only [Exit.inBlock, Exit.then])
      refine bodyPost_ret (v := .tuple #[.agg #[.int .i64 (n : Int), .int .i64 (hh : Int), .slice (some ⟨g, 0, none⟩) cs.length cap], .int .i64 0]) ?_ rfl ⟨_, rfl, ?_, below_setRow kW (by omega) _⟩
      · exact results_row_tmp rfl _ _ (w.heap.size + 2) _ _ _ _ rfl (setRow_heap _ _ _ _ _ _ v3) Tryd.underlying24 rfl (by kernel_rfl) _ rfl
      · refine ⟨g, cap, rest, t, by rw [HGL.out], by omega, by rw [HGL.out]; exact hlc, hcm, ?_⟩
        rw [setRow_other _ _ _ _ (by omega), hv6, HST.out, HGE.out]
end Grd
end Go.Proofs.YtinhmklpnkikgaaDoor

/- Plain mathematics: what is filled, written, laid or cut is a right grid; what was laid is there again. -/
namespace Go.Proofs.YtinhmklpnkikgaaDoor
namespace Grd
open Txt (wd)
open Sty (isSt)
theorem right_preF (n hh : Nat) (cs : List C) (f : Nat → List C → List C) (hs : isSize n hh = true) (hL : cs.length = n * hh) (hf : KeepLen n f) (h : ∀ y, y < hh → RightRow (f y (rowAt n cs y))) : gridErr n hh (preF n cs f hh) = 0 := by
  rw [gridErr_zero]
  refine ⟨hs, by rw [preF_len n hh cs f hL hf hh (Nat.le_refl _), Nat.mul_comm], fun y hy => ?_⟩
  rw [rowAt_preF n hh cs f hL hf y hh hy (Nat.le_refl _)]
  exact h y hy
theorem right_fill (n hh : Nat) (cs : List C) (rx ry rw rh : Int) (c : C) (hok : gridErr n hh cs = 0) (hw : wd c.1 = 1) (hs : isSt c.2 = true) : gridErr n hh (fillG n hh cs rx ry rw rh c) = 0 := by
  obtain ⟨h1, h2, h3⟩ := (gridErr_zero n hh cs).1 hok
  refine right_preF n hh cs _ h1 h2 (fillF_len n hh rx ry rw rh c) fun y hy => ?_
  unfold fillF
  split
  · exact mend_right _ (meant_fill _ _ c (h3 y hy).1 hw hs)
  · exact h3 y hy
theorem right_write (n hh : Nat) (cs : List C) (X Y : Nat) (l : List (Int × Nat)) (look : Int × Int × Int) (hok : gridErr n hh cs = 0) (hs : isSt look = true) : gridErr n hh (writeG n hh cs X Y l look) = 0 := by
  obtain ⟨h1, h2, h3⟩ := (gridErr_zero n hh cs).1 hok
  refine right_preF n hh cs _ h1 h2 (writeF_len n X Y l look) fun y hy => ?_
  unfold writeF
  split
  · exact mend_right _ (meant_write look hs l _ X (h3 y hy).1)
  · exact h3 y hy
theorem right_lay (n hh m p : Nat) (cs fs : List C) (X Y : Int) (hok : gridErr n hh cs = 0) (hok2 : gridErr m p fs = 0) : gridErr n hh (layG n hh cs m p fs X Y) = 0 := by
  obtain ⟨h1, h2, h3⟩ := (gridErr_zero n hh cs).1 hok
  obtain ⟨_, g2, g3⟩ := (gridErr_zero m p fs).1 hok2
  refine right_preF n hh cs _ h1 h2 (layFn_len n m p fs X Y) fun y hy => ?_
  unfold layFn
  split
  · rename_i hc
    have hq : ((y : Int) - Y).toNat < p := by omega
    have := meant_lay (rowAt n cs y) (rowAt m fs ((y : Int) - Y).toNat) X (h3 y hy).1 (g3 _ hq)
    rw [row_len m p fs _ g2 hq] at this
    exact mend_right _ this
  · exact h3 y hy
theorem right_new (n hh : Nat) (hs : isSize n hh = true) : gridErr n hh (newL n hh) = 0 := by
  rw [gridErr_zero]
  refine ⟨hs, newL_len n hh, fun y hy => ?_⟩
  unfold newL blank
  rw [rowAt_replicate n hh y _ hy]
  exact replicate_right n
theorem preF_rows (n : Nat) (cs ds : List C) (f : Nat → List C → List C) : ∀ k, (∀ y, y < k → f y (rowAt n cs y) = rowAt n ds y) → preF n cs f k = ds.take (k * n)
  | 0, _ => by simp [preF]
  | k + 1, h => by
    show preF n cs f k ++ f k (rowAt n cs k) = _
    rw [preF_rows n cs ds f k (fun y hy => h y (by omega)), h k (by omega), take_row]
/-- What was laid wholly within is there again. -/
theorem lay_back (n hh m p : Nat) (cs fs : List C) (X Y : Nat) (hok : gridErr n hh cs = 0) (hok2 : gridErr m p fs = 0) (hX : X + m ≤ n) (hY : Y + p ≤ hh) :
    layG m p (newL m p) n hh (layG n hh cs m p fs X Y) (-(X : Int)) (-(Y : Int)) = fs := by
  obtain ⟨h1, h2, h3⟩ := (gridErr_zero n hh cs).1 hok
  obtain ⟨g1, g2, g3⟩ := (gridErr_zero m p fs).1 hok2
  have hp := preF_rows m (newL m p) fs (layFn n hh (layG n hh cs m p fs X Y) (-(X : Int)) (-(Y : Int))) p (fun y hy => by
    have hfl := row_len m p fs y g2 hy
    have hnl := row_len m p (newL m p) y (newL_len m p) hy
    have hcl := row_len n hh cs (y + Y) h2 (by omega)
    obtain ⟨fm, fl⟩ := g3 y hy
    have hz : rowAt n (layG n hh cs m p fs X Y) (y + Y) = mendL (putRow (rowAt n cs (y + Y)) (layP m X) (layF (rowAt m fs y) X)) := by
      unfold layG
      rw [rowAt_preF n hh cs _ h2 (layFn_len n m p fs X Y) (y + Y) hh (by omega) (Nat.le_refl _)]
      unfold layFn
      rw [if_pos (by omega)]
      congr 3
      congr 1
      omega
    unfold layFn
    rw [if_pos (by omega)]
    have he : ((y : Int) - -(Y : Int)).toNat = y + Y := by omega
    rw [he, hz]
    generalize rowAt m fs y = fr at *
    generalize rowAt n cs (y + Y) = cr at *
    generalize rowAt m (newL m p) y = nr at *
    have hq : ∀ x, x < m → (putRow cr (layP m X) (layF fr X)).getD (X + x) z0 = fr.getD x z0 := fun x hx => by
      rw [putRow_at _ _ _ _ (by omega), if_pos (by unfold layP; rw [decide_eq_true_eq]; omega)]
      unfold layF
      congr 1
      omega
    have hlo : ∀ x, x < m → loose (putRow cr (layP m X) (layF fr X)) (X + x) = false := fun x hx => by
      have hf := fl x (by omega)
      unfold loose at hf ⊢
      rw [hq x hx, putRow_len, hcl]
      by_cases hr : (fr.getD x z0).1 = 0
      · rw [if_pos hr] at hf ⊢
        simp only [Bool.or_eq_false_iff, decide_eq_false_iff_not, Decidable.not_not] at hf ⊢
        have := hq (x - 1) (by omega)
        rw [show X + (x - 1) = X + x - 1 by omega] at this
        rw [this]
        exact ⟨by omega, hf.2⟩
      · rw [if_neg hr] at hf ⊢
        by_cases hw : wd (fr.getD x z0).1 = 2
        · simp only [hw, decide_true, Bool.true_and, Bool.or_eq_false_iff, decide_eq_false_iff_not, Decidable.not_not] at hf ⊢
          have := hq (x + 1) (by omega)
          rw [show X + (x + 1) = X + x + 1 by omega] at this
          rw [this]
          exact ⟨by omega, hf.2⟩
        · simp [hw, -List.getD_eq_getElem?_getD]
    have hput : putRow nr (layP n (-(X : Int))) (layF (mendL (putRow cr (layP m X) (layF fr X))) (-(X : Int))) = fr := by
      refine ext_getD _ _ (by rw [putRow_len, hnl, hfl]) fun x hx => ?_
      rw [putRow_len, hnl] at hx
      rw [putRow_at _ _ _ _ (by omega), if_pos (by unfold layP; rw [decide_eq_true_eq]; omega)]
      unfold layF
      have e : ((x : Int) - -(X : Int)).toNat = X + x := by omega
      rw [e, mendL_eq, mendM_at _ _ (by rw [putRow_len]; omega)]
      have hl2 := hlo x hx
      have hq2 := hq x hx
      unfold layF at hl2 hq2
      rw [hl2, hq2]
      rfl
    rw [hput]
    exact mendL_fix _ fl)
  show preF m (newL m p) (layFn n hh (layG n hh cs m p fs X Y) (-(X : Int)) (-(Y : Int))) p = fs
  rw [hp, List.take_of_length_le (by rw [g2, Nat.mul_comm]; exact Nat.le_refl _)]
end Grd
end Go.Proofs.YtinhmklpnkikgaaDoor

/- Plain mathematics: a part of a grid, row by row. -/
namespace Go.Proofs.YtinhmklpnkikgaaDoor
namespace Grd
/-- A part of a row. -/
def cutRow (m rx n : Nat) (fs : List C) (y : Nat) : List C := ((rowAt m fs y).drop rx).take n
/-- The first k rows of a part, each mended. -/
def partRows (m rx ry n : Nat) (fs : List C) (k : Nat) : List (List C) := (List.range k).map fun i => mendL (cutRow m rx n fs (ry + i))
theorem partRows_succ (m rx ry n : Nat) (fs : List C) (k : Nat) : partRows m rx ry n fs (k + 1) = partRows m rx ry n fs k ++ [mendL (cutRow m rx n fs (ry + k))] := by simp [partRows, List.range_succ]
theorem partRows_len (m rx ry n : Nat) (fs : List C) (k : Nat) : (partRows m rx ry n fs k).length = k := by simp [partRows]
theorem cutRow_len (m p rx n : Nat) (fs : List C) (y : Nat) (hL : fs.length = m * p) (hy : y < p) (hx : rx + n ≤ m) : (cutRow m rx n fs y).length = n := by
  unfold cutRow
  rw [List.length_take, List.length_drop, row_len m p fs y hL hy]
  omega
theorem partRows_at (m p rx ry n hh : Nat) (fs : List C) (hL : fs.length = m * p) (hx : rx + n ≤ m) (hy : ry + hh ≤ p) (i : Nat) (hi : i < (partRows m rx ry n fs hh).length) : ((partRows m rx ry n fs hh).getD i []).length = n := by
  rw [partRows_len] at hi
  have : (partRows m rx ry n fs hh).getD i [] = mendL (cutRow m rx n fs (ry + i)) := by simp [partRows, List.getD, hi]
  rw [this, mendL_len, cutRow_len m p rx n fs _ hL (by omega) hx]
theorem put_cut (row fr : List C) (m rx n : Nat) (hr : row.length = n) (hf : fr.length = m) (hx : rx + n ≤ m) : putRow row (layP m (-(rx : Int))) (layF fr (-(rx : Int))) = (fr.drop rx).take n := by
  refine List.ext_getElem ?_ fun x h1 h2 => ?_
  · rw [putRow_len, List.length_take, List.length_drop]
    omega
  · rw [putRow_len] at h1
    have e := putRow_at row (layP m (-(rx : Int))) (layF fr (-(rx : Int))) x h1
    have hp : layP m (-(rx : Int)) x = true := by unfold layP; rw [decide_eq_true_eq]; omega
    rw [hp, if_pos rfl] at e
    have hi : ((x : Int) - -(rx : Int)).toNat = rx + x := by omega
    unfold layF at e
    rw [hi] at e
    have hlt : rx + x < fr.length := by omega
    have l2 : (putRow row (layP m (-(rx : Int))) (layF fr (-(rx : Int)))).getD x z0 = (putRow row (layP m (-(rx : Int))) (layF fr (-(rx : Int))))[x]'(by rw [putRow_len]; exact h1) := by
      rw [List.getD, List.getElem?_eq_getElem (by rw [putRow_len]; exact h1)]
      rfl
    have l3 : fr.getD (rx + x) z0 = fr[rx + x] := by
      rw [List.getD, List.getElem?_eq_getElem hlt]
      rfl
    have e2 := l2.symm.trans (e.trans l3)
    refine e2.trans ?_
    rw [List.getElem_take, List.getElem_drop]
theorem part_rows (m p rx ry n hh : Nat) (fs : List C) (hL : fs.length = m * p) (hx : rx + n ≤ m) (hy : ry + hh ≤ p) : layG n hh (newL n hh) m p fs (-(rx : Int)) (-(ry : Int)) = (partRows m rx ry n fs hh).flatten := by
  have key : ∀ k, k ≤ hh → preF n (newL n hh) (layFn m p fs (-(rx : Int)) (-(ry : Int))) k = (partRows m rx ry n fs k).flatten := by
    intro k
    induction k with
    | zero => intro _; simp [preF, partRows]
    | succ k ih =>
      intro hk
      show preF n (newL n hh) (layFn m p fs (-(rx : Int)) (-(ry : Int))) k ++ layFn m p fs (-(rx : Int)) (-(ry : Int)) k (rowAt n (newL n hh) k) = _
      rw [ih (by omega), partRows_succ, List.flatten_append]
      congr 1
      have hi : ((k : Int) - -(ry : Int)).toNat = ry + k := by omega
      unfold layFn
      rw [if_pos (by omega), hi, put_cut _ _ m rx n (row_len n hh _ k (newL_len n hh) (by omega)) (row_len m p fs _ hL (by omega)) hx]
      simp [cutRow]
  exact key hh (Nat.le_refl _)
end Grd
end Go.Proofs.YtinhmklpnkikgaaDoor

/- slices.Equal and SameGrid of cells of any number; slices.Clone of any cells; own. -/
namespace Go.Proofs.YtinhmklpnkikgaaDoor
open Go.ChangeShapes Go.WideShapes Go.ChangeAt Go.RowKit
namespace Grd
set_option maxHeartbeats 1000000 in
theorem equal_cells_big (b1 o1 c1 b2 o2 c2 : Nat) (cs : List C) (w : World) (h1 : CellsAt w b1 o1 cs) (h2 : CellsAt w b2 o2 cs) (hn : cs.length ≤ 4398046511104) :
    Calls Tryd.prog 38 #[.slice (some ⟨b1, o1, none⟩) cs.length c1, .slice (some ⟨b2, o2, none⟩) cs.length c2] w fun e w' => e = .returned (.bool true) ∧ Below w.heap.size w w' := by
  have H1 : Hid (CellsAt w b1 o1 cs) := h1
  have H2 : Hid (CellsAt w b2 o2 cs) := h2
  clear h1 h2
  generalize hl : cs.length = L at *
  have HL : Hid (cs.length = L) := hl
  clear hl
  have ne : ((L : Int) != (L : Int)) = false := by simp
  go_enter Tryd.func38, Tryd.ntmps38
  go_wp2_with fail
  go_loopg [13] L (fun g i wr => ∃ k : Nat, i = .int .i64 (k : Int) ∧ k ≤ L ∧ L - k ≤ g ∧ Below w.heap.size w wr)
  case atStart => exact ⟨0, rfl, by omega, by omega, Below.refl _ _⟩
  case round =>
    obtain ⟨k, rfl, hk, hg, hb⟩ := hrel
    by_cases hlt : k < L
    · have lt1 : ((k : Int) < (L : Int)) := by omega
      obtain ⟨p0, p1, p2, p3⟩ := H1.out.below hb k (by rw [HL.out]; exact hlt)
      obtain ⟨q0, q1, q2, q3⟩ := H2.out.below hb k (by rw [HL.out]; exact hlt)
      rcases hc : cs.getD k z0 with ⟨r, f, bk, x⟩
      rw [hc] at p0 p1 p2 p3 q0 q1 q2 q3
      dsimp only at p0 p1 p2 p3 q0 q1 q2 q3
      clear hc
      have nq := neq_cell r f bk x
      go_wp2_with fail
      go_region
      go_wp2_with fail
      go_roundg (L - (k + 1))
      case measure => omega
      case rel => exact ⟨k + 1, rfl, by omega, by omega, hb.drew⟩
    · have lt1 : ¬ ((k : Int) < (L : Int)) := by omega
      go_wp2_with fail
      go_ret
      exact ⟨rfl, hb⟩
theorem equal_slices_big (v1 v2 : Value) (cs : List C) (w : World) (h1 : SliceAt w v1 cs) (h2 : SliceAt w v2 cs) (hn : cs.length ≤ 4398046511104) :
    Calls Tryd.prog 38 #[v1, v2] w fun e w' => e = .returned (.bool true) ∧ Below w.heap.size w w' := by
  rcases h1 with ⟨rfl, a1, c1, rfl⟩ | ⟨h0, b1, o1, c1, rfl, _, _, hC1⟩
  · rcases h2 with ⟨_, a2, c2, rfl⟩ | ⟨h0, _⟩
    · exact equal_empty a1 a2 c1 c2 w
    · exact absurd rfl h0
  · rcases h2 with ⟨rfl, _⟩ | ⟨_, b2, o2, c2, rfl, _, _, hC2⟩
    · exact absurd rfl h0
    · exact equal_cells_big b1 o1 c1 b2 o2 c2 cs w hC1 hC2 hn
set_option maxHeartbeats 1000000 in
/-- SameGrid of two grids that read alike. -/
theorem same_any_big (a h : Int) (v1 v2 : Value) (cs : List C) (w : World) (h1 : SliceAt w v1 cs) (h2 : SliceAt w v2 cs) (hn : cs.length ≤ 4398046511104) :
    Calls Tryd.prog 15 #[.agg #[.int .i64 a, .int .i64 h, v1], .agg #[.int .i64 a, .int .i64 h, v2]] w fun e w' => e = .returned (.bool true) ∧ Below w.heap.size w w' := by
  have H1 : Hid (SliceAt w v1 cs) := h1
  have H2 : Hid (SliceAt w v2 cs) := h2
  clear h1 h2
  have kk : Below w.heap.size w ((w.alloc (.cells #[.int .i64 a, .int .i64 h, v1] 24)).alloc (.cells #[.int .i64 a, .int .i64 h, v2] 24)) := ((Below.refl _ _).alloc (Nat.le_refl _) _).alloc (by simp) _
  have aa : (a == a) = true := by simp
  have ee : (h == h) = true := by simp
  go_enter Tryd.func15, Tryd.ntmps15
  go_wp2_with (first | (go_at_call 38; refine (equal_slices_big v1 v2 cs _ (H1.out.below kk) (H2.out.below kk) hn).mono ?_; rintro e W1 ⟨rfl, b1⟩))
  go_ret
  exact ⟨rfl, kk.trans (b1.mono kk.size)⟩
set_option maxHeartbeats 1000000 in
theorem clone_empty (a : Option Addr) (c : Nat) (w : World) :
    Calls Tryd.prog 39 #[.slice a 0 c] w fun e w' => ∃ a' c', e = .returned (.slice a' 0 c') ∧ Below w.heap.size w w' := by
  obtain ⟨i0, hi, hzz⟩ := Option.map_eq_some_iff.1 info_cell
  simp only [Prod.mk.injEq] at hzz
  obtain ⟨hz0, hz1, hz2⟩ := hzz
  have qn : ∀ (w : World) (a : Option Addr) (n c n' c' : Nat), (binOp .eql 22 (.slice a n c) (.slice none n' c')).run Tryd.prog w = .ok (.bool a.isNone) w := fun w a n c n' c' => Lib.run_eql_slice_nil w _ _ a n c n' c' und_cells
  cases a with
  | none =>
    go_enter Tryd.func39, Tryd.ntmps39
    go_wp2_with fail
    go_ret
    exact ⟨_, _, rfl, Below.refl _ _⟩
  | some ad =>
    go_enter Tryd.func39, Tryd.ntmps39
    go_wp2_with (at_builtin; refine wpList_append_own _ rfl _ _ 22 rfl w.heap.size 40 i0 (.agg #[.int .i32 0, .int .i64 0, .int .i64 0, .int .i64 0]) 4 32 und_cells hi hz0 hz1 hz2 rfl (by decide) _ _ _ rfl (World.ownsRow_made w #[] 0 (Nat.le_refl _) (Nat.zero_le _) rfl) ad 0 c [] rfl rfl (by simp) (by simp) (by unfold maxLen; omega) (by omega) (by simp) ?_)
    intro v' w1 hown hgrow hnil
    have hsh : ∃ a' c', v' = .slice a' 0 c' := by
      rcases hown.2 with h | ⟨g, cp, _, h, _⟩
      · exact ⟨_, _, h.1⟩
      · exact ⟨_, _, h⟩
    obtain ⟨a', c', rfl⟩ := hsh
    go_wp2_with fail
    go_ret
    exact ⟨a', c', rfl, ((Below.refl _ w).alloc (Nat.le_refl _) _).grown hgrow (by simp) (by intro k hk; simp [Value.ownBlock] at hk; omega)⟩
theorem clone_any (v : Value) (cs : List C) (w : World) (hS : SliceAt w v cs) (hbig : cs.length * 32 ≤ 140737488355328) :
    Calls Tryd.prog 39 #[v] w fun e w' => ∃ a' c', e = .returned (.slice a' cs.length c') ∧ (cs = [] ∨ OwnG w' w.heap.size (.slice a' cs.length c') cs) ∧ Below w.heap.size w w' := by
  rcases hS with ⟨rfl, a, c, rfl⟩ | ⟨hne, b, o, c, rfl, hc, hm, hC⟩
  · exact (clone_empty a c w).mono fun e w' ⟨a', c', he, hb⟩ => ⟨a', c', he, .inl rfl, hb⟩
  · exact (clone_cells b o c cs w hC hbig).mono fun e w' ⟨v', he, ho, hb⟩ => by
      have ho' := ho
      obtain ⟨g, cp, rs, t, rfl, _⟩ := ho
      exact ⟨_, _, he, .inr ho', hb⟩
set_option maxHeartbeats 1000000 in
theorem own_any (a h : Int) (v : Value) (cs : List C) (w : World) (hS : SliceAt w v cs) (hbig : cs.length * 32 ≤ 140737488355328) :
    Calls Tryd.prog 17 #[.agg #[.int .i64 a, .int .i64 h, v]] w fun e w' => ∃ a' c', e = .returned (.agg #[.int .i64 a, .int .i64 h, .slice a' cs.length c']) ∧ SliceAt w' (.slice a' cs.length c') cs ∧ Below w.heap.size w w' := by
  have HS : Hid (SliceAt w v cs) := hS
  have kk : Below w.heap.size w ((w.alloc (.cells #[.int .i64 a, .int .i64 h, v] 24)).alloc (.cells #[.int .i64 0, .int .i64 0, .slice none 0 0] 24)) := ((Below.refl _ _).alloc (Nat.le_refl _) _).alloc (by simp) _
  have x0 : ((w.alloc (.cells #[.int .i64 a, .int .i64 h, v] 24)).alloc (.cells #[.int .i64 0, .int .i64 0, .slice none 0 0] 24)).heap[w.heap.size]? = some (.cells #[.int .i64 a, .int .i64 h, v] 24 (0, 0)) := (Below.heap_alloc _ _ _ (by simp)).trans (heap_alloc_new _ _)
  have x1 : ((w.alloc (.cells #[.int .i64 a, .int .i64 h, v] 24)).alloc (.cells #[.int .i64 0, .int .i64 0, .slice none 0 0] 24)).heap[w.heap.size + 1]? = some (.cells #[.int .i64 0, .int .i64 0, .slice none 0 0] 24 (0, 0)) := heap_alloc2_new w _ _
  obtain ⟨va, vc, rfl⟩ := hS.shape
  clear hS
  go_enter Tryd.func17, Tryd.ntmps17
  go_wp2_with fail
  refine (clone_any _ cs _ (HS.out.below kk) hbig).mono ?_
  rintro e W2 ⟨a2, c2, rfl, hs2, b2⟩
  have y0 := carry x0 b2
  have y1 := carry x1 b2
  have ⟨d0, d1, d2, df⟩ := cells3 y0
  have f2 := df 2
  have z0' := heap_setCell_same W2 w.heap.size 2 _ _ (.slice a2 cs.length c2) y0
  have z1' := (heap_setCell_other W2 ⟨w.heap.size, 2, none⟩ (w.heap.size + 1) (.slice a2 cs.length c2) (Nat.succ_ne_self _)).trans y1
  have HS2 : Hid (cs = [] ∨ OwnG W2 (w.heap.size + 2) (.slice a2 cs.length c2) cs) := by
    rcases hs2 with h' | h'
    · exact .inl h'
    · have e : ((w.alloc (.cells #[.int .i64 a, .int .i64 h, .slice va cs.length vc] 24)).alloc (.cells #[.int .i64 0, .int .i64 0, .slice none 0 0] 24)).heap.size = w.heap.size + 2 := by simp
      rw [e] at h'
      exact .inr h'
  clear hs2
  go_wp2_with (first
    | (refine wpList_load_row rfl 24 _ rfl w.heap.size rfl _ _ _ _ z0' Tryd.underlying24 rfl (by kernel_rfl) ?_)
    | (refine wpList_store_row rfl 24 (.tmp 2) _ rfl (w.heap.size + 1) #[.int .i64 a, .int .i64 h, .slice a2 cs.length c2] rfl rfl _ _ z1' (by kernel_rfl) rfl (one3v _ _ _ _ _) ?_))
  (try simp only [Exit.inBlock, Exit.then])
  refine bodyPost_ret (v := .agg #[.int .i64 a, .int .i64 h, .slice a2 cs.length c2]) ?_ rfl ⟨a2, c2, rfl, ?_, below_setRow ((kk.trans (b2.mono kk.size)).setCell (Nat.le_refl _) _) (by omega) _⟩
  · exact results_cell_row rfl _ _ (w.heap.size + 1) _ _ _ _ rfl (setRow_heap _ _ _ _ _ _ z1') Tryd.underlying24 rfl (by kernel_rfl)
  · rcases HS2.out with h | ⟨g, cp, rs, t, hv, hg, h1, h2, h3⟩
    · exact .inl ⟨h, _, _, by rw [h]; rfl⟩
    · refine OwnG.slice (base := 0) ⟨g, cp, rs, t, hv, by omega, h1, h2, ?_⟩
      rw [setRow_other _ _ _ _ (by omega), heap_setCell_other _ _ _ _ (by dsimp only; omega)]
      exact h3
end Grd
end Go.Proofs.YtinhmklpnkikgaaDoor
