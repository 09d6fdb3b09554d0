/- The walk of grid.Lay. -/
import Derived.Test.YtinhmklpnkikgabDoorGridOver
import Derived.Deep.RegionHeld3
namespace Go.Proofs.YtinhmklpnkikgabDoor
open Go.ChangeShapes Go.WideShapes Go.ChangeAt Go.RowKit
namespace Grd
theorem var_newL (W : World) (T : TypeId) (z cs : Array Value) : ((W.alloc (.cells z T)).setRow W.heap.size cs).heap[W.heap.size]? = some (.cells cs T (0, 0)) ∧ Below W.heap.size W ((W.alloc (.cells z T)).setRow W.heap.size cs) :=
  ⟨setRow_heap _ _ _ _ _ _ (heap_alloc_new _ _), below_setRow ((Below.refl _ _).alloc (Nat.le_refl _) _) (Nat.le_refl _) _⟩
theorem okRange (n hh : Nat) (cs : List C) (hok : gridErr n hh cs = 0) : cs.length = n * hh ∧ 1 ≤ n ∧ n ≤ 120 ∧ 1 ≤ hh ∧ hh ≤ 60 ∧ cs.length ≤ 7200 ∧ cs ≠ [] := by
  obtain ⟨hsize, hL, _⟩ := (gridErr_zero n hh cs).1 hok
  have ⟨_, p1, p2, p3, p4, p5⟩ := prod_in n hh hsize
  have h7 : cs.length ≤ 7200 := by
    have : ((n * hh : Nat) : Int) ≤ 7200 := by rw [Int.natCast_mul]; exact p1
    omega
  refine ⟨hL, by omega, by omega, by omega, by omega, h7, fun h => ?_⟩
  rw [h, List.length_nil] at hL
  have : 0 < n * hh := Nat.mul_pos (by omega) (by omega)
  omega
theorem slice_block {w : World} {b o : Nat} {cs : List C} (h : CellsAt w b o cs) (hne : cs ≠ []) : b < w.heap.size :=
  World.block_lt_of_cell? w _ (h 0 (List.length_pos_iff.2 hne)).1
set_option maxHeartbeats 1000000 in
theorem lay_bad1 (a1 h1 a2 h2 px py : Int) (v1 v2 : Value) (fs : List C) (w : World) (hT : Txt.Tab w) (hS : SliceAt w v1 fs) (hok : gridErr a1 h1 fs ≠ 0) :
    Calls Tryd.prog 10 #[.agg #[.int .i64 a1, .int .i64 h1, v1], .agg #[.int .i64 a2, .int .i64 h2, v2], .int .i64 px, .int .i64 py] w fun e w' => e = .returned (.tuple #[.agg #[.int .i64 0, .int .i64 0, .slice none 0 0], .int .i64 (gridErr a1 h1 fs)]) ∧ Below w.heap.size w w' := by
  obtain ⟨_, _, x2, kk, hsz⟩ := alloc3 w (.cells #[.int .i64 a1, .int .i64 h1, v1] 24) (.cells #[.int .i64 a2, .int .i64 h2, v2] 24) (.cells #[.int .i64 0, .int .i64 0, .slice none 0 0] 24)
  have HK := check_any a1 h1 v1 fs _ (Tab.next hT kk) (hS.below kk)
  generalize gridErr a1 h1 fs = er at *
  have ne : (er != 0) = true := by simpa using hok
  clear hok hT hS
  go_enter Tryd.func10, Tryd.ntmps10
  go_wp2_with fail
  refine HK.mono ?_
  rintro e W1 ⟨rfl, b1⟩
  have y2 := carry x2 b1
  go_wp2_with (refine wpList_store_row rfl 24 (.tmp 8) _ rfl (w.heap.size + 2) #[.int .i64 0, .int .i64 0, .slice none 0 0] rfl rfl _ _ y2 (by kernel_rfl) rfl (one3v _ _ _ _ _) ?_)
  (try simp only [Exit.inBlock, Exit.then])
  refine bodyPost_ret (v := .tuple #[.agg #[.int .i64 0, .int .i64 0, .slice none 0 0], .int .i64 er]) ?_ rfl ⟨rfl, below_setRow (kk.trans (b1.mono kk.size)) (by omega) _⟩
  exact results_row_tmp rfl _ _ (w.heap.size + 2) _ _ _ _ rfl (setRow_heap _ _ _ _ _ _ y2) Tryd.underlying24 rfl (by kernel_rfl) _ rfl
set_option maxHeartbeats 1000000 in
theorem lay_bad2 (a1 h1 a2 h2 px py : Int) (v1 v2 : Value) (fs cs : List C) (w : World) (hT : Txt.Tab w) (hS : SliceAt w v1 fs) (hS2 : SliceAt w v2 cs) (hok : gridErr a1 h1 fs = 0) (hok2 : gridErr a2 h2 cs ≠ 0) :
    Calls Tryd.prog 10 #[.agg #[.int .i64 a1, .int .i64 h1, v1], .agg #[.int .i64 a2, .int .i64 h2, v2], .int .i64 px, .int .i64 py] w fun e w' => e = .returned (.tuple #[.agg #[.int .i64 0, .int .i64 0, .slice none 0 0], .int .i64 (gridErr a2 h2 cs)]) ∧ Below w.heap.size w w' := by
  obtain ⟨_, x1, x2, kk, hsz⟩ := alloc3 w (.cells #[.int .i64 a1, .int .i64 h1, v1] 24) (.cells #[.int .i64 a2, .int .i64 h2, v2] 24) (.cells #[.int .i64 0, .int .i64 0, .slice none 0 0] 24)
  have HK := check_ok a1 h1 v1 fs _ (Tab.next hT kk) (hS.below kk) hok
  have HK2 : Hid (∀ W, Below w.heap.size w W → Calls Tryd.prog 7 #[.agg #[.int .i64 a2, .int .i64 h2, v2]] W fun e w' => e = .returned (.int .i64 (gridErr a2 h2 cs)) ∧ Below W.heap.size W w') := fun W k => check_any a2 h2 v2 cs W (Tab.next hT k) (hS2.below k)
  generalize gridErr a2 h2 cs = er at *
  have ne : (er != 0) = true := by simpa using hok2
  clear hok hok2 hT hS hS2
  go_enter Tryd.func10, Tryd.ntmps10
  go_wp2_with fail
  refine HK.mono ?_
  rintro e W1 ⟨rfl, b1⟩
  have k1 := kk.trans (b1.mono kk.size)
  have y2 := carry x2 b1
  obtain ⟨c0, c1, c2, _⟩ := cells3 (carry x1 b1)
  go_wp2_with fail
  refine (HK2.out _ k1).mono ?_
  rintro e W2 ⟨rfl, b2⟩
  have z2 := carry y2 b2
  go_wp2_with (refine wpList_store_row rfl 24 (.tmp 8) _ rfl (w.heap.size + 2) #[.int .i64 0, .int .i64 0, .slice none 0 0] rfl rfl _ _ z2 (by kernel_rfl) rfl (one3v _ _ _ _ _) ?_)
  (try simp only [Exit.inBlock, Exit.then])
  refine bodyPost_ret (v := .tuple #[.agg #[.int .i64 0, .int .i64 0, .slice none 0 0], .int .i64 er]) ?_ rfl ⟨rfl, below_setRow (k1.trans (b2.mono k1.size)) (by omega) _⟩
  exact results_row_tmp rfl _ _ (w.heap.size + 2) _ _ _ _ rfl (setRow_heap _ _ _ _ _ _ z2) Tryd.underlying24 rfl (by kernel_rfl) _ rfl
set_option maxHeartbeats 4000000 in
theorem lay_good (m p b1 o1 c1 n hh b2 o2 c2 : Nat) (px py : Int) (fs cs : List C) (w : World) (hT : Txt.Tab w) (hC1 : CellsAt w b1 o1 fs) (hC2 : CellsAt w b2 o2 cs) (hok : gridErr m p fs = 0) (hok2 : gridErr n hh cs = 0) (hl1 : fs.length ≤ c1) (hm1 : c1 ≤ 9223372036854775807) (hl2 : cs.length ≤ c2) (hm2 : c2 ≤ 9223372036854775807) :
    Calls Tryd.prog 10 #[.agg #[.int .i64 (m : Int), .int .i64 (p : Int), .slice (some ⟨b1, o1, none⟩) fs.length c1], .agg #[.int .i64 (n : Int), .int .i64 (hh : Int), .slice (some ⟨b2, o2, none⟩) cs.length c2], .int .i64 px, .int .i64 py] w fun e w' => ∃ v, e = .returned (.tuple #[.agg #[.int .i64 (n : Int), .int .i64 (hh : Int), v], .int .i64 0]) ∧ OwnG w' w.heap.size v (layG n hh cs m p fs (nearI px) (nearI py)) ∧ Below w.heap.size w w' := by
  obtain ⟨hL1, q1, q2, q3, q4, q5, hne1⟩ := okRange m p fs hok
  obtain ⟨hL2, r1, r2, r3, r4, r5, hne2⟩ := okRange n hh cs hok2
  have hS1 : SliceAt w (.slice (some ⟨b1, o1, none⟩) fs.length c1) fs := .inr ⟨hne1, b1, o1, c1, rfl, hl1, hm1, hC1⟩
  have hS2 : SliceAt w (.slice (some ⟨b2, o2, none⟩) cs.length c2) cs := .inr ⟨hne2, b2, o2, c2, rfl, hl2, hm2, hC2⟩
  have hb1 := slice_block hC1 hne1
  obtain ⟨x0, x1, x2, kk, hsz⟩ := alloc3 w (.cells #[.int .i64 (m : Int), .int .i64 (p : Int), .slice (some ⟨b1, o1, none⟩) fs.length c1] 24) (.cells #[.int .i64 (n : Int), .int .i64 (hh : Int), .slice (some ⟨b2, o2, none⟩) cs.length c2] 24) (.cells #[.int .i64 0, .int .i64 0, .slice none 0 0] 24)
  have HK := check_ok m p _ fs _ (Tab.next hT kk) (hS1.below kk) hok
  have HT : Hid (∀ W, Below w.heap.size w W → Txt.Tab W) := fun W k => Tab.next hT k
  have HTP : Hid (0 < w.heap.size) := hT.pos
  have HK2 : Hid (∀ W, Below w.heap.size w W → Calls Tryd.prog 7 #[.agg #[.int .i64 (n : Int), .int .i64 (hh : Int), .slice (some ⟨b2, o2, none⟩) cs.length c2]] W fun e w' => e = .returned (.int .i64 0) ∧ Below W.heap.size W w') := fun W k => check_ok n hh _ cs W (Tab.next hT k) (hS2.below k) hok2
  have HC1 : Hid (CellsAt w b1 o1 fs) := hC1
  have HC2 : Hid (CellsAt w b2 o2 cs) := hC2
  have HL1 : Hid (fs.length = m * p) := hL1
  have HL2 : Hid (cs.length = n * hh) := hL2
  have HMC : Hid (∀ y, y < hh → Meant (rowAt n cs y)) := fun y hy => (((gridErr_zero n hh cs).1 hok2).2.2 y hy).1
  have HRF : Hid (∀ y, y < p → RightRow (rowAt m fs y)) := ((gridErr_zero m p fs).1 hok).2.2
  have HGL : Hid ((layG n hh cs m p fs (nearI px) (nearI py)).length = cs.length) := by
    unfold Hid layG
    rw [preF_len n hh cs _ hL2 (layFn_len n m p fs _ _) hh (Nat.le_refl _), hL2, Nat.mul_comm]
  clear hT hS1 hS2 hok hok2 hC1 hC2 hL1 hL2 hne1 hne2
  go_enter Tryd.func10, Tryd.ntmps10
  go_wp2_with fail
  refine HK.mono ?_
  rintro e W1 ⟨rfl, b1'⟩
  have k1 := kk.trans (b1'.mono kk.size)
  have y0 := carry x0 b1'
  have y1 := carry x1 b1'
  have y2 := carry x2 b1'
  obtain ⟨d0, d1, d2, _⟩ := cells3 y1
  go_wp2_with fail
  refine (HK2.out _ k1).mono ?_
  rintro e W2 ⟨rfl, b2'⟩
  have k2 := k1.trans (b2'.mono k1.size)
  have z0 := carry y0 b2'
  have z1 := carry y1 b2'
  have z2 := carry y2 b2'
  clear d0 d1 d2
  obtain ⟨d0, d1, d2, _⟩ := cells3 z1
  go_wp2_with fail
  refine (copyOf_any n hh b2 o2 c2 cs _ (HC2.out.below k2) (by omega)).mono ?_
  rintro e W4 ⟨_, rfl, ⟨g, cap, rest, t, rfl, hgb, hlc, hcm, hgh⟩, b4⟩
  have u0 := carry z0 b4
  have u2 := carry z2 b4
  have k4 := k2.trans (b4.mono k2.size)
  go_wp2_with (refine wpList_store_row rfl 24 (.tmp 12) _ rfl W4.heap.size #[.int .i64 (n : Int), .int .i64 (hh : Int), .slice (some ⟨g, 0, none⟩) cs.length cap] rfl rfl _ _ (heap_alloc_new W4 _) (by kernel_rfl) rfl (one3v _ _ _ _ _) ?_
               obtain ⟨mX, aX⟩ := var_newL W4 24 #[.int .i64 0, .int .i64 0, .slice none 0 0] #[.int .i64 (n : Int), .int .i64 (hh : Int), .slice (some ⟨g, 0, none⟩) cs.length cap]
               generalize ((W4.alloc (.cells #[.int .i64 0, .int .i64 0, .slice none 0 0] 24)).setRow W4.heap.size #[.int .i64 (n : Int), .int .i64 (hh : Int), .slice (some ⟨g, 0, none⟩) cs.length cap]) = X at *
               have kX := k4.trans (aX.mono k4.size)
               have v0 := carry u0 aX
               have v2 := carry u2 aX
               have vg := carry hgh aX)
  have hgN : w.heap.size + 3 ≤ g := by
    have h1 := b1'.size
    have h2 := b2'.size
    have h3 : ((((w.alloc (.cells #[.int .i64 (m : Int), .int .i64 (p : Int), .slice (some ⟨b1, o1, none⟩) fs.length c1] 24)).alloc (.cells #[.int .i64 (n : Int), .int .i64 (hh : Int), .slice (some ⟨b2, o2, none⟩) cs.length c2] 24)).alloc (.cells #[.int .i64 0, .int .i64 0, .slice none 0 0] 24))).heap.size = w.heap.size + 3 := hsz
    omega
  have hgM : g < W4.heap.size := blk_lt hgh
  have hgX : g < X.heap.size := blk_lt vg
  generalize hM : W4.heap.size = M at *
  have KO : Hid (Calls Tryd.prog 27 #[.agg #[.int .i64 (n : Int), .int .i64 (hh : Int), .slice (some ⟨g, 0, none⟩) cs.length cap], .agg #[.int .i64 (m : Int), .int .i64 (p : Int), .slice (some ⟨b1, o1, none⟩) fs.length c1], .int .i64 (nearI px), .int .i64 (nearI py)] X.drew fun e w' => e = .returned (.tuple #[]) ∧ w'.heap[g]? = some (.cells (flat (layG n hh cs m p fs (nearI px) (nearI py)) ++ rest).toArray t (0, 0)) ∧ Apart g [g] X.drew w') :=
    overwrite_any n hh g cap cs rest t m p b1 o1 c1 fs (nearI px) (nearI py) X.drew (HT.out _ kX.drew) (by have := HTP.out; omega) vg HL2.out r1 r2 r4 hlc hcm (HC1.out.below kX.drew) (by omega) HL1.out q1 q2 q4 hl1 hm1 (near_in px).1 (near_in px).2 (near_in py).1 (near_in py).2 HMC.out HRF.out
  obtain ⟨e0, e1, e2, _⟩ := cells3 v0
  obtain ⟨f0, f1, f2, _⟩ := cells3 mX
  have HS0 : Hid ((X.drew.cell? ⟨w.heap.size, 0, none⟩ = some (.int .i64 (m : Int)) ∧ X.drew.cell? ⟨w.heap.size, 1, none⟩ = some (.int .i64 (p : Int)) ∧ X.drew.cell? ⟨w.heap.size, 2, none⟩ = some (.slice (some ⟨b1, o1, none⟩) fs.length c1)) ∧ (X.drew.cell? ⟨M, 0, none⟩ = some (.int .i64 (n : Int)) ∧ X.drew.cell? ⟨M, 1, none⟩ = some (.int .i64 (hh : Int)) ∧ X.drew.cell? ⟨M, 2, none⟩ = some (.slice (some ⟨g, 0, none⟩) cs.length cap))) := ⟨⟨e0, e1, e2⟩, f0, f1, f2⟩
  have HS2 : Hid (∀ W, Apart g [g] X.drew W → (W.cell? ⟨w.heap.size, 0, none⟩ = some (.int .i64 (m : Int)) ∧ W.cell? ⟨w.heap.size, 1, none⟩ = some (.int .i64 (p : Int)) ∧ W.cell? ⟨w.heap.size, 2, none⟩ = some (.slice (some ⟨b1, o1, none⟩) fs.length c1)) ∧ (W.cell? ⟨M, 0, none⟩ = some (.int .i64 (n : Int)) ∧ W.cell? ⟨M, 1, none⟩ = some (.int .i64 (hh : Int)) ∧ W.cell? ⟨M, 2, none⟩ = some (.slice (some ⟨g, 0, none⟩) cs.length cap))) := fun W k => by
    have a := cells3 (k.carry (k := w.heap.size) v0 (by simp; omega))
    have b := cells3 (k.carry (k := M) mX (by simp; omega))
    exact ⟨⟨a.1, a.2.1, a.2.2.1⟩, b.1, b.2.1, b.2.2.1⟩
  clear hgh e0 e1 e2 f0 f1 f2 u0 u2 z0 z1 z2 y0 y1 y2 x0 x1 x2 d0 d1 d2 HK HK2
  go_region_held3 (fun W => (W.cell? ⟨w.heap.size, 0, none⟩ = some (.int .i64 (m : Int)) ∧ W.cell? ⟨w.heap.size, 1, none⟩ = some (.int .i64 (p : Int)) ∧ W.cell? ⟨w.heap.size, 2, none⟩ = some (.slice (some ⟨b1, o1, none⟩) fs.length c1)) ∧ (W.cell? ⟨M, 0, none⟩ = some (.int .i64 (n : Int)) ∧ W.cell? ⟨M, 1, none⟩ = some (.int .i64 (hh : Int)) ∧ W.cell? ⟨M, 2, none⟩ = some (.slice (some ⟨g, 0, none⟩) cs.length cap)))
    (first
      | (exact HS2.out _ ap5)
      | (exact HS0.out))
    (first
      | (go_at_call 24; refine (near_any _ _).mono ?_; rintro e _ ⟨rfl, rfl⟩)
      | (go_at_call 27; refine KO.out.mono ?_; rintro e W5 ⟨rfl, hv5, ap5⟩))
  have w2 := ap5.carry (k := w.heap.size + 2) v2 (by simp; omega)
  have wM := ap5.carry (k := M) mX (by simp; omega)
  have kW : Below w.heap.size w W5 := kX.drew.trans (ap5.1.mono (by omega))
  go_wp2_with (first
    | (refine wpList_load_row rfl 24 _ rfl M rfl _ _ _ _ wM Tryd.underlying24 rfl (by kernel_rfl) ?_)
    | (refine wpList_store_row rfl 24 (.tmp 8) _ rfl (w.heap.size + 2) #[.int .i64 (n : Int), .int .i64 (hh : Int), .slice (some ⟨g, 0, none⟩) cs.length cap] rfl rfl _ _ w2 (by kernel_rfl) rfl (one3v _ _ _ _ _) ?_))
  (try simp only [Exit.inBlock, Exit.then])
  refine bodyPost_ret (v := .tuple #[.agg #[.int .i64 (n : Int), .int .i64 (hh : Int), .slice (some ⟨g, 0, none⟩) cs.length cap], .int .i64 0]) ?_ rfl ⟨_, rfl, ⟨g, cap, rest, t, by rw [HGL.out], by omega, by rw [HGL.out]; exact hlc, hcm, ?_⟩, below_setRow kW (by omega) _⟩
  · exact results_row_tmp rfl _ _ (w.heap.size + 2) _ _ _ _ rfl (setRow_heap _ _ _ _ _ _ w2) Tryd.underlying24 rfl (by kernel_rfl) _ rfl
  · rw [setRow_other _ _ _ _ (by omega)]
    exact hv5
end Grd
end Go.Proofs.YtinhmklpnkikgabDoor
