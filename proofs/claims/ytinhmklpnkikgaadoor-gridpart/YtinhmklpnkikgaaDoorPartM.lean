/- The walk of grid.Fill: a right cell. -/
import Derived.Test.YtinhmklpnkikgaaDoorPartF
import Derived.Test.YtinhmklpnkikgaaDoorPartL
import Derived.Test.YtinhmklpnkikgaaDoorPartK
import Derived.Deep.RegionHeld3
import Derived.Deep.CutRange
namespace Go.Proofs.YtinhmklpnkikgaaDoor
open Go.ChangeShapes Go.WideShapes Go.ChangeAt Go.RowKit
namespace Grd
open Txt (wd)
open Sty (isSt)
theorem info_cell4 : (Tryd.prog.info? 40).map (·.size) = some 4 := by kernel_rfl
theorem row_off (n k o : Nat) (hf : o = k * n) : 0 + k * n * 4 = o * 4 := by omega
set_option maxHeartbeats 8000000 in
theorem fill_good (n hh b o cx : Nat) (cs : List C) (rx ry rw rh r f bk x : Int) (w : World) (hT : Txt.Tab w) (hC : CellsAt w b o cs) (hok : gridErr n hh cs = 0) (hc : cs.length ≤ cx) (hm : cx ≤ 9223372036854775807) (hr : wd r = 1) (hs : isSt (f, bk, x) = true) :
    Calls Tryd.prog 18 #[.agg #[.int .i64 (n : Int), .int .i64 (hh : Int), .slice (some ⟨b, o, none⟩) cs.length cx], .agg #[.int .i64 rx, .int .i64 ry, .int .i64 rw, .int .i64 rh], .agg #[.int .i32 r, .int .i64 f, .int .i64 bk, .int .i64 x]] w fun e w' => ∃ v, e = .returned (.tuple #[.agg #[.int .i64 (n : Int), .int .i64 (hh : Int), v], .int .i64 0]) ∧ OwnG w' w.heap.size v (fillG n hh cs rx ry rw rh (r, f, bk, x)) ∧ Below w.heap.size w w' := by
  obtain ⟨hsize, hL, hrows⟩ := (gridErr_zero n hh cs).1 hok
  have ⟨p0, p1, p2, p3, p4, p5⟩ := prod_in n hh hsize
  have hne : cs ≠ [] := by
    intro h
    rw [h, List.length_nil] at hL
    have : 0 < n * hh := Nat.mul_pos (by omega) (by omega)
    omega
  have hl2 : cs.length ≤ 7200 := by
    have : ((n * hh : Nat) : Int) ≤ 7200 := by rw [Int.natCast_mul]; exact p1
    omega
  have hS : SliceAt w (.slice (some ⟨b, o, none⟩) cs.length cx) cs := .inr ⟨hne, b, o, cx, rfl, hc, hm, hC⟩
  obtain ⟨x0, x1, x2, x3, kk, hsz⟩ := alloc4 w (.cells #[.int .i64 (n : Int), .int .i64 (hh : Int), .slice (some ⟨b, o, none⟩) cs.length cx] 24) (.cells #[.int .i64 rx, .int .i64 ry, .int .i64 rw, .int .i64 rh] 36) (.cells #[.int .i32 r, .int .i64 f, .int .i64 bk, .int .i64 x] 40) (.cells #[.int .i64 0, .int .i64 0, .slice none 0 0] 24)
  have HK := check_ok n hh _ cs _ (Tab.next hT kk) (hS.below kk) hok
  have HT : Hid (∀ W, Below w.heap.size w W → Txt.Tab W) := fun W k => Tab.next hT k
  have HTP : Hid (0 < w.heap.size) := hT.pos
  have HC : Hid (CellsAt w b o cs) := hC
  have HL : Hid (cs.length = n * hh) := hL
  have HML : Hid (∀ k, k < hh → ∀ p, Alike (putRow (rowAt n cs k) p fun _ => (r, f, bk, x))) := fun k hk p => (meant_fill (rowAt n cs k) p (r, f, bk, x) (hrows k hk).1 hr hs).alike
  clear hT hS hok hC hne hrows hL p0 p1 hsize
  generalize hW0 : ((((w.alloc (.cells #[.int .i64 (n : Int), .int .i64 (hh : Int), .slice (some ⟨b, o, none⟩) cs.length cx] 24)).alloc (.cells #[.int .i64 rx, .int .i64 ry, .int .i64 rw, .int .i64 rh] 36)).alloc (.cells #[.int .i32 r, .int .i64 f, .int .i64 bk, .int .i64 x] 40)).alloc (.cells #[.int .i64 0, .int .i64 0, .slice none 0 0] 24)) = W0 at x0 x1 x2 x3 kk hsz HK
  have HW0 : Hid (_ = W0) := hW0
  have HK' : Hid (Calls Tryd.prog 11 #[.agg #[.int .i64 (n : Int), .int .i64 (hh : Int), .slice (some ⟨b, o, none⟩) cs.length cx]] W0 fun e w' => e = .returned (.int .i64 0) ∧ Below W0.heap.size W0 w') := HK
  have HR : Hid (wd r = 1) := hr
  have HS : Hid (isSt (f, bk, x) = true) := hs
  clear HK hW0 hr hs
  go_enter Tryd.func18, Tryd.ntmps18
  go_wp2_with (first
    | (go_at_call 11; rw [HW0.out]; refine HK'.out.mono ?_; rintro e W1 ⟨rfl, b1⟩; have k1 := kk.trans (b1.mono kk.size); have y3 := carry x3 b1; have y2 := carry x2 b1; have y1 := carry x1 b1; have y0 := carry x0 b1; have ⟨c0, c1, c2, c3⟩ := cells4 y2)
    | (go_at_call 40; refine (width_to r _ (HT.out _ k1) _ HR.out).mono ?_; rintro e W2 ⟨rfl, b2⟩; have k2 := k1.trans (b2.mono k1.size); have z3 := carry y3 b2; have z2 := carry y2 b2; have z1 := carry y1 b2; have z0 := carry y0 b2; have ⟨d0, d1, d2, d3⟩ := cells4 z2)
    | (go_at_call 41; refine (check_to f bk x _ HS.out _).mono ?_; rintro e W3 ⟨rfl, b3⟩; have k3 := k2.trans (b3.mono k2.size); have u3 := carry z3 b3; have u2 := carry z2 b3; have u1 := carry z1 b3; have u0 := carry z0 b3; have ⟨e0, e1, e2, _⟩ := cells3 u0)
    | (go_at_call 42; refine (copyOf_any n hh b o cx cs _ (HC.out.below k3) (by omega)).mono ?_; rintro e W4 ⟨v4, rfl, ⟨g, cap, rest, t, rfl, hgb, hlc, hcm, hgh⟩, b4⟩; have hW4 := heap_alloc_new W4 (.cells #[.int .i64 0, .int .i64 0, .slice none 0 0] 24))
    | (refine wpList_store_row rfl 24 (.tmp 9) _ rfl W4.heap.size #[.int .i64 (n : Int), .int .i64 (hh : Int), .slice (some ⟨g, 0, none⟩) cs.length cap] rfl rfl _ _ hW4 (by kernel_rfl) rfl (one3v _ _ _ _ _) ?_))
  have hsz1 := b1.size
  have hsz2 := b2.size
  have hsz3 := b3.size
  have hsz4 := b4.size
  have hg4 : g < W4.heap.size := blk_lt hgh
  have hX : ∀ k o', W4.heap[k]? = some o' → ((W4.alloc (.cells #[.int .i64 0, .int .i64 0, .slice none 0 0] 24)).setRow W4.heap.size #[.int .i64 (n : Int), .int .i64 (hh : Int), .slice (some ⟨g, 0, none⟩) cs.length cap]).heap[k]? = some o' := fun k o' hk => by
    have := blk_lt hk
    rw [setRow_other _ _ _ _ (by omega), Below.heap_alloc _ _ _ this, hk]
  have q0 := hX _ _ (carry u0 b4)
  have q1 := hX _ _ (carry u1 b4)
  have q2 := hX _ _ (carry u2 b4)
  have q3 := hX _ _ (carry u3 b4)
  have qg := hX _ _ hgh
  have qM := setRow_heap _ _ _ #[.int .i64 (n : Int), .int .i64 (hh : Int), .slice (some ⟨g, 0, none⟩) cs.length cap] _ _ hW4
  have k4 := k3.trans (b4.mono k3.size)
  have kX := below_setRow (k4.alloc k4.size (.cells #[.int .i64 0, .int .i64 0, .slice none 0 0] 24)) k4.size #[.int .i64 (n : Int), .int .i64 (hh : Int), .slice (some ⟨g, 0, none⟩) cs.length cap]
  generalize ((W4.alloc (.cells #[.int .i64 0, .int .i64 0, .slice none 0 0] 24)).setRow W4.heap.size #[.int .i64 (n : Int), .int .i64 (hh : Int), .slice (some ⟨g, 0, none⟩) cs.length cap]) = X at *
  generalize hM : W4.heap.size = M at *
  have hgN : w.heap.size + 4 ≤ g := by omega
  clear hX hW4 hgh u0 u1 u2 u3 e0 e1 e2 b4 b3 z0 z1 z2 z3 d0 d1 d2 d3 c0 c1 c2 c3 b2 y0 y1 y2 y3 b1 x0 x1 x2 x3 HW0 HK' k1 k2 k3 k4 kk hsz hsz1 hsz2 hsz3 hsz4 hM hgb
  have ⟨e0, e1, e2, _⟩ := cells3 q0
  have ⟨f0, f1, f2, f3⟩ := cells4 q1
  go_quiet (first
    | (go_at_call 44; exact Calls.quiet_of_same (near_same _ _))
    | (go_at_call 43; exact Calls.quiet_of_same (reach_same _ _ _ _)))
  go_wp2_with fail
  generalize hY : X.drewN nq = Y
  have hYh : Y.heap = X.heap := by rw [← hY]; rfl
  have kY : Below w.heap.size w Y := by rw [← hY]; exact kX.trans ⟨rfl, rfl, rfl, Nat.le_refl _, fun _ _ => rfl⟩
  rw [← hYh] at q0 q1 q2 q3 qg qM
  clear hYh hY kX e0 e1 e2 f0 f1 f2 f3
  have ⟨e0, e1, e2, _⟩ := cells3 q0
  have ⟨f0, f1, f2, f3⟩ := cells4 q1
  go_quiet (first
    | (go_at_call 44; exact Calls.quiet_of_same (near_same _ _))
    | (go_at_call 43; exact Calls.quiet_of_same (reach_same _ _ _ _)))
  have HFG : Hid (preF n cs (fillF n hh rx ry rw rh (r, f, bk, x)) hh = fillG n hh cs rx ry rw rh (r, f, bk, x)) := rfl
  have HFL : Hid (KeepLen n (fillF n hh rx ry rw rh (r, f, bk, x))) := fillF_len n hh rx ry rw rh _
  have HF0 : Hid (∀ y : Nat, ((y : Int) < max (nearI ry) 0 ∨ ¬ (y : Int) < min (nearI ry + nearI rh) hh) → ∀ row, fillF n hh rx ry rw rh (r, f, bk, x) y row = row) := fun y hy row => by
    unfold fillF inside
    rw [if_neg (by simp only [decide_eq_true_eq]; omega)]
  have HF1 : Hid (∀ y : Nat, max (nearI ry) 0 ≤ (y : Int) → (y : Int) < min (nearI ry + nearI rh) hh → ∀ row, fillF n hh rx ry rw rh (r, f, bk, x) y row = mendL (putRow row (inside rx rw n) fun _ => (r, f, bk, x))) := fun y h1 h2 row => by
    unfold fillF
    rw [if_pos (by unfold inside; simp only [decide_eq_true_eq]; omega)]
  have HP : Hid (∀ u : Nat, inside rx rw n u = decide (max (nearI rx) 0 ≤ (u : Int) ∧ (u : Int) < min (nearI rx + nearI rw) n)) := fun u => rfl
  have hRt : min (nearI rx + nearI rw) (n : Int) ≤ n := by omega
  have hBt : min (nearI ry + nearI rh) (hh : Int) ≤ hh := by omega
  generalize fillF n hh rx ry rw rh (r, f, bk, x) = F at HFG HFL HF0 HF1
  generalize inside rx rw n = ins at HF1 HP
  obtain ⟨T, hT⟩ := Int.eq_ofNat_of_zero_le (show 0 ≤ max (nearI ry) 0 by omega)
  obtain ⟨Lf, hLf⟩ := Int.eq_ofNat_of_zero_le (show 0 ≤ max (nearI rx) 0 by omega)
  rw [hT] at HF0 HF1
  rw [hLf] at HP
  simp only [hT, hLf]
  generalize min (nearI rx + nearI rw) (n : Int) = Rt at *
  generalize min (nearI ry + nearI rh) (hh : Int) = Bt at *
  clear hT hLf e0 e1 e2 f0 f1 f2 f3 q0 q1
  go_wp2_with fail
  go_loopg [14] hh (fun q y wr => ∃ k : Nat, y = .int .i64 (k : Int) ∧ T ≤ k ∧ hh - k ≤ q ∧ Apart g [g] Y wr ∧ wr.heap[g]? = some (.cells (flat (upto n hh cs F k) ++ rest).toArray t (0, 0)))
  case atStart =>
    refine ⟨T, rfl, Nat.le_refl _, by omega, ⟨(Below.refl _ _).trans ⟨rfl, rfl, rfl, Nat.le_refl _, fun _ _ => rfl⟩, fun _ _ _ => rfl⟩, ?_⟩
    rw [upto_start n hh cs F T (fun y hy => HF0.out y (.inl (by omega)) _)]
    exact qg
  case round =>
    obtain ⟨k, rfl, hk, hq, hap, hv⟩ := hrel
    have hY := hap.1
    have v2 := hap.carry q2 (by simp; omega)
    have v3 := hap.carry q3 (by simp; omega)
    have vM := hap.carry qM (by simp; omega)
    have kW : Below w.heap.size w wr := kY.trans (hY.mono (by omega))
    by_cases hlt : (k : Int) < Bt
    · have hkh : k < hh := by omega
      have hrl := row_len n hh cs k HL.out hkh
      have HRW : Hid (Calls Tryd.prog 36 #[.agg #[.int .i64 (n : Int), .int .i64 (hh : Int), .slice (some ⟨g, 0, none⟩) cs.length cap], .int .i64 (k : Int)] wr fun e w' => e = .returned (.slice (some ⟨g, 0 + k * n * 4, none⟩) n (cap - k * n)) ∧ Below wr.heap.size wr w') := rowOf_any g 0 cs.length cap n k hh wr (by omega) (row_fits n hh _ k HL.out hkh) hlc hcm
      have HE : Hid (flat (upto n hh cs F k) ++ rest = flat (preF n cs F k) ++ (flat (rowAt n cs k) ++ (flat (cs.drop ((k + 1) * n)) ++ rest))) := by
        unfold Hid
        rw [upto_at n hh cs F k hkh, flat_three]
      have HN : Hid (flat (upto n hh cs F (k + 1)) ++ rest = flat (preF n cs F k) ++ (flat (F k (rowAt n cs k)) ++ (flat (cs.drop ((k + 1) * n)) ++ rest))) := by
        unfold Hid
        rw [upto_next n hh cs F k hkh, flat_three]
      have HFk : Hid (F k (rowAt n cs k) = mendL (putRow (rowAt n cs k) ins fun _ => (r, f, bk, x))) := HF1.out k (by omega) hlt _
      have hpl : (flat (preF n cs F k)).length = 0 + k * n * 4 := by rw [flat_len, preF_len n hh cs F HL.out HFL.out k (by omega)]; omega
      have HPL : Hid ((flat (preF n cs F k)).length = 0 + k * n * 4) := hpl
      rw [HE.out] at hv
      clear hpl HE
      generalize flat (preF n cs F k) = pre at *
      generalize flat (cs.drop ((k + 1) * n)) ++ rest = post at *
      have HRL : Hid ((rowAt n cs k).length = n) := hrl
      have HMR : Hid (∀ p, Alike (putRow (rowAt n cs k) p fun _ => (r, f, bk, x))) := HML.out k hkh
      clear hrl
      generalize hrow : rowAt n cs k = row at HN HFk HRL hv HMR
      clear hrow
      generalize hoff : 0 + k * n * 4 = off at *
      have ⟨vM0, vM1, vM2, _⟩ := cells3 vM
      go_wp2_with (go_at_call 36; refine HRW.out.mono ?_; rintro e W5 ⟨rfl, b5⟩)
      have hap5 : Apart g [g] Y W5 := hap.step b5 (by have := blk_lt hv; omega)
      have hv5 := carry hv b5
      clear hap hv v2 v3 vM vM0 vM1 vM2 kW b5 HRW hY
      go_loopg [16] n (fun q xx wr => ∃ j : Nat, xx = .int .i64 (j : Int) ∧ Lf ≤ j ∧ n - j ≤ q ∧ Apart g [g] Y wr ∧ wr.heap[g]? = some (.cells (pre ++ (flat (putRow row (fun u => ins u && decide (u < j)) fun _ => (r, f, bk, x)) ++ post)).toArray t (0, 0)))
      case atStart =>
        refine ⟨Lf, rfl, Nat.le_refl _, by omega, hap5, ?_⟩
        rw [putRow_none]
        · exact hv5
        · intro u _
          rw [HP.out u]
          simp
          omega
      case round =>
        clear hap5 hv5
        obtain ⟨j, rfl, hj, hq2, hap, hv⟩ := hrel
        have v2 := hap.carry q2 (by simp; omega)
        by_cases hlt2 : (j : Int) < Rt
        · have hjn : j < n := by omega
          have hth := there_cell hv j (by rw [putRow_len, HRL.out]; exact hjn)
          have hst := store_cell hv j (by rw [putRow_len, HRL.out]; exact hjn) (r, f, bk, x)
          rw [putRow_set row _ (fun u => ins u && decide (u < j + 1)) (fun _ => (r, f, bk, x)) j (by rw [HRL.out]; exact hjn) (fun u _ => by
            rw [HP.out u]
            by_cases huj : u = j
            · subst huj; simp; omega
            · simp only [huj, decide_false, Bool.or_false]
              rw [show decide (u < j + 1) = decide (u < j) by rw [decide_eq_decide]; omega])] at hst
          rw [HPL.out] at hth hst
          have HST : Hid ((wr.setCells g (off + j * 4) (words (r, f, bk, x))).heap[g]? = some (.cells (pre ++ (flat (putRow row (fun u => ins u && decide (u < j + 1)) fun _ => (r, f, bk, x)) ++ post)).toArray t (0, 0))) := hst
          have HTH : Hid (wr.there g (off + j * 4) 4) := hth
          have HAP : Hid (Apart g [g] Y (wr.setCells g (off + j * 4) (words (r, f, bk, x)))) := hap.setCells g _ _ (by simp) (Nat.le_refl _)
          clear hst hth hap hv
          go_wp2_with (first
            | (refine wpList_load_row rfl 40 _ rfl (w.heap.size + 2) rfl _ _ _ _ v2 Tryd.underlying40 rfl (by kernel_rfl) ?_)
            | (refine wpList_store_mid rfl 40 (.tmp 78) (.tmp 77) rfl g (off + j * 4) #[.int .i32 r, .int .i64 f, .int .i64 bk, .int .i64 x] rfl rfl HTH.out info_cell4 (words_one (r, f, bk, x)) ?_))
          go_roundg (n - (j + 1))
          case measure => omega
          case rel => exact ⟨j + 1, rfl, by omega, by omega, HAP.out, HST.out⟩
        · have HEQ : Hid (putRow row (fun u => ins u && decide (u < j)) (fun _ => (r, f, bk, x)) = putRow row ins fun _ => (r, f, bk, x)) := putRow_congr _ _ _ _ _ (fun u _ => ⟨by rw [HP.out u, Bool.eq_iff_iff]; simp; omega, fun _ => rfl⟩)
          rw [HEQ.out] at hv
          have KM := mend_any g (cap - k * n) (putRow row ins fun _ => (r, f, bk, x)) pre post t wr hv (by rw [putRow_len, HRL.out]; omega) (HT.out _ (kY.trans (hap.1.mono (by omega)))) (by have := HTP.out; omega) (HMR.out ins)
          rw [putRow_len, HRL.out, HPL.out, ← HFk.out, ← HN.out] at KM
          have HKM : Hid (Calls Tryd.prog 45 #[.slice (some ⟨g, off, none⟩) n (cap - k * n)] wr fun e w' => e = .returned (.tuple #[]) ∧ w'.heap[g]? = some (.cells (flat (upto n hh cs F (k + 1)) ++ rest).toArray t (0, 0)) ∧ Apart g [g] wr w') := KM
          have HAP : Hid (Apart g [g] Y wr) := hap
          clear KM HEQ v2 hv hap
          go_wp2_with (go_at_call 45; refine HKM.out.mono ?_; rintro e W6 ⟨rfl, hv6, ap6⟩)
          go_roundg (hh - (k + 1))
          case measure => omega
          case rel => exact ⟨k + 1, rfl, by omega, by omega, HAP.out.trans ap6, hv6⟩
    · have HEN : Hid (upto n hh cs F k = preF n cs F hh) := upto_end n hh cs F HL.out k (fun y hy => HF0.out y (.inr (by omega)) _)
      have HEL : Hid ((upto n hh cs F k).length = cs.length) := upto_len n hh cs F HL.out HFL.out k
      go_wp2_with (first
        | (refine wpList_load_row rfl 24 _ rfl M rfl _ _ _ _ vM Tryd.underlying24 rfl (by kernel_rfl) ?_)
        | (refine wpList_store_row rfl 24 (.tmp 6) _ rfl (w.heap.size + 3) #[.int .i64 (n : Int), .int .i64 (hh : Int), .slice (some ⟨g, 0, none⟩) cs.length cap] rfl rfl _ _ v3 (by kernel_rfl) rfl (one3v _ _ _ _ _) ?_))
      (try simp only [Exit.inBlock, Exit.then])
      refine bodyPost_ret (v := .tuple #[.agg #[.int .i64 (n : Int), .int .i64 (hh : Int), .slice (some ⟨g, 0, none⟩) cs.length cap], .int .i64 0]) ?_ rfl ⟨_, rfl, ?_, below_setRow kW (by omega) _⟩
      · exact results_row_tmp rfl _ _ (w.heap.size + 3) _ _ _ _ rfl (setRow_heap _ _ _ _ _ _ v3) Tryd.underlying24 rfl (by kernel_rfl) _ rfl
      · rw [← HFG.out, ← HEN.out]
        refine ⟨g, cap, rest, t, by rw [HEL.out], by omega, by rw [HEL.out]; exact hlc, hcm, ?_⟩
        rw [setRow_other _ _ _ _ (by omega)]
        exact hv
end Grd
end Go.Proofs.YtinhmklpnkikgaaDoor

/- The closed fact 'gridded'. -/
namespace Go.Proofs.YtinhmklpnkikgaaDoor
open Go.ChangeShapes Go.WideShapes Go.ChangeAt Go.RowKit
namespace Grd
theorem var_new (W : World) (T : TypeId) (z cs : Array Value) : ((W.alloc (.cells z T)).setRow W.heap.size cs).heap[W.heap.size]? = some (.cells cs T (0, 0)) ∧ Below W.heap.size W ((W.alloc (.cells z T)).setRow W.heap.size cs) :=
  ⟨setRow_heap _ _ _ _ _ _ (heap_alloc_new _ _), below_setRow ((Below.refl _ _).alloc (Nat.le_refl _) _) (Nat.le_refl _) _⟩
def gA : List C := [blank, blank, blank]
def gB : List C := [(26085, 0, 0, 0), (0, 0, 0, 0), (120, 0, 0, 0)]
def gC : List C := [(32, 0, 0, 0), (122, 0, 0, 0), (120, 0, 0, 0)]
def sunx : ByteArray := ⟨#[230, 151, 165, 120]⟩
theorem gA_ok : gridErr (3 : Nat) (1 : Nat) gA = 0 := by decide +kernel
theorem gB_ok : gridErr (3 : Nat) (1 : Nat) gB = 0 := by decide +kernel
theorem gC_ok : gridErr (3 : Nat) (1 : Nat) gC = 0 := by decide +kernel
theorem gB_is : writeG 3 1 gA 0 0 (Txt.runes sunx) (0, 0, 0) = gB := by decide +kernel
theorem gC_is : fillG 3 1 gB 1 0 1 1 (122, 0, 0, 0) = gC := by decide +kernel
theorem gL_is : linesL 3 1 gC = [⟨#[32, 122, 120]⟩] := by decide +kernel
theorem gNew (w : World) : Calls Tryd.prog 9 #[.int .i64 3, .int .i64 1] w fun e w' => ∃ (g cap : Nat) (rest : List Value) (t : TypeId), e = .returned (.tuple #[.agg #[.int .i64 3, .int .i64 1, .slice (some ⟨g, 0, none⟩) 3 cap], .int .i64 0]) ∧ 3 ≤ cap ∧ cap ≤ 9223372036854775807 ∧ w'.heap[g]? = some (.cells (flat gA ++ rest).toArray t (0, 0)) ∧ Below w.heap.size w w' :=
  (new_good 3 1 w (by decide)).mono fun e w' ⟨v, he, ⟨g, cap, rest, t, hv, _, hc, hm, hh⟩, hb⟩ => ⟨g, cap, rest, t, by rw [he, hv]; rfl, hc, hm, hh, hb⟩
theorem gWrite (g cap : Nat) (rest : List Value) (t : TypeId) (w : World) (hT : Txt.Tab w) (hc : 3 ≤ cap) (hm : cap ≤ 9223372036854775807) (hh : w.heap[g]? = some (.cells (flat gA ++ rest).toArray t (0, 0))) :
    Calls Tryd.prog 22 #[.agg #[.int .i64 3, .int .i64 1, .slice (some ⟨g, 0, none⟩) 3 cap], .int .i64 0, .int .i64 0, .string sunx, .agg #[.int .i64 0, .int .i64 0, .int .i64 0]] w fun e w' => ∃ (g cap : Nat) (rest : List Value) (t : TypeId), e = .returned (.tuple #[.agg #[.int .i64 3, .int .i64 1, .slice (some ⟨g, 0, none⟩) 3 cap], .int .i64 0]) ∧ 3 ≤ cap ∧ cap ≤ 9223372036854775807 ∧ w'.heap[g]? = some (.cells (flat gB ++ rest).toArray t (0, 0)) ∧ Below w.heap.size w w' := by
  have := write_good 3 1 g 0 cap 0 0 gA 0 0 0 sunx w hT (cellsAt_flat hh) gA_ok hc hm (by decide) (by decide) (by decide)
  rw [gB_is] at this
  exact this.mono fun e w' ⟨v, he, ⟨g, cap, rest, t, hv, _, hc, hm, hh⟩, hb⟩ => ⟨g, cap, rest, t, by rw [he, hv]; rfl, hc, hm, hh, hb⟩
theorem gFill (g cap : Nat) (rest : List Value) (t : TypeId) (w : World) (hT : Txt.Tab w) (hc : 3 ≤ cap) (hm : cap ≤ 9223372036854775807) (hh : w.heap[g]? = some (.cells (flat gB ++ rest).toArray t (0, 0))) :
    Calls Tryd.prog 18 #[.agg #[.int .i64 3, .int .i64 1, .slice (some ⟨g, 0, none⟩) 3 cap], .agg #[.int .i64 1, .int .i64 0, .int .i64 1, .int .i64 1], .agg #[.int .i32 122, .int .i64 0, .int .i64 0, .int .i64 0]] w fun e w' => ∃ (g cap : Nat) (rest : List Value) (t : TypeId), e = .returned (.tuple #[.agg #[.int .i64 3, .int .i64 1, .slice (some ⟨g, 0, none⟩) 3 cap], .int .i64 0]) ∧ 3 ≤ cap ∧ cap ≤ 9223372036854775807 ∧ w'.heap[g]? = some (.cells (flat gC ++ rest).toArray t (0, 0)) ∧ Below w.heap.size w w' := by
  have := fill_good 3 1 g 0 cap gB 1 0 1 1 122 0 0 0 w hT (cellsAt_flat hh) gB_ok hc hm (by decide +kernel) (by decide)
  rw [gC_is] at this
  exact this.mono fun e w' ⟨v, he, ⟨g, cap, rest, t, hv, _, hc, hm, hh⟩, hb⟩ => ⟨g, cap, rest, t, by rw [he, hv]; rfl, hc, hm, hh, hb⟩
theorem gLines (g cap : Nat) (rest : List Value) (t : TypeId) (w : World) (hT : Txt.Tab w) (hc : 3 ≤ cap) (hm : cap ≤ 9223372036854775807) (hh : w.heap[g]? = some (.cells (flat gC ++ rest).toArray t (0, 0))) :
    Calls Tryd.prog 31 #[.agg #[.int .i64 3, .int .i64 1, .slice (some ⟨g, 0, none⟩) 3 cap]] w fun e w' => ∃ (g : Nat), e = .returned (.tuple #[.slice (some ⟨g, 0, none⟩) 1 1, .int .i64 0]) ∧ w'.cell? ⟨g, 0, none⟩ = some (.string ⟨#[32, 122, 120]⟩) ∧ Below w.heap.size w w' := by
  have := lines_good 3 1 g 0 cap gC w hT (cellsAt_flat hh) gC_ok hc hm
  rw [gL_is] at this
  exact this.mono fun e w' ⟨v, he, ⟨g, t, hv, _, hh⟩, hb⟩ => ⟨g, by rw [he, hv]; rfl, by simp [World.cell?, hh], hb⟩
theorem gEqual (b1 b2 : Nat) (w : World) (h1 : w.cell? ⟨b1, 0, none⟩ = some (.string ⟨#[32, 122, 120]⟩)) (h2 : w.cell? ⟨b2, 0, none⟩ = some (.string ⟨#[32, 122, 120]⟩)) :
    Calls Tryd.prog 32 #[.slice (some ⟨b1, 0, none⟩) 1 1, .slice (some ⟨b2, 0, none⟩) 1 1] w fun e w' => e = .returned (.bool true) ∧ Below w.heap.size w w' := by
  have h := Tryd.slices_Equal_string b1 0 1 1 b2 0 1 1 [⟨#[32, 122, 120]⟩] [⟨#[32, 122, 120]⟩] w (by decide) (by decide) (by decide) (by decide)
    (fun j hj => by obtain rfl : j = 0 := by simp at hj; omega
                    exact h1) (fun j hj => by obtain rfl : j = 0 := by simp at hj; omega
                                              exact h2)
  exact h.mono fun e w' ⟨he, q, hw⟩ => ⟨he, by rw [hw]; exact ⟨rfl, rfl, rfl, Nat.le_refl _, fun _ _ => rfl⟩⟩
end Grd
end Go.Proofs.YtinhmklpnkikgaaDoor

/- The walk of 'gridded'. -/
namespace Go.Proofs.YtinhmklpnkikgaaDoor
open Go.ChangeShapes Go.WideShapes Go.ChangeAt Go.RowKit
namespace Grd
set_option maxHeartbeats 4000000 in
theorem gridded_any (w : World) (hT : Txt.Tab w) : Calls Tryd.prog 10 #[] w fun e w' => e = .returned (.bool true) ∧ Below w.heap.size w w' := by
  have HT : Hid (∀ W, Below w.heap.size w W → Txt.Tab W) := fun W k => Tab.next hT k
  clear hT
  go_enter Tryd.func10, Tryd.ntmps10
  go_wp2_with (first
    | (go_at_call 9; refine (gNew _).mono ?_; rintro e W1 ⟨g1, c1, r1, t1, rfl, hc1, hm1, h1, b1⟩)
    | (refine wpList_store_row rfl 24 (.tmp 1) _ rfl W1.heap.size #[.int .i64 3, .int .i64 1, .slice (some ⟨g1, 0, none⟩) 3 c1] rfl rfl _ _ (heap_alloc_new W1 _) (by kernel_rfl) rfl (one3v _ _ _ _ _) ?_
       obtain ⟨m1, a1⟩ := var_new W1 24 #[.int .i64 0, .int .i64 0, .slice none 0 0] #[.int .i64 3, .int .i64 1, .slice (some ⟨g1, 0, none⟩) 3 c1]
       generalize ((W1.alloc (.cells #[.int .i64 0, .int .i64 0, .slice none 0 0] 24)).setRow W1.heap.size #[.int .i64 3, .int .i64 1, .slice (some ⟨g1, 0, none⟩) 3 c1]) = X1 at *
       have k1 := b1.trans (a1.mono b1.size)
       have h1' := carry h1 a1)
    | (refine wpList_load_row rfl 24 _ rfl W1.heap.size rfl _ _ _ _ m1 Tryd.underlying24 rfl (by kernel_rfl) ?_)
    | (go_at_call 22; refine (gWrite g1 c1 r1 t1 _ (HT.out _ k1) hc1 hm1 h1').mono ?_; rintro e W2 ⟨g2, c2, r2, t2, rfl, hc2, hm2, h2, b2⟩)
    | (refine wpList_store_row rfl 24 (.tmp 3) _ rfl W2.heap.size #[.int .i64 3, .int .i64 1, .slice (some ⟨g2, 0, none⟩) 3 c2] rfl rfl _ _ (heap_alloc_new W2 _) (by kernel_rfl) rfl (one3v _ _ _ _ _) ?_
       obtain ⟨m2, a2⟩ := var_new W2 24 #[.int .i64 0, .int .i64 0, .slice none 0 0] #[.int .i64 3, .int .i64 1, .slice (some ⟨g2, 0, none⟩) 3 c2]
       generalize ((W2.alloc (.cells #[.int .i64 0, .int .i64 0, .slice none 0 0] 24)).setRow W2.heap.size #[.int .i64 3, .int .i64 1, .slice (some ⟨g2, 0, none⟩) 3 c2]) = X2 at *
       have k2 := (k1.trans (b2.mono k1.size)).trans (a2.mono (k1.trans (b2.mono k1.size)).size)
       have h2' := carry h2 a2)
    | (refine wpList_load_row rfl 24 _ rfl W2.heap.size rfl _ _ _ _ m2 Tryd.underlying24 rfl (by kernel_rfl) ?_)
    | (go_at_call 18; refine (gFill g2 c2 r2 t2 _ (HT.out _ k2) hc2 hm2 h2').mono ?_; rintro e W3 ⟨g3, c3, r3, t3, rfl, hc3, hm3, h3, b3⟩)
    | (refine wpList_store_row rfl 24 (.tmp 5) _ rfl W3.heap.size #[.int .i64 3, .int .i64 1, .slice (some ⟨g3, 0, none⟩) 3 c3] rfl rfl _ _ (heap_alloc_new W3 _) (by kernel_rfl) rfl (one3v _ _ _ _ _) ?_
       obtain ⟨m3, a3⟩ := var_new W3 24 #[.int .i64 0, .int .i64 0, .slice none 0 0] #[.int .i64 3, .int .i64 1, .slice (some ⟨g3, 0, none⟩) 3 c3]
       generalize ((W3.alloc (.cells #[.int .i64 0, .int .i64 0, .slice none 0 0] 24)).setRow W3.heap.size #[.int .i64 3, .int .i64 1, .slice (some ⟨g3, 0, none⟩) 3 c3]) = X3 at *
       have k3 := (k2.trans (b3.mono k2.size)).trans (a3.mono (k2.trans (b3.mono k2.size)).size)
       have h3' := carry h3 a3)
    | (refine wpList_load_row rfl 24 _ rfl W3.heap.size rfl _ _ _ _ m3 Tryd.underlying24 rfl (by kernel_rfl) ?_)
    | (go_at_call 31; refine (gLines g3 c3 r3 t3 _ (HT.out _ k3) hc3 hm3 h3').mono ?_; rintro e W4 ⟨g4, rfl, h4, b4⟩; have k4 := k3.trans (b4.mono k3.size))
    | (go_at_call 32; refine (gEqual g4 W4.heap.size _ (cell_keep ((Below.refl _ _).alloc (Nat.le_refl _) _) h4) (by simp)).mono ?_; rintro e W5 ⟨rfl, b5⟩))
  go_ret
  have ka := k4.alloc k4.size (.cells #[.string ⟨#[32, 122, 120]⟩] 9)
  exact ⟨rfl, ka.trans (b5.mono ka.size)⟩
end Grd
end Go.Proofs.YtinhmklpnkikgaaDoor

/- The walk of the law GridPart. -/
namespace Go.Proofs.YtinhmklpnkikgaaDoor
open Go.ChangeShapes Go.WideShapes Go.ChangeAt Go.RowKit Go.Maps
namespace Grd
set_option maxHeartbeats 4000000 in
set_option maxRecDepth 100000 in
theorem gridPart_bad (a h : Int) (v : Value) (cs : List C) (rx ry rw rh pw ph : Int) (w : World) (hT : Txt.Tab w) (hS : SliceAt w v cs) (hok : gridErr a h cs ≠ 0) :
    Calls Tryd.prog 7 #[.agg #[.int .i64 a, .int .i64 h, v], .agg #[.int .i64 rx, .int .i64 ry, .int .i64 rw, .int .i64 rh], .int .i64 pw, .int .i64 ph] w fun e w' => e = .returned (.bool true) ∧ Below w.heap.size w w' := by
  have HT : Hid (∀ W, Below w.heap.size w W → Txt.Tab W) := fun W k => Tab.next hT k
  have HS : Hid (∀ W, Below w.heap.size w W → SliceAt W v cs) := fun W k => hS.below k
  obtain ⟨x0, x1, kk, hsz⟩ := alloc2' w (.cells #[.int .i64 a, .int .i64 h, v] 24) (.cells #[.int .i64 rx, .int .i64 ry, .int .i64 rw, .int .i64 rh] 36)
  obtain ⟨er, her⟩ : ∃ q, gridErr a h cs = q := ⟨_, rfl⟩
  have HER : Hid (gridErr a h cs = er) := her
  have HPT : Hid (∀ W, Below w.heap.size w W → Calls Tryd.prog 26 #[.agg #[.int .i64 a, .int .i64 h, v], .agg #[.int .i64 rx, .int .i64 ry, .int .i64 rw, .int .i64 rh]] W fun e w' => e = .returned (.tuple #[.agg #[.int .i64 0, .int .i64 0, .slice none 0 0], .int .i64 er]) ∧ Below W.heap.size W w') := fun W k => by
    have := part_bad1 a h v cs rx ry rw rh W (Tab.next hT k) (hS.below k) hok
    rwa [her] at this
  have HRZ : Hid (∀ W, Below w.heap.size w W → Calls Tryd.prog 27 #[.agg #[.int .i64 a, .int .i64 h, v], .int .i64 pw, .int .i64 ph] W fun e w' => e = .returned (.tuple #[.agg #[.int .i64 0, .int .i64 0, .slice none 0 0], .int .i64 er]) ∧ Below W.heap.size W w') := fun W k => by
    have := resize_bad1 a h v cs pw ph W (Tab.next hT k) (hS.below k) hok
    rwa [her] at this
  have ne : (er != 0) = true := by rw [← her]; simpa using hok
  have nee : (er == er) = true := by simp
  clear hok her hT hS
  generalize hW0 : ((w.alloc (.cells #[.int .i64 a, .int .i64 h, v] 24)).alloc (.cells #[.int .i64 rx, .int .i64 ry, .int .i64 rw, .int .i64 rh] 36)) = W0 at x0 x1 kk hsz
  have HW0 : Hid (_ = W0) := hW0
  clear hW0
  go_enter Tryd.func7, Tryd.ntmps7
  go_wp2_with fail
  rw [HW0.out]
  refine (HPT.out _ kk).mono ?_
  rintro e W1 ⟨rfl, b1⟩
  have gs1 := carry x0 b1
  have ks1 := kk.trans (b1.mono kk.size)
  go_wp2_with (refine wpList_store_row rfl 24 (.tmp 9) _ rfl W1.heap.size #[.int .i64 0, .int .i64 0, .slice none 0 0] rfl rfl _ _ (heap_alloc_new W1 _) (by kernel_rfl) rfl (one3v _ _ _ _ _) ?_
               obtain ⟨mX1, aX1⟩ := var_new W1 24 #[.int .i64 0, .int .i64 0, .slice none 0 0] #[.int .i64 0, .int .i64 0, .slice none 0 0]
               generalize ((W1.alloc (.cells #[.int .i64 0, .int .i64 0, .slice none 0 0] 24)).setRow W1.heap.size #[.int .i64 0, .int .i64 0, .slice none 0 0]) = X1 at *
               have gs2 := carry gs1 aX1
               have ks2 := ks1.trans (aX1.mono ks1.size)
               obtain ⟨cgX10, cgX11, cgX12, _⟩ := cells3 gs2)
  refine (HRZ.out _ ks2).mono ?_
  rintro e W2 ⟨rfl, b2⟩
  have gs3 := carry gs2 b2
  have os3 := carry mX1 b2
  have ks3 := ks2.trans (b2.mono ks2.size)
  clear cgX10 cgX11 cgX12
  go_wp2_with (refine wpList_store_row rfl 24 (.tmp 11) _ rfl W2.heap.size #[.int .i64 0, .int .i64 0, .slice none 0 0] rfl rfl _ _ (heap_alloc_new W2 _) (by kernel_rfl) rfl (one3v _ _ _ _ _) ?_
               obtain ⟨mX2, aX2⟩ := var_new W2 24 #[.int .i64 0, .int .i64 0, .slice none 0 0] #[.int .i64 0, .int .i64 0, .slice none 0 0]
               generalize ((W2.alloc (.cells #[.int .i64 0, .int .i64 0, .slice none 0 0] 24)).setRow W2.heap.size #[.int .i64 0, .int .i64 0, .slice none 0 0]) = X2 at *
               have gs4 := carry gs3 aX2
               have os4 := carry os3 aX2
               have ks4 := ks3.trans (aX2.mono ks3.size)
               obtain ⟨cgX20, cgX21, cgX22, _⟩ := cells3 gs4)
  refine (ref_to a h v cs _ HER.out _ (HS.out _ ks4)).mono ?_
  rintro e W3 ⟨rfl, b3⟩
  have os5 := carry os4 b3
  have zs5 := carry mX2 b3
  have ks5 := ks4.trans (b3.mono ks4.size)
  clear cgX20 cgX21 cgX22
  go_wp2_with fail
  refine (gridded_any _ (HT.out _ ks5)).mono ?_
  rintro e W4 ⟨rfl, b4⟩
  have os6 := carry os5 b4
  have zs6 := carry zs5 b4
  have ks6 := ks5.trans (b4.mono ks5.size)
  go_wp2_with fail
  refine (gridded_any _ (HT.out _ ks6)).mono ?_
  rintro e W5 ⟨rfl, b5⟩
  have os7 := carry os6 b5
  have zs7 := carry zs6 b5
  have ks7 := ks6.trans (b5.mono ks6.size)
  obtain ⟨cos70, cos71, cos72, _⟩ := cells3 os7
  obtain ⟨czs70, czs71, czs72, _⟩ := cells3 zs7
  go_wp2_with fail
  refine (noGrid_none _).mono ?_
  rintro e W6 ⟨rfl, b6⟩
  have zs8 := carry zs7 b6
  have ks8 := ks7.trans (b6.mono ks7.size)
  clear cos70 cos71 cos72 czs70 czs71 czs72
  obtain ⟨czs80, czs81, czs82, _⟩ := cells3 zs8
  go_wp2_with fail
  refine (noGrid_none _).mono ?_
  rintro e W7 ⟨rfl, b7⟩
  have ks9 := ks8.trans (b7.mono ks8.size)
  clear czs80 czs81 czs82
  go_wp2_with fail
  go_ret
  exact ⟨rfl, ks9⟩
theorem rows_out (m p b o cx : Nat) (fs : List C) (w : World) (hC : CellsAt w b o fs) (hs : isSize m p = true) (hL : fs.length = m * p) (hc : fs.length ≤ cx) (hp : 1 ≤ p) :
    Calls Tryd.prog 28 #[.agg #[.int .i64 (m : Int), .int .i64 (p : Int), .slice (some ⟨b, o, none⟩) fs.length cx]] w fun e w' => ∃ (G cap : Nat) (rest vs : List Value) (gs : List Nat), e = .returned (.slice (some ⟨G, 0, none⟩) p cap) ∧ w'.heap[G]? = some (.cells (vs ++ rest).toArray 22 (0, 0)) ∧ p ≤ cap ∧ cap ≤ 9223372036854775807 ∧ vs.length = p ∧ RowsAt w' w.heap.size vs gs (rowsL m fs p) ∧ Below w.heap.size w w' := by
  refine (rows_any m p b o cx fs w hC hs hL hc).mono ?_
  rintro e w' ⟨v, vs, gs, rfl, ho, hr, hb⟩
  have hvl : vs.length = p := by rw [hr.1, rowsL_len]
  rw [← hvl] at ho
  obtain ⟨G, cap, rest, rfl, hGb, hlc, hcm, hGh⟩ := out_of_own ho (by omega)
  rw [hvl] at hlc
  exact ⟨G, cap, rest, vs, gs, by rw [hvl], hGh, hlc, hcm, hvl, hr, hb⟩
theorem below_same {w w' : World} (h : w = w') : Below w.heap.size w w' := h ▸ Below.refl _ _
set_option maxHeartbeats 8000000 in
set_option maxRecDepth 100000 in
theorem gridPart_ff (m p b o cx : Nat) (fs : List C) (rx ry rw rh : Int) (pw ph : Int) (w : World) (hT : Txt.Tab w) (hC : CellsAt w b o fs) (hc : fs.length ≤ cx) (hm : cx ≤ 9223372036854775807) (hok : gridErr m p fs = 0) (hx0 : -9223372036854775808 ≤ rx) (hx1 : rx ≤ 9223372036854775807) (hy0 : -9223372036854775808 ≤ ry) (hy1 : ry ≤ 9223372036854775807) (hold : holdsI m p rx ry rw rh = false) (hs : isSize pw ph = false) :
    Calls Tryd.prog 7 #[.agg #[.int .i64 (m : Int), .int .i64 (p : Int), .slice (some ⟨b, o, none⟩) fs.length cx], .agg #[.int .i64 rx, .int .i64 ry, .int .i64 rw, .int .i64 rh], .int .i64 pw, .int .i64 ph] w fun e w' => e = .returned (.bool true) ∧ Below w.heap.size w w' := by
  obtain ⟨hL, q1, q2, q3, q4, hl7, hne⟩ := okRange m p fs hok
  obtain ⟨hsize, -, -⟩ := (gridErr_zero m p fs).1 hok
  have hS : SliceAt w (.slice (some ⟨b, o, none⟩) fs.length cx) fs := .inr ⟨hne, b, o, cx, rfl, hc, hm, hC⟩
  have HT : Hid (∀ W, Below w.heap.size w W → Txt.Tab W) := fun W k => Tab.next hT k
  have HS : Hid (∀ W, Below w.heap.size w W → SliceAt W (.slice (some ⟨b, o, none⟩) fs.length cx) fs) := fun W k => hS.below k
  obtain ⟨x0, x1, kk, hsz⟩ := alloc2' w (.cells #[.int .i64 (m : Int), .int .i64 (p : Int), .slice (some ⟨b, o, none⟩) fs.length cx] 24) (.cells #[.int .i64 rx, .int .i64 ry, .int .i64 rw, .int .i64 rh] 36)
  have HER : Hid (gridErr m p fs = 0) := hok
  have HPT : Hid (∀ W, Below w.heap.size w W → Calls Tryd.prog 26 #[.agg #[.int .i64 (m : Int), .int .i64 (p : Int), .slice (some ⟨b, o, none⟩) fs.length cx], .agg #[.int .i64 rx, .int .i64 ry, .int .i64 rw, .int .i64 rh]] W fun e w' => e = .returned (.tuple #[.agg #[.int .i64 0, .int .i64 0, .slice none 0 0], .int .i64 4]) ∧ Below W.heap.size W w') := fun W k => part_bad2 m p _ fs rx ry rw rh W (Tab.next hT k) (hS.below k) hok hx0 hx1 hy0 hy1 hold
  have HRZ : Hid (∀ W, Below w.heap.size w W → Calls Tryd.prog 27 #[.agg #[.int .i64 (m : Int), .int .i64 (p : Int), .slice (some ⟨b, o, none⟩) fs.length cx], .int .i64 pw, .int .i64 ph] W fun e w' => e = .returned (.tuple #[.agg #[.int .i64 0, .int .i64 0, .slice none 0 0], .int .i64 3]) ∧ Below W.heap.size W w') := fun W k => resize_bad2 m p _ fs pw ph W (Tab.next hT k) (hS.below k) hok hs
  have HSZ : Hid (∀ W, Calls Tryd.prog 13 #[.int .i64 pw, .int .i64 ph] W fun e w' => e = .returned (.bool false) ∧ W = w') := fun W => by
    have := size_any pw ph W
    rwa [hs] at this
  clear hok hT hS hC hL hsize hs hm hne
  generalize hW0 : ((w.alloc (.cells #[.int .i64 (m : Int), .int .i64 (p : Int), .slice (some ⟨b, o, none⟩) fs.length cx] 24)).alloc (.cells #[.int .i64 rx, .int .i64 ry, .int .i64 rw, .int .i64 rh] 36)) = W0 at x0 x1 kk hsz
  have HW0 : Hid (_ = W0) := hW0
  clear hW0
  go_enter Tryd.func7, Tryd.ntmps7
  go_wp2_with fail
  rw [HW0.out]
  refine (HPT.out _ kk).mono ?_
  rintro e W1 ⟨rfl, b1⟩
  have gs1 := carry x0 b1
  have rs1 := carry x1 b1
  have ks1 := kk.trans (b1.mono kk.size)
  go_wp2_with (refine wpList_store_row rfl 24 (.tmp 9) _ rfl W1.heap.size #[.int .i64 0, .int .i64 0, .slice none 0 0] rfl rfl _ _ (heap_alloc_new W1 _) (by kernel_rfl) rfl (one3v _ _ _ _ _) ?_
               obtain ⟨mX1, aX1⟩ := var_new W1 24 #[.int .i64 0, .int .i64 0, .slice none 0 0] #[.int .i64 0, .int .i64 0, .slice none 0 0]
               generalize ((W1.alloc (.cells #[.int .i64 0, .int .i64 0, .slice none 0 0] 24)).setRow W1.heap.size #[.int .i64 0, .int .i64 0, .slice none 0 0]) = X1 at *
               have gs2 := carry gs1 aX1
               have rs2 := carry rs1 aX1
               have ks2 := ks1.trans (aX1.mono ks1.size)
               obtain ⟨cgX10, cgX11, cgX12, _⟩ := cells3 gs2)
  refine (HRZ.out _ ks2).mono ?_
  rintro e W2 ⟨rfl, b2⟩
  have gs3 := carry gs2 b2
  have rs3 := carry rs2 b2
  have os3 := carry mX1 b2
  have ks3 := ks2.trans (b2.mono ks2.size)
  clear cgX10 cgX11 cgX12
  go_wp2_with (refine wpList_store_row rfl 24 (.tmp 11) _ rfl W2.heap.size #[.int .i64 0, .int .i64 0, .slice none 0 0] rfl rfl _ _ (heap_alloc_new W2 _) (by kernel_rfl) rfl (one3v _ _ _ _ _) ?_
               obtain ⟨mX2, aX2⟩ := var_new W2 24 #[.int .i64 0, .int .i64 0, .slice none 0 0] #[.int .i64 0, .int .i64 0, .slice none 0 0]
               generalize ((W2.alloc (.cells #[.int .i64 0, .int .i64 0, .slice none 0 0] 24)).setRow W2.heap.size #[.int .i64 0, .int .i64 0, .slice none 0 0]) = X2 at *
               have gs4 := carry gs3 aX2
               have rs4 := carry rs3 aX2
               have os4 := carry os3 aX2
               have ks4 := ks3.trans (aX2.mono ks3.size)
               obtain ⟨cgX20, cgX21, cgX22, _⟩ := cells3 gs4)
  refine (ref_to m p _ fs _ HER.out _ (HS.out _ ks4)).mono ?_
  rintro e W3 ⟨rfl, b3⟩
  have gs5 := carry gs4 b3
  have rs5 := carry rs4 b3
  have os5 := carry os4 b3
  have zs5 := carry mX2 b3
  have ks5 := ks4.trans (b3.mono ks4.size)
  clear cgX20 cgX21 cgX22
  go_wp2_with fail
  refine (gridded_any _ (HT.out _ ks5)).mono ?_
  rintro e W4 ⟨rfl, b4⟩
  have gs6 := carry gs5 b4
  have rs6 := carry rs5 b4
  have os6 := carry os5 b4
  have zs6 := carry zs5 b4
  have ks6 := ks5.trans (b4.mono ks5.size)
  obtain ⟨cgs60, cgs61, cgs62, _⟩ := cells3 gs6
  obtain ⟨crs60, crs61, crs62, crs63⟩ := cells4 rs6
  have hbad : rx < 0 ∨ ry < 0 ∨ rw < 1 ∨ rh < 1 ∨ (m : Int) - rx < rw ∨ (p : Int) - ry < rh := by
    unfold holdsI at hold; rw [decide_eq_false_iff_not] at hold; omega
  clear hold
  go_upto_region 6 with fail
  go_cut [108] from 57 to 108 (fun c wx => c = .bool true ∧ wx = W4)
  case first =>
    by_cases i0 : rx < 0
    · go_wp2_with fail
      go_meet
      case rel => exact ⟨rfl, rfl⟩
    have j0 : decide (rx < 0) = false := by rw [decide_eq_false_iff_not]; exact i0
    by_cases i1 : ry < 0
    · go_wp2_with fail
      go_meet
      case rel => exact ⟨rfl, rfl⟩
    have j1 : decide (ry < 0) = false := by rw [decide_eq_false_iff_not]; exact i1
    by_cases i2 : rw < 1
    · go_wp2_with fail
      go_meet
      case rel => exact ⟨rfl, rfl⟩
    have j2 : decide (rw < 1) = false := by rw [decide_eq_false_iff_not]; exact i2
    by_cases i3 : rh < 1
    · go_wp2_with fail
      go_meet
      case rel => exact ⟨rfl, rfl⟩
    have j3 : decide (rh < 1) = false := by rw [decide_eq_false_iff_not]; exact i3
    by_cases i4 : (m : Int) ≤ rx
    · go_wp2_with fail
      go_meet
      case rel => exact ⟨rfl, rfl⟩
    have j4 : decide ((m : Int) ≤ rx) = false := by rw [decide_eq_false_iff_not]; exact i4
    by_cases i5 : (p : Int) ≤ ry
    · go_wp2_with fail
      go_meet
      case rel => exact ⟨rfl, rfl⟩
    have j5 : decide ((p : Int) ≤ ry) = false := by rw [decide_eq_false_iff_not]; exact i5
    by_cases i6 : (m : Int) - rx < rw
    · go_wp2_with fail
      go_meet
      case rel => exact ⟨rfl, rfl⟩
    have j6 : decide ((m : Int) - rx < rw) = false := by rw [decide_eq_false_iff_not]; exact i6
    have i7 : (p : Int) - ry < rh := by omega
    have j7 : decide ((p : Int) - ry < rh) = true := by rw [decide_eq_true_eq]; exact i7
    go_wp2_with fail
    go_meet
    case rel => exact ⟨rfl, rfl⟩
  case rest =>
    obtain ⟨rfl, hwc⟩ := hcut
    rw [hwc]
    clear hwc
    obtain ⟨coy0, coy1, coy2, _⟩ := cells3 os6
    go_wp2_with fail
    refine (noGrid_none _).mono ?_
    rintro e W5 ⟨rfl, b5⟩
    have gs7 := carry gs6 b5
    have zs7 := carry zs6 b5
    have ks7 := ks6.trans (b5.mono ks6.size)
    clear cgs60 cgs61 cgs62 crs60 crs61 crs62 crs63 coy0 coy1 coy2
    go_wp2_with fail
    refine (HSZ.out _).mono ?_
    rintro e W6 ⟨rfl, h6⟩
    have gs8 := carry gs7 (below_same h6)
    have zs8 := carry zs7 (below_same h6)
    have ks8 := ks7.trans ((below_same h6).mono ks7.size)
    obtain ⟨cgs80, cgs81, cgs82, _⟩ := cells3 gs8
    obtain ⟨czs80, czs81, czs82, _⟩ := cells3 zs8
    go_wp2_with fail
    refine (noGrid_none _).mono ?_
    rintro e W7 ⟨rfl, b7⟩
    have ks9 := ks8.trans (b7.mono ks8.size)
    clear cgs80 cgs81 cgs82 czs80 czs81 czs82
    go_wp2_with fail
    go_ret
    exact ⟨rfl, ks9⟩
set_option maxHeartbeats 8000000 in
set_option maxRecDepth 100000 in
theorem gridPart_ft (m p b o cx : Nat) (fs : List C) (rx ry rw rh : Int) (q s : Nat) (w : World) (hT : Txt.Tab w) (hC : CellsAt w b o fs) (hc : fs.length ≤ cx) (hm : cx ≤ 9223372036854775807) (hok : gridErr m p fs = 0) (hx0 : -9223372036854775808 ≤ rx) (hx1 : rx ≤ 9223372036854775807) (hy0 : -9223372036854775808 ≤ ry) (hy1 : ry ≤ 9223372036854775807) (hold : holdsI m p rx ry rw rh = false) (hs : isSize q s = true) :
    Calls Tryd.prog 7 #[.agg #[.int .i64 (m : Int), .int .i64 (p : Int), .slice (some ⟨b, o, none⟩) fs.length cx], .agg #[.int .i64 rx, .int .i64 ry, .int .i64 rw, .int .i64 rh], .int .i64 (q : Int), .int .i64 (s : Int)] w fun e w' => e = .returned (.bool true) ∧ Below w.heap.size w w' := by
  obtain ⟨hL, q1, q2, q3, q4, hl7, hne⟩ := okRange m p fs hok
  obtain ⟨hsize, -, -⟩ := (gridErr_zero m p fs).1 hok
  have hS : SliceAt w (.slice (some ⟨b, o, none⟩) fs.length cx) fs := .inr ⟨hne, b, o, cx, rfl, hc, hm, hC⟩
  have HT : Hid (∀ W, Below w.heap.size w W → Txt.Tab W) := fun W k => Tab.next hT k
  have HS : Hid (∀ W, Below w.heap.size w W → SliceAt W (.slice (some ⟨b, o, none⟩) fs.length cx) fs) := fun W k => hS.below k
  obtain ⟨x0, x1, kk, hsz⟩ := alloc2' w (.cells #[.int .i64 (m : Int), .int .i64 (p : Int), .slice (some ⟨b, o, none⟩) fs.length cx] 24) (.cells #[.int .i64 rx, .int .i64 ry, .int .i64 rw, .int .i64 rh] 36)
  have HER : Hid (gridErr m p fs = 0) := hok
  have HPT : Hid (∀ W, Below w.heap.size w W → Calls Tryd.prog 26 #[.agg #[.int .i64 (m : Int), .int .i64 (p : Int), .slice (some ⟨b, o, none⟩) fs.length cx], .agg #[.int .i64 rx, .int .i64 ry, .int .i64 rw, .int .i64 rh]] W fun e w' => e = .returned (.tuple #[.agg #[.int .i64 0, .int .i64 0, .slice none 0 0], .int .i64 4]) ∧ Below W.heap.size W w') := fun W k => part_bad2 m p _ fs rx ry rw rh W (Tab.next hT k) (hS.below k) hok hx0 hx1 hy0 hy1 hold
  have HRZ : Hid (∀ W, Below w.heap.size w W → Calls Tryd.prog 27 #[.agg #[.int .i64 (m : Int), .int .i64 (p : Int), .slice (some ⟨b, o, none⟩) fs.length cx], .int .i64 (q : Int), .int .i64 (s : Int)] W fun e w' => ∃ v, e = .returned (.tuple #[.agg #[.int .i64 (q : Int), .int .i64 (s : Int), v], .int .i64 0]) ∧ OwnG w' W.heap.size v (layG q s (newL q s) m p fs 0 0) ∧ Below W.heap.size W w') := fun W k => resize_good m p b o cx q s fs W (Tab.next hT k) (hC.below k) hc hm hok hs
  have HNG : Hid (∀ W, Calls Tryd.prog 16 #[.int .i64 (q : Int), .int .i64 (s : Int)] W fun e w' => ∃ v, e = .returned (.agg #[.int .i64 (q : Int), .int .i64 (s : Int), v]) ∧ OwnG w' W.heap.size v (newL q s) ∧ Below W.heap.size W w') := fun W => by
    have := newGrid_any q s W hs
    rwa [show ((q : Int) * (s : Int)).toNat = q * s by rw [← Int.natCast_mul, Int.toNat_natCast]] at this
  have HLG : Hid (∀ W u, Below w.heap.size w W → SliceAt W u (newL q s) → Calls Tryd.prog 25 #[.agg #[.int .i64 (m : Int), .int .i64 (p : Int), .slice (some ⟨b, o, none⟩) fs.length cx], .agg #[.int .i64 (q : Int), .int .i64 (s : Int), u], .int .i64 0, .int .i64 0] W fun e w' => ∃ v, e = .returned (.agg #[.int .i64 (q : Int), .int .i64 (s : Int), v]) ∧ OwnG w' W.heap.size v (layG q s (newL q s) m p fs 0 0) ∧ Below W.heap.size W w') := fun W u k su => by
    have hnew := right_new q s hs
    obtain ⟨b2, o2, c2, rfl, h1, h2, h3⟩ := su.open (okRange q s _ hnew).2.2.2.2.2.2
    have := layGrid_any m p b o cx q s b2 o2 c2 0 0 fs (newL q s) W (hC.below k) h3 hok hnew hc h1
    rwa [show nearI 0 = 0 from rfl] at this
  have HZL : Hid ((layG q s (newL q s) m p fs 0 0).length ≤ 1000000) := by unfold Hid; rw [layG_len q s m p _ fs _ _ (newL_len q s)]; have := (okRange q s _ (right_new q s hs)).2.2.2.2.2.1; rw [newL_len] at this; omega
  have hsT : isSize q s = true := hs
  generalize layG q s (newL q s) m p fs 0 0 = rez at HRZ HLG HZL
  generalize newL q s = nl at HNG HLG
  have HSZ : Hid (∀ W, Calls Tryd.prog 13 #[.int .i64 (q : Int), .int .i64 (s : Int)] W fun e w' => e = .returned (.bool true) ∧ W = w') := fun W => by
    have := size_any q s W
    rwa [hs] at this
  clear hsT
  clear hok hT hS hC hL hsize hs hm hne
  generalize hW0 : ((w.alloc (.cells #[.int .i64 (m : Int), .int .i64 (p : Int), .slice (some ⟨b, o, none⟩) fs.length cx] 24)).alloc (.cells #[.int .i64 rx, .int .i64 ry, .int .i64 rw, .int .i64 rh] 36)) = W0 at x0 x1 kk hsz
  have HW0 : Hid (_ = W0) := hW0
  clear hW0
  go_enter Tryd.func7, Tryd.ntmps7
  go_wp2_with fail
  rw [HW0.out]
  refine (HPT.out _ kk).mono ?_
  rintro e W1 ⟨rfl, b1⟩
  have gs1 := carry x0 b1
  have rs1 := carry x1 b1
  have ks1 := kk.trans (b1.mono kk.size)
  go_wp2_with (refine wpList_store_row rfl 24 (.tmp 9) _ rfl W1.heap.size #[.int .i64 0, .int .i64 0, .slice none 0 0] rfl rfl _ _ (heap_alloc_new W1 _) (by kernel_rfl) rfl (one3v _ _ _ _ _) ?_
               obtain ⟨mX1, aX1⟩ := var_new W1 24 #[.int .i64 0, .int .i64 0, .slice none 0 0] #[.int .i64 0, .int .i64 0, .slice none 0 0]
               generalize ((W1.alloc (.cells #[.int .i64 0, .int .i64 0, .slice none 0 0] 24)).setRow W1.heap.size #[.int .i64 0, .int .i64 0, .slice none 0 0]) = X1 at *
               have gs2 := carry gs1 aX1
               have rs2 := carry rs1 aX1
               have ks2 := ks1.trans (aX1.mono ks1.size)
               obtain ⟨cgX10, cgX11, cgX12, _⟩ := cells3 gs2)
  refine (HRZ.out _ ks2).mono ?_
  rintro e W2 ⟨_, rfl, ⟨gz, cz, rz, tz, rfl, hgz, hcz, hmz, hhz⟩, b2⟩
  have gs3 := carry gs2 b2
  have rs3 := carry rs2 b2
  have os3 := carry mX1 b2
  have ks3 := ks2.trans (b2.mono ks2.size)
  clear cgX10 cgX11 cgX12
  have soz : SliceAt W2 (.slice (some ⟨gz, 0, none⟩) rez.length cz) rez := OwnG.slice (base := 0) ⟨gz, cz, rz, tz, rfl, by omega, hcz, hmz, hhz⟩
  clear hhz
  go_wp2_with (refine wpList_store_row rfl 24 (.tmp 11) _ rfl W2.heap.size #[.int .i64 (q : Int), .int .i64 (s : Int), .slice (some ⟨gz, 0, none⟩) rez.length cz] rfl rfl _ _ (heap_alloc_new W2 _) (by kernel_rfl) rfl (one3v _ _ _ _ _) ?_
               obtain ⟨mX2, aX2⟩ := var_new W2 24 #[.int .i64 0, .int .i64 0, .slice none 0 0] #[.int .i64 (q : Int), .int .i64 (s : Int), .slice (some ⟨gz, 0, none⟩) rez.length cz]
               generalize ((W2.alloc (.cells #[.int .i64 0, .int .i64 0, .slice none 0 0] 24)).setRow W2.heap.size #[.int .i64 (q : Int), .int .i64 (s : Int), .slice (some ⟨gz, 0, none⟩) rez.length cz]) = X2 at *
               have gs4 := carry gs3 aX2
               have rs4 := carry rs3 aX2
               have os4 := carry os3 aX2
               have sozs4 := soz.below aX2
               have ks4 := ks3.trans (aX2.mono ks3.size)
               obtain ⟨cgX20, cgX21, cgX22, _⟩ := cells3 gs4)
  refine (ref_to m p _ fs _ HER.out _ (HS.out _ ks4)).mono ?_
  rintro e W3 ⟨rfl, b3⟩
  have gs5 := carry gs4 b3
  have rs5 := carry rs4 b3
  have os5 := carry os4 b3
  have zs5 := carry mX2 b3
  have sozs5 := sozs4.below b3
  have ks5 := ks4.trans (b3.mono ks4.size)
  clear cgX20 cgX21 cgX22
  go_wp2_with fail
  refine (gridded_any _ (HT.out _ ks5)).mono ?_
  rintro e W4 ⟨rfl, b4⟩
  have gs6 := carry gs5 b4
  have rs6 := carry rs5 b4
  have os6 := carry os5 b4
  have zs6 := carry zs5 b4
  have sozs6 := sozs5.below b4
  have ks6 := ks5.trans (b4.mono ks5.size)
  obtain ⟨cgs60, cgs61, cgs62, _⟩ := cells3 gs6
  obtain ⟨crs60, crs61, crs62, crs63⟩ := cells4 rs6
  have hbad : rx < 0 ∨ ry < 0 ∨ rw < 1 ∨ rh < 1 ∨ (m : Int) - rx < rw ∨ (p : Int) - ry < rh := by
    unfold holdsI at hold; rw [decide_eq_false_iff_not] at hold; omega
  clear hold
  go_upto_region 6 with fail
  go_cut [108] from 57 to 108 (fun c wx => c = .bool true ∧ wx = W4)
  case first =>
    by_cases i0 : rx < 0
    · go_wp2_with fail
      go_meet
      case rel => exact ⟨rfl, rfl⟩
    have j0 : decide (rx < 0) = false := by rw [decide_eq_false_iff_not]; exact i0
    by_cases i1 : ry < 0
    · go_wp2_with fail
      go_meet
      case rel => exact ⟨rfl, rfl⟩
    have j1 : decide (ry < 0) = false := by rw [decide_eq_false_iff_not]; exact i1
    by_cases i2 : rw < 1
    · go_wp2_with fail
      go_meet
      case rel => exact ⟨rfl, rfl⟩
    have j2 : decide (rw < 1) = false := by rw [decide_eq_false_iff_not]; exact i2
    by_cases i3 : rh < 1
    · go_wp2_with fail
      go_meet
      case rel => exact ⟨rfl, rfl⟩
    have j3 : decide (rh < 1) = false := by rw [decide_eq_false_iff_not]; exact i3
    by_cases i4 : (m : Int) ≤ rx
    · go_wp2_with fail
      go_meet
      case rel => exact ⟨rfl, rfl⟩
    have j4 : decide ((m : Int) ≤ rx) = false := by rw [decide_eq_false_iff_not]; exact i4
    by_cases i5 : (p : Int) ≤ ry
    · go_wp2_with fail
      go_meet
      case rel => exact ⟨rfl, rfl⟩
    have j5 : decide ((p : Int) ≤ ry) = false := by rw [decide_eq_false_iff_not]; exact i5
    by_cases i6 : (m : Int) - rx < rw
    · go_wp2_with fail
      go_meet
      case rel => exact ⟨rfl, rfl⟩
    have j6 : decide ((m : Int) - rx < rw) = false := by rw [decide_eq_false_iff_not]; exact i6
    have i7 : (p : Int) - ry < rh := by omega
    have j7 : decide ((p : Int) - ry < rh) = true := by rw [decide_eq_true_eq]; exact i7
    go_wp2_with fail
    go_meet
    case rel => exact ⟨rfl, rfl⟩
  case rest =>
    obtain ⟨rfl, hwc⟩ := hcut
    rw [hwc]
    clear hwc
    obtain ⟨coy0, coy1, coy2, _⟩ := cells3 os6
    go_wp2_with fail
    refine (noGrid_none _).mono ?_
    rintro e W5 ⟨rfl, b5⟩
    have gs7 := carry gs6 b5
    have zs7 := carry zs6 b5
    have sozs7 := sozs6.below b5
    have ks7 := ks6.trans (b5.mono ks6.size)
    clear cgs60 cgs61 cgs62 crs60 crs61 crs62 crs63 coy0 coy1 coy2
    go_wp2_with fail
    refine (HSZ.out _).mono ?_
    rintro e W6 ⟨rfl, h6⟩
    have gs8 := carry gs7 (below_same h6)
    have zs8 := carry zs7 (below_same h6)
    have sozs8 := sozs7.below (below_same h6)
    have ks8 := ks7.trans ((below_same h6).mono ks7.size)
    obtain ⟨cgs80, cgs81, cgs82, _⟩ := cells3 gs8
    obtain ⟨czs80, czs81, czs82, _⟩ := cells3 zs8
    have HZZ : Hid (SliceAt W6 (.slice (some ⟨gz, 0, none⟩) rez.length cz) rez) := sozs8
    go_wp2_with fail
    have kd6 : Below W6.heap.size W6 W6.drew := (Below.refl _ _).drew
    have HKN6 : Hid (Below w.heap.size w W6) := ks8
    have HNX6 : Hid (∀ W W', Below W.heap.size W W' → (fun W => Below W6.heap.size W6 W ∧ (W.cell? ⟨w.heap.size, 0, none⟩ = some (.int .i64 (m : Int)) ∧ W.cell? ⟨w.heap.size, 1, none⟩ = some (.int .i64 (p : Int)) ∧ W.cell? ⟨w.heap.size, 2, none⟩ = some (.slice (some ⟨b, o, none⟩) fs.length cx)) ∧ (W.cell? ⟨W2.heap.size, 0, none⟩ = some (.int .i64 (q : Int)) ∧ W.cell? ⟨W2.heap.size, 1, none⟩ = some (.int .i64 (s : Int)) ∧ W.cell? ⟨W2.heap.size, 2, none⟩ = some (.slice (some ⟨gz, 0, none⟩) rez.length cz))) W → (fun W => Below W6.heap.size W6 W ∧ (W.cell? ⟨w.heap.size, 0, none⟩ = some (.int .i64 (m : Int)) ∧ W.cell? ⟨w.heap.size, 1, none⟩ = some (.int .i64 (p : Int)) ∧ W.cell? ⟨w.heap.size, 2, none⟩ = some (.slice (some ⟨b, o, none⟩) fs.length cx)) ∧ (W.cell? ⟨W2.heap.size, 0, none⟩ = some (.int .i64 (q : Int)) ∧ W.cell? ⟨W2.heap.size, 1, none⟩ = some (.int .i64 (s : Int)) ∧ W.cell? ⟨W2.heap.size, 2, none⟩ = some (.slice (some ⟨gz, 0, none⟩) rez.length cz))) W') := by
      rintro W W' hb ⟨k0, ⟨gq0, gq1, gq2⟩, ⟨zq0, zq1, zq2⟩⟩
      exact ⟨k0.trans (hb.mono k0.size), ⟨cell_keep hb gq0, cell_keep hb gq1, cell_keep hb gq2⟩, ⟨cell_keep hb zq0, cell_keep hb zq1, cell_keep hb zq2⟩⟩
    have HST06 : Hid ((fun W => Below W6.heap.size W6 W ∧ (W.cell? ⟨w.heap.size, 0, none⟩ = some (.int .i64 (m : Int)) ∧ W.cell? ⟨w.heap.size, 1, none⟩ = some (.int .i64 (p : Int)) ∧ W.cell? ⟨w.heap.size, 2, none⟩ = some (.slice (some ⟨b, o, none⟩) fs.length cx)) ∧ (W.cell? ⟨W2.heap.size, 0, none⟩ = some (.int .i64 (q : Int)) ∧ W.cell? ⟨W2.heap.size, 1, none⟩ = some (.int .i64 (s : Int)) ∧ W.cell? ⟨W2.heap.size, 2, none⟩ = some (.slice (some ⟨gz, 0, none⟩) rez.length cz))) W6.drew) := ⟨kd6, ⟨cgs80, cgs81, cgs82⟩, ⟨czs80, czs81, czs82⟩⟩
    go_region_held3 (fun W => Below W6.heap.size W6 W ∧ (W.cell? ⟨w.heap.size, 0, none⟩ = some (.int .i64 (m : Int)) ∧ W.cell? ⟨w.heap.size, 1, none⟩ = some (.int .i64 (p : Int)) ∧ W.cell? ⟨w.heap.size, 2, none⟩ = some (.slice (some ⟨b, o, none⟩) fs.length cx)) ∧ (W.cell? ⟨W2.heap.size, 0, none⟩ = some (.int .i64 (q : Int)) ∧ W.cell? ⟨W2.heap.size, 1, none⟩ = some (.int .i64 (s : Int)) ∧ W.cell? ⟨W2.heap.size, 2, none⟩ = some (.slice (some ⟨gz, 0, none⟩) rez.length cz)))
      (first
        | (exact HNX6.out _ _ b10 (by assumption))
        | (exact HNX6.out _ _ b9 (by assumption))
        | (exact HNX6.out _ _ b8 (by assumption))
        | (exact HST06.out))
      (first
        | (go_at_call 16; refine (HNG.out _).mono ?_; rintro e W8 ⟨v8, rfl, o8, b8⟩; have k8 := kd6.trans (b8.mono kd6.size))
        | (go_at_call 25; refine (HLG.out _ v8 (HKN6.out.trans (k8.mono HKN6.out.size)) o8.slice).mono ?_; rintro e W9 ⟨v9, rfl, o9, b9⟩; have k9 := k8.trans (b9.mono k8.size))
        | (go_at_call 15; refine (same_any q s _ v9 rez _ (HZZ.out.below k9) o9.slice HZL.out).mono ?_; rintro e W10 ⟨rfl, b10⟩; have k10 := k9.trans (b10.mono k9.size)))
    go_wp2_with fail
    go_ret
    exact ⟨rfl, HKN6.out.trans (k10.mono HKN6.out.size)⟩
end Grd
end Go.Proofs.YtinhmklpnkikgaaDoor
