/- The walk of grid.Fill: a right cell. -/
import Derived.Test.YtinhmklpnkikgabDoorGridFill2
namespace Go.Proofs.YtinhmklpnkikgabDoor
open Go.ChangeShapes Go.WideShapes Go.ChangeAt Go.RowKit
namespace Grd
open Txt (wd)
open Sty (isSt)
theorem info_cell4 : (Tryd.prog.info? 30).map (·.size) = some 4 := by kernel_rfl
theorem row_off (n k o : Nat) (hf : o = k * n) : 0 + k * n * 4 = o * 4 := by omega
set_option maxHeartbeats 8000000 in
theorem fill_good (n hh b o cx : Nat) (cs : List C) (rx ry rw rh r f bk x : Int) (w : World) (hT : Txt.Tab w) (hC : CellsAt w b o cs) (hok : gridErr n hh cs = 0) (hc : cs.length ≤ cx) (hm : cx ≤ 9223372036854775807) (hr : wd r = 1) (hs : isSt (f, bk, x) = true) :
    Calls Tryd.prog 8 #[.agg #[.int .i64 (n : Int), .int .i64 (hh : Int), .slice (some ⟨b, o, none⟩) cs.length cx], .agg #[.int .i64 rx, .int .i64 ry, .int .i64 rw, .int .i64 rh], .agg #[.int .i32 r, .int .i64 f, .int .i64 bk, .int .i64 x]] w fun e w' => ∃ v, e = .returned (.tuple #[.agg #[.int .i64 (n : Int), .int .i64 (hh : Int), v], .int .i64 0]) ∧ OwnG w' w.heap.size v (fillG n hh cs rx ry rw rh (r, f, bk, x)) ∧ Below w.heap.size w w' := by
  obtain ⟨hsize, hL, hrows⟩ := (gridErr_zero n hh cs).1 hok
  have ⟨p0, p1, p2, p3, p4, p5⟩ := prod_in n hh hsize
  have hne : cs ≠ [] := by
    intro h
    rw [h, List.length_nil] at hL
    have : 0 < n * hh := Nat.mul_pos (by omega) (by omega)
    omega
  have hl2 : cs.length ≤ 7200 := by
    have : ((n * hh : Nat) : Int) ≤ 7200 := by rw [Int.natCast_mul]; exact p1
    omega
  have hS : SliceAt w (.slice (some ⟨b, o, none⟩) cs.length cx) cs := .inr ⟨hne, b, o, cx, rfl, hc, hm, hC⟩
  obtain ⟨x0, x1, x2, x3, kk, hsz⟩ := alloc4 w (.cells #[.int .i64 (n : Int), .int .i64 (hh : Int), .slice (some ⟨b, o, none⟩) cs.length cx] 24) (.cells #[.int .i64 rx, .int .i64 ry, .int .i64 rw, .int .i64 rh] 26) (.cells #[.int .i32 r, .int .i64 f, .int .i64 bk, .int .i64 x] 30) (.cells #[.int .i64 0, .int .i64 0, .slice none 0 0] 24)
  have HK := check_ok n hh _ cs _ (Tab.next hT kk) (hS.below kk) hok
  have HT : Hid (∀ W, Below w.heap.size w W → Txt.Tab W) := fun W k => Tab.next hT k
  have HTP : Hid (0 < w.heap.size) := hT.pos
  have HC : Hid (CellsAt w b o cs) := hC
  have HL : Hid (cs.length = n * hh) := hL
  have HML : Hid (∀ k, k < hh → ∀ p, Alike (putRow (rowAt n cs k) p fun _ => (r, f, bk, x))) := fun k hk p => (meant_fill (rowAt n cs k) p (r, f, bk, x) (hrows k hk).1 hr hs).alike
  clear hT hS hok hC hne hrows hL p0 p1 hsize
  generalize hW0 : ((((w.alloc (.cells #[.int .i64 (n : Int), .int .i64 (hh : Int), .slice (some ⟨b, o, none⟩) cs.length cx] 24)).alloc (.cells #[.int .i64 rx, .int .i64 ry, .int .i64 rw, .int .i64 rh] 26)).alloc (.cells #[.int .i32 r, .int .i64 f, .int .i64 bk, .int .i64 x] 30)).alloc (.cells #[.int .i64 0, .int .i64 0, .slice none 0 0] 24)) = W0 at x0 x1 x2 x3 kk hsz HK
  have HW0 : Hid (_ = W0) := hW0
  have HK' : Hid (Calls Tryd.prog 7 #[.agg #[.int .i64 (n : Int), .int .i64 (hh : Int), .slice (some ⟨b, o, none⟩) cs.length cx]] W0 fun e w' => e = .returned (.int .i64 0) ∧ Below W0.heap.size W0 w') := HK
  have HR : Hid (wd r = 1) := hr
  have HS : Hid (isSt (f, bk, x) = true) := hs
  clear HK hW0 hr hs
  go_enter Tryd.func8, Tryd.ntmps8
  go_wp2_with (first
    | (go_at_call 7; rw [HW0.out]; refine HK'.out.mono ?_; rintro e W1 ⟨rfl, b1⟩; have k1 := kk.trans (b1.mono kk.size); have y3 := carry x3 b1; have y2 := carry x2 b1; have y1 := carry x1 b1; have y0 := carry x0 b1; have ⟨c0, c1, c2, c3⟩ := cells4 y2)
    | (go_at_call 20; refine (width_to r _ (HT.out _ k1) _ HR.out).mono ?_; rintro e W2 ⟨rfl, b2⟩; have k2 := k1.trans (b2.mono k1.size); have z3 := carry y3 b2; have z2 := carry y2 b2; have z1 := carry y1 b2; have z0 := carry y0 b2; have ⟨d0, d1, d2, d3⟩ := cells4 z2)
    | (go_at_call 21; refine (check_to f bk x _ HS.out _).mono ?_; rintro e W3 ⟨rfl, b3⟩; have k3 := k2.trans (b3.mono k2.size); have u3 := carry z3 b3; have u2 := carry z2 b3; have u1 := carry z1 b3; have u0 := carry z0 b3; have ⟨e0, e1, e2, _⟩ := cells3 u0)
    | (go_at_call 22; refine (copyOf_any n hh b o cx cs _ (HC.out.below k3) (by omega)).mono ?_; rintro e W4 ⟨v4, rfl, ⟨g, cap, rest, t, rfl, hgb, hlc, hcm, hgh⟩, b4⟩; have hW4 := heap_alloc_new W4 (.cells #[.int .i64 0, .int .i64 0, .slice none 0 0] 24))
    | (refine wpList_store_row rfl 24 (.tmp 9) _ rfl W4.heap.size #[.int .i64 (n : Int), .int .i64 (hh : Int), .slice (some ⟨g, 0, none⟩) cs.length cap] rfl rfl _ _ hW4 (by kernel_rfl) rfl (one3v _ _ _ _ _) ?_))
  have hsz1 := b1.size
  have hsz2 := b2.size
  have hsz3 := b3.size
  have hsz4 := b4.size
  have hg4 : g < W4.heap.size := blk_lt hgh
  have hX : ∀ k o', W4.heap[k]? = some o' → ((W4.alloc (.cells #[.int .i64 0, .int .i64 0, .slice none 0 0] 24)).setRow W4.heap.size #[.int .i64 (n : Int), .int .i64 (hh : Int), .slice (some ⟨g, 0, none⟩) cs.length cap]).heap[k]? = some o' := fun k o' hk => by
    have := blk_lt hk
    rw [setRow_other _ _ _ _ (by omega), Below.heap_alloc _ _ _ this, hk]
  have q0 := hX _ _ (carry u0 b4)
  have q1 := hX _ _ (carry u1 b4)
  have q2 := hX _ _ (carry u2 b4)
  have q3 := hX _ _ (carry u3 b4)
  have qg := hX _ _ hgh
  have qM := setRow_heap _ _ _ #[.int .i64 (n : Int), .int .i64 (hh : Int), .slice (some ⟨g, 0, none⟩) cs.length cap] _ _ hW4
  have k4 := k3.trans (b4.mono k3.size)
  have kX := below_setRow (k4.alloc k4.size (.cells #[.int .i64 0, .int .i64 0, .slice none 0 0] 24)) k4.size #[.int .i64 (n : Int), .int .i64 (hh : Int), .slice (some ⟨g, 0, none⟩) cs.length cap]
  generalize ((W4.alloc (.cells #[.int .i64 0, .int .i64 0, .slice none 0 0] 24)).setRow W4.heap.size #[.int .i64 (n : Int), .int .i64 (hh : Int), .slice (some ⟨g, 0, none⟩) cs.length cap]) = X at *
  generalize hM : W4.heap.size = M at *
  have hgN : w.heap.size + 4 ≤ g := by omega
  clear hX hW4 hgh u0 u1 u2 u3 e0 e1 e2 b4 b3 z0 z1 z2 z3 d0 d1 d2 d3 c0 c1 c2 c3 b2 y0 y1 y2 y3 b1 x0 x1 x2 x3 HW0 HK' k1 k2 k3 k4 kk hsz hsz1 hsz2 hsz3 hsz4 hM hgb
  have ⟨e0, e1, e2, _⟩ := cells3 q0
  have ⟨f0, f1, f2, f3⟩ := cells4 q1
  go_quiet (first
    | (go_at_call 24; exact Calls.quiet_of_same (near_same _ _))
    | (go_at_call 23; exact Calls.quiet_of_same (reach_same _ _ _ _)))
  go_wp2_with fail
  generalize hY : X.drewN nq = Y
  have hYh : Y.heap = X.heap := by rw [← hY]; rfl
  have kY : Below w.heap.size w Y := by rw [← hY]; exact kX.trans ⟨rfl, rfl, rfl, Nat.le_refl _, fun _ _ => rfl⟩
  rw [← hYh] at q0 q1 q2 q3 qg qM
  clear hYh hY kX e0 e1 e2 f0 f1 f2 f3
  have ⟨e0, e1, e2, _⟩ := cells3 q0
  have ⟨f0, f1, f2, f3⟩ := cells4 q1
  go_quiet (first
    | (go_at_call 24; exact Calls.quiet_of_same (near_same _ _))
    | (go_at_call 23; exact Calls.quiet_of_same (reach_same _ _ _ _)))
  have HFG : Hid (preF n cs (fillF n hh rx ry rw rh (r, f, bk, x)) hh = fillG n hh cs rx ry rw rh (r, f, bk, x)) := rfl
  have HFL : Hid (KeepLen n (fillF n hh rx ry rw rh (r, f, bk, x))) := fillF_len n hh rx ry rw rh _
  have HF0 : Hid (∀ y : Nat, ((y : Int) < max (nearI ry) 0 ∨ ¬ (y : Int) < min (nearI ry + nearI rh) hh) → ∀ row, fillF n hh rx ry rw rh (r, f, bk, x) y row = row) := fun y hy row => by
    unfold fillF inside
    rw [if_neg (by simp only [decide_eq_true_eq]; omega)]
  have HF1 : Hid (∀ y : Nat, max (nearI ry) 0 ≤ (y : Int) → (y : Int) < min (nearI ry + nearI rh) hh → ∀ row, fillF n hh rx ry rw rh (r, f, bk, x) y row = mendL (putRow row (inside rx rw n) fun _ => (r, f, bk, x))) := fun y h1 h2 row => by
    unfold fillF
    rw [if_pos (by unfold inside; simp only [decide_eq_true_eq]; omega)]
  have HP : Hid (∀ u : Nat, inside rx rw n u = decide (max (nearI rx) 0 ≤ (u : Int) ∧ (u : Int) < min (nearI rx + nearI rw) n)) := fun u => rfl
  have hRt : min (nearI rx + nearI rw) (n : Int) ≤ n := by omega
  have hBt : min (nearI ry + nearI rh) (hh : Int) ≤ hh := by omega
  generalize fillF n hh rx ry rw rh (r, f, bk, x) = F at HFG HFL HF0 HF1
  generalize inside rx rw n = ins at HF1 HP
  obtain ⟨T, hT⟩ := Int.eq_ofNat_of_zero_le (show 0 ≤ max (nearI ry) 0 by omega)
  obtain ⟨Lf, hLf⟩ := Int.eq_ofNat_of_zero_le (show 0 ≤ max (nearI rx) 0 by omega)
  rw [hT] at HF0 HF1
  rw [hLf] at HP
  simp only [hT, hLf]
  generalize min (nearI rx + nearI rw) (n : Int) = Rt at *
  generalize min (nearI ry + nearI rh) (hh : Int) = Bt at *
  clear hT hLf e0 e1 e2 f0 f1 f2 f3 q0 q1
  go_wp2_with fail
  go_loopg [14] hh (fun q y wr => ∃ k : Nat, y = .int .i64 (k : Int) ∧ T ≤ k ∧ hh - k ≤ q ∧ Apart g [g] Y wr ∧ wr.heap[g]? = some (.cells (flat (upto n hh cs F k) ++ rest).toArray t (0, 0)))
  case atStart =>
    refine ⟨T, rfl, Nat.le_refl _, by omega, ⟨(Below.refl _ _).trans ⟨rfl, rfl, rfl, Nat.le_refl _, fun _ _ => rfl⟩, fun _ _ _ => rfl⟩, ?_⟩
    rw [upto_start n hh cs F T (fun y hy => HF0.out y (.inl (by omega)) _)]
    exact qg
  case round =>
    obtain ⟨k, rfl, hk, hq, hap, hv⟩ := hrel
    have hY := hap.1
    have v2 := hap.carry q2 (by simp; omega)
    have v3 := hap.carry q3 (by simp; omega)
    have vM := hap.carry qM (by simp; omega)
    have kW : Below w.heap.size w wr := kY.trans (hY.mono (by omega))
    by_cases hlt : (k : Int) < Bt
    · have hkh : k < hh := by omega
      have hrl := row_len n hh cs k HL.out hkh
      have HRW : Hid (Calls Tryd.prog 18 #[.agg #[.int .i64 (n : Int), .int .i64 (hh : Int), .slice (some ⟨g, 0, none⟩) cs.length cap], .int .i64 (k : Int)] wr fun e w' => e = .returned (.slice (some ⟨g, 0 + k * n * 4, none⟩) n (cap - k * n)) ∧ Below wr.heap.size wr w') := rowOf_any g 0 cs.length cap n k hh wr (by omega) (row_fits n hh _ k HL.out hkh) hlc hcm
      have HE : Hid (flat (upto n hh cs F k) ++ rest = flat (preF n cs F k) ++ (flat (rowAt n cs k) ++ (flat (cs.drop ((k + 1) * n)) ++ rest))) := by
        unfold Hid
        rw [upto_at n hh cs F k hkh, flat_three]
      have HN : Hid (flat (upto n hh cs F (k + 1)) ++ rest = flat (preF n cs F k) ++ (flat (F k (rowAt n cs k)) ++ (flat (cs.drop ((k + 1) * n)) ++ rest))) := by
        unfold Hid
        rw [upto_next n hh cs F k hkh, flat_three]
      have HFk : Hid (F k (rowAt n cs k) = mendL (putRow (rowAt n cs k) ins fun _ => (r, f, bk, x))) := HF1.out k (by omega) hlt _
      have hpl : (flat (preF n cs F k)).length = 0 + k * n * 4 := by rw [flat_len, preF_len n hh cs F HL.out HFL.out k (by omega)]; omega
      have HPL : Hid ((flat (preF n cs F k)).length = 0 + k * n * 4) := hpl
      rw [HE.out] at hv
      clear hpl HE
      generalize flat (preF n cs F k) = pre at *
      generalize flat (cs.drop ((k + 1) * n)) ++ rest = post at *
      have HRL : Hid ((rowAt n cs k).length = n) := hrl
      have HMR : Hid (∀ p, Alike (putRow (rowAt n cs k) p fun _ => (r, f, bk, x))) := HML.out k hkh
      clear hrl
      generalize hrow : rowAt n cs k = row at HN HFk HRL hv HMR
      clear hrow
      generalize hoff : 0 + k * n * 4 = off at *
      have ⟨vM0, vM1, vM2, _⟩ := cells3 vM
      go_wp2_with (go_at_call 18; refine HRW.out.mono ?_; rintro e W5 ⟨rfl, b5⟩)
      have hap5 : Apart g [g] Y W5 := hap.step b5 (by have := blk_lt hv; omega)
      have hv5 := carry hv b5
      clear hap hv v2 v3 vM vM0 vM1 vM2 kW b5 HRW hY
      go_loopg [16] n (fun q xx wr => ∃ j : Nat, xx = .int .i64 (j : Int) ∧ Lf ≤ j ∧ n - j ≤ q ∧ Apart g [g] Y wr ∧ wr.heap[g]? = some (.cells (pre ++ (flat (putRow row (fun u => ins u && decide (u < j)) fun _ => (r, f, bk, x)) ++ post)).toArray t (0, 0)))
      case atStart =>
        refine ⟨Lf, rfl, Nat.le_refl _, by omega, hap5, ?_⟩
        rw [putRow_none]
        · exact hv5
        · intro u _
          rw [HP.out u]
          simp
          omega
      case round =>
        clear hap5 hv5
        obtain ⟨j, rfl, hj, hq2, hap, hv⟩ := hrel
        have v2 := hap.carry q2 (by simp; omega)
        by_cases hlt2 : (j : Int) < Rt
        · have hjn : j < n := by omega
          have hth := there_cell hv j (by rw [putRow_len, HRL.out]; exact hjn)
          have hst := store_cell hv j (by rw [putRow_len, HRL.out]; exact hjn) (r, f, bk, x)
          rw [putRow_set row _ (fun u => ins u && decide (u < j + 1)) (fun _ => (r, f, bk, x)) j (by rw [HRL.out]; exact hjn) (fun u _ => by
            rw [HP.out u]
            by_cases huj : u = j
            · subst huj; simp; omega
            · simp only [huj, decide_false, Bool.or_false]
              rw [show decide (u < j + 1) = decide (u < j) by rw [decide_eq_decide]; omega])] at hst
          rw [HPL.out] at hth hst
          have HST : Hid ((wr.setCells g (off + j * 4) (words (r, f, bk, x))).heap[g]? = some (.cells (pre ++ (flat (putRow row (fun u => ins u && decide (u < j + 1)) fun _ => (r, f, bk, x)) ++ post)).toArray t (0, 0))) := hst
          have HTH : Hid (wr.there g (off + j * 4) 4) := hth
          have HAP : Hid (Apart g [g] Y (wr.setCells g (off + j * 4) (words (r, f, bk, x)))) := hap.setCells g _ _ (by simp) (Nat.le_refl _)
          clear hst hth hap hv
          go_wp2_with (first
            | (refine wpList_load_row rfl 30 _ rfl (w.heap.size + 2) rfl _ _ _ _ v2 Tryd.underlying30 rfl (by kernel_rfl) ?_)
            | (refine wpList_store_mid rfl 30 (.tmp 78) (.tmp 77) rfl g (off + j * 4) #[.int .i32 r, .int .i64 f, .int .i64 bk, .int .i64 x] rfl rfl HTH.out info_cell4 (words_one (r, f, bk, x)) ?_))
          go_roundg (n - (j + 1))
          case measure => omega
          case rel => exact ⟨j + 1, rfl, by omega, by omega, HAP.out, HST.out⟩
        · have HEQ : Hid (putRow row (fun u => ins u && decide (u < j)) (fun _ => (r, f, bk, x)) = putRow row ins fun _ => (r, f, bk, x)) := putRow_congr _ _ _ _ _ (fun u _ => ⟨by rw [HP.out u, Bool.eq_iff_iff]; simp; omega, fun _ => rfl⟩)
          rw [HEQ.out] at hv
          have KM := mend_any g (cap - k * n) (putRow row ins fun _ => (r, f, bk, x)) pre post t wr hv (by rw [putRow_len, HRL.out]; omega) (HT.out _ (kY.trans (hap.1.mono (by omega)))) (by have := HTP.out; omega) (HMR.out ins)
          rw [putRow_len, HRL.out, HPL.out, ← HFk.out, ← HN.out] at KM
          have HKM : Hid (Calls Tryd.prog 25 #[.slice (some ⟨g, off, none⟩) n (cap - k * n)] wr fun e w' => e = .returned (.tuple #[]) ∧ w'.heap[g]? = some (.cells (flat (upto n hh cs F (k + 1)) ++ rest).toArray t (0, 0)) ∧ Apart g [g] wr w') := KM
          have HAP : Hid (Apart g [g] Y wr) := hap
          clear KM HEQ v2 hv hap
          go_wp2_with (go_at_call 25; refine HKM.out.mono ?_; rintro e W6 ⟨rfl, hv6, ap6⟩)
          go_roundg (hh - (k + 1))
          case measure => omega
          case rel => exact ⟨k + 1, rfl, by omega, by omega, HAP.out.trans ap6, hv6⟩
    · have HEN : Hid (upto n hh cs F k = preF n cs F hh) := upto_end n hh cs F HL.out k (fun y hy => HF0.out y (.inr (by omega)) _)
      have HEL : Hid ((upto n hh cs F k).length = cs.length) := upto_len n hh cs F HL.out HFL.out k
      go_wp2_with (first
        | (refine wpList_load_row rfl 24 _ rfl M rfl _ _ _ _ vM Tryd.underlying24 rfl (by kernel_rfl) ?_)
        | (refine wpList_store_row rfl 24 (.tmp 6) _ rfl (w.heap.size + 3) #[.int .i64 (n : Int), .int .i64 (hh : Int), .slice (some ⟨g, 0, none⟩) cs.length cap] rfl rfl _ _ v3 (by kernel_rfl) rfl (one3v _ _ _ _ _) ?_))
      (try simp only [Exit.inBlock, Exit.then])
      refine bodyPost_ret (v := .tuple #[.agg #[.int .i64 (n : Int), .int .i64 (hh : Int), .slice (some ⟨g, 0, none⟩) cs.length cap], .int .i64 0]) ?_ rfl ⟨_, rfl, ?_, below_setRow kW (by omega) _⟩
      · exact results_row_tmp rfl _ _ (w.heap.size + 3) _ _ _ _ rfl (setRow_heap _ _ _ _ _ _ v3) Tryd.underlying24 rfl (by kernel_rfl) _ rfl
      · rw [← HFG.out, ← HEN.out]
        refine ⟨g, cap, rest, t, by rw [HEL.out], by omega, by rw [HEL.out]; exact hlc, hcm, ?_⟩
        rw [setRow_other _ _ _ _ (by omega)]
        exact hv
end Grd
end Go.Proofs.YtinhmklpnkikgabDoor
