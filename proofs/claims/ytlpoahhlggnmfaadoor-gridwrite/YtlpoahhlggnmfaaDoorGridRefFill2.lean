/- The walk of the reference's FillGrid. -/
import Derived.Test.YtlpoahhlggnmfaaDoorGridRefFill
namespace Go.Proofs.YtlpoahhlggnmfaaDoor
open Go.ChangeShapes Go.WideShapes Go.ChangeAt Go.RowKit Go.Maps
namespace Grd
theorem wrap_id (x : Int) (h0 : -9223372036854775808 ≤ x) (h1 : x ≤ 9223372036854775807) : IntKind.i64.wrap x = x := IntWalk.i64_in x ⟨h0, h1⟩
set_option maxHeartbeats 8000000 in
set_option maxRecDepth 100000 in
theorem fillGrid_any (n hh b o cx : Nat) (cs : List C) (rx ry rw rh r f bk x : Int) (w : World) (hC : CellsAt w b o cs) (hs : isSize n hh = true) (hL : cs.length = n * hh) (hc : cs.length ≤ cx) :
    Calls Tryd.prog 21 #[.agg #[.int .i64 (n : Int), .int .i64 (hh : Int), .slice (some ⟨b, o, none⟩) cs.length cx], .agg #[.int .i64 rx, .int .i64 ry, .int .i64 rw, .int .i64 rh], .agg #[.int .i32 r, .int .i64 f, .int .i64 bk, .int .i64 x]] w fun e w' => ∃ v, e = .returned (.agg #[.int .i64 (n : Int), .int .i64 (hh : Int), v]) ∧ OwnG w' w.heap.size v (fillG n hh cs rx ry rw rh (r, f, bk, x)) ∧ Below w.heap.size w w' := by
  have ⟨p0, p1, p2, p3, p4, p5⟩ := prod_in n hh hs
  obtain ⟨x0, x1, x2, x3, kk, hsz⟩ := alloc4 w (.cells #[.int .i64 (n : Int), .int .i64 (hh : Int), .slice (some ⟨b, o, none⟩) cs.length cx] 24) (.cells #[.int .i64 rx, .int .i64 ry, .int .i64 rw, .int .i64 rh] 36) (.cells #[.int .i32 r, .int .i64 f, .int .i64 bk, .int .i64 x] 40) (.cells #[.int .i64 0, .int .i64 0, .slice none 0 0] 24)
  have HK := rows_any n hh b o cx cs _ (hC.below kk) hs hL hc
  have HL : Hid (cs.length = n * hh) := hL
  clear hC hs hL p0 p1
  generalize hW0 : ((((w.alloc (.cells #[.int .i64 (n : Int), .int .i64 (hh : Int), .slice (some ⟨b, o, none⟩) cs.length cx] 24)).alloc (.cells #[.int .i64 rx, .int .i64 ry, .int .i64 rw, .int .i64 rh] 36)).alloc (.cells #[.int .i32 r, .int .i64 f, .int .i64 bk, .int .i64 x] 40)).alloc (.cells #[.int .i64 0, .int .i64 0, .slice none 0 0] 24)) = W0 at x0 x1 x2 x3 kk hsz HK
  have HW0 : Hid (_ = W0) := hW0
  have HK' : Hid (Calls Tryd.prog 28 #[.agg #[.int .i64 (n : Int), .int .i64 (hh : Int), .slice (some ⟨b, o, none⟩) cs.length cx]] W0 fun e w' => ∃ v vs gs, e = .returned v ∧ w'.ownsRow W0.heap.size 22 1 v hh vs ∧ RowsAt w' W0.heap.size vs gs (rowsL n cs hh) ∧ Below W0.heap.size W0 w') := HK
  have HXL : Hid (∀ p : Int, nearI p ≤ 1000 ∧ -1000 ≤ nearI p) := fun p => ⟨(near_in p).2, (near_in p).1⟩
  clear HK hW0
  go_enter Tryd.func21, Tryd.ntmps21
  go_wp2_with (go_at_call 28; rw [HW0.out]; refine HK'.out.mono ?_; rintro e W1 ⟨v1, vs1, gs1, rfl, ho1, hr1, b1⟩)
  have hvl1 : vs1.length = hh := by rw [hr1.1, rowsL_len]
  rw [← hvl1] at ho1
  obtain ⟨G, cap, rest, rfl, hGb, hlc, hcm, hGh⟩ := out_of_own ho1 (by omega)
  rw [hvl1] at hlc
  have e1v : vs1.length = hh := hvl1
  simp only [e1v]
  clear e1v ho1
  have y1 := carry x1 b1
  have ⟨f0, f1, f2, f3⟩ := cells4 y1
  go_quiet (first
    | (go_at_call 46; exact Calls.quiet_of_same (limit_same _ _)))
  go_wp2_with fail
  generalize hY : W1.drewN nq = Y
  have hYh : Y.heap = W1.heap := by rw [← hY]; rfl
  have kY : Below W0.heap.size W0 Y := by rw [← hY]; exact b1.trans ⟨rfl, rfl, rfl, Nat.le_refl _, fun _ _ => rfl⟩
  have hR0 : RowsAt Y W0.heap.size vs1 gs1 (rowsL n cs hh) := by rw [← hY]; exact hr1.below ⟨rfl, rfl, rfl, Nat.le_refl _, fun _ _ => rfl⟩
  rw [← hYh] at hGh y1
  clear hYh hY b1 hr1 f0 f1 f2 f3 HK' HW0
  have ⟨f0, f1, f2, f3⟩ := cells4 y1
  have m1 := max2 0 (nearI rw)
  have m2 := max2 0 (nearI rh)
  have ⟨l1, l2⟩ := HXL.out rx
  have ⟨l3, l4⟩ := HXL.out ry
  have ⟨l5, l6⟩ := HXL.out rw
  have ⟨l7, l8⟩ := HXL.out rh
  have a1 : IntKind.i64.wrap (nearI rx + max 0 (nearI rw)) = nearI rx + max 0 (nearI rw) := wrap_id _ (by omega) (by omega)
  have a2 : IntKind.i64.wrap (nearI ry + max 0 (nearI rh)) = nearI ry + max 0 (nearI rh) := wrap_id _ (by omega) (by omega)
  go_quiet (first
    | (go_at_call 46; exact Calls.quiet_of_same (limit_same _ _)))
  clear a1 a2 m1 m2
  have HFG : Hid (preF n cs (fillF n hh rx ry rw rh (r, f, bk, x)) hh = fillG n hh cs rx ry rw rh (r, f, bk, x)) := rfl
  have HFL : Hid (KeepLen n (fillF n hh rx ry rw rh (r, f, bk, x))) := fillF_len n hh rx ry rw rh _
  have HF1 : Hid (∀ y : Nat, y < hh → nearI ry ≤ (y : Int) → (y : Int) < nearI ry + max 0 (nearI rh) → ∀ row, fillF n hh rx ry rw rh (r, f, bk, x) y row = mendL (putRow row (inside rx rw n) fun _ => (r, f, bk, x))) := fun y hy h1 h2 row => by
    unfold fillF
    rw [inside_iff ry rh hh y hy, if_pos (by simp only [decide_eq_true_eq]; omega)]
  have HF0 : Hid (∀ y : Nat, y < hh → ¬ (nearI ry ≤ (y : Int) ∧ (y : Int) < nearI ry + max 0 (nearI rh)) → ∀ row, fillF n hh rx ry rw rh (r, f, bk, x) y row = row) := fun y hy h1 row => by
    unfold fillF
    rw [inside_iff ry rh hh y hy, if_neg (by simp only [decide_eq_true_eq]; exact h1)]
  have HP : Hid (∀ u : Nat, u < n → inside rx rw n u = decide (nearI rx ≤ (u : Int) ∧ (u : Int) < nearI rx + max 0 (nearI rw))) := fun u hu => inside_iff rx rw n u hu
  have b5 : nearI rx + max 0 (nearI rw) ≤ 3000 := by omega
  have b6 : nearI ry + max 0 (nearI rh) ≤ 3000 := by omega
  generalize fillF n hh rx ry rw rh (r, f, bk, x) = F at HFG HFL HF0 HF1
  generalize inside rx rw n = ins at HF1 HP
  generalize nearI rx + max 0 (nearI rw) = X1 at *
  generalize nearI ry + max 0 (nearI rh) = Y1 at *
  generalize nearI rx = X0 at *
  generalize nearI ry = Y0 at *
  rw [← rowsF_zero n hh cs F] at hR0
  rw [hsz] at hR0 hGb
  have HR0 : Hid (RowsAt Y (w.heap.size + 4) vs1 gs1 (rowsF n hh cs F 0)) := hR0
  clear f0 f1 f2 f3 hR0 y1 HXL l1 l2 l3 l4 l5 l6 l7 l8
  have y2 := carry x2 kY
  have y3 := carry x3 kY
  have kN : Below w.heap.size w Y := kk.trans (kY.mono kk.size)
  clear x0 x1 x2 x3 kk kY
  go_wp2_with fail
  go_loopg [36] hh (fun q i wr => ∃ (k : Nat) (vs : List Value) (gs : List Nat), i = .int .i64 (k : Int) ∧ k ≤ hh ∧ hh - k ≤ q ∧ Below (w.heap.size + 4) Y wr ∧ wr.heap[G]? = some (.cells (vs ++ rest).toArray 22 (0, 0)) ∧ RowsAt wr (w.heap.size + 4) vs gs (rowsF n hh cs F k))
  case atStart => exact ⟨0, vs1, gs1, rfl, by omega, by omega, ⟨rfl, rfl, rfl, Nat.le_refl _, fun _ _ => rfl⟩, hGh, HR0.out.below ⟨rfl, rfl, rfl, Nat.le_refl _, fun _ _ => rfl⟩⟩
  case round =>
    clear hGh HR0
    obtain ⟨k, vs, gs, rfl, hk, hq, hb, hG, hR⟩ := hrel
    have HR : Hid (RowsAt wr (w.heap.size + 4) vs gs (rowsF n hh cs F k)) := hR
    have v2 : wr.heap[w.heap.size + 2]? = _ := (hb.block _ (by omega)).trans y2
    have v3 : wr.heap[w.heap.size + 3]? = _ := (hb.block _ (by omega)).trans y3
    have hvl : vs.length = hh := by rw [hR.1, rowsF_len]
    by_cases hlt : k < hh
    · have lt1 : ((k : Int) < (hh : Int)) := by omega
      have hrow := (hR.2.2.2 k (by rw [rowsF_len]; exact hlt))
      rw [rowsF_at n hh cs F k k hlt, if_neg (by omega)] at hrow
      obtain ⟨hgb, capk, restk, hvk, hlk, hck, hgk⟩ := hrow
      have hrl := row_len n hh cs k HL.out hlt
      rw [hrl] at hvk hlk
      have hcell := out_cell hG k (by omega)
      rw [hvk] at hcell
      generalize hgk0 : gs.getD k 0 = gk0 at *
      have HGK : Hid (gs.getD k 0 = gk0) := hgk0
      have HVK : Hid (vs.getD k nilV = .slice (some ⟨gk0, 0, none⟩) n capk) := hvk
      have HRL : Hid ((rowAt n cs k).length = n) := hrl
      have HGG : Hid (G ≠ gk0) := by
        intro e
        rw [e] at hG
        rw [hgk] at hG
        simp at hG
      clear hgk0 hR hvk hrl
      by_cases hy : Y0 ≤ (k : Int) ∧ (k : Int) < Y1
      · obtain ⟨hy0, hy1⟩ := hy
        have HFk : Hid (rowsF n hh cs F (k + 1) = (rowsF n hh cs F k).set k (mendL (putRow (rowAt n cs k) ins fun _ => (r, f, bk, x)))) := by
          unfold Hid
          rw [rowsF_set n hh cs F k hlt, HF1.out k hlt hy0 hy1]
        generalize rowAt n cs k = row at *
        go_wp2_with fail
        generalize hV : wr = V at *
        go_loopg [44] n (fun q xx wv => ∃ j : Nat, xx = .int .i64 (j : Int) ∧ j ≤ n ∧ n - j ≤ q ∧ Apart (w.heap.size + 4) [gk0] V wv ∧ wv.heap[gk0]? = some (.cells (flat (putRow row (fun u => ins u && decide (u < j)) fun _ => (r, f, bk, x)) ++ restk).toArray 40 (0, 0)))
        case atStart =>
          refine ⟨0, rfl, by omega, by omega, Apart.refl _ _ _, ?_⟩
          rw [putRow_none _ _ _ (fun u _ => by simp)]
          exact hgk
        case round =>
          obtain ⟨j, rfl, hj, hq2, hap, hgj⟩ := hrel
          have w2 := hap.carry v2 (by simp; omega)
          have wG := hap.carry hG (by simpa using HGG.out)
          have hcj := out_cell wG k (by omega)
          rw [HVK.out] at hcj
          have ⟨t0, t1, t2, t3⟩ := cells4 w2
          by_cases hjn : j < n
          · have lt2 : ((j : Int) < (n : Int)) := by omega
            by_cases hin : X0 ≤ (j : Int) ∧ (j : Int) < X1
            · obtain ⟨hx0, hx1⟩ := hin
              have HNX : Hid ((putRow row (fun u => ins u && decide (u < j)) fun _ => (r, f, bk, x)).set j (r, f, bk, x) = putRow row (fun u => ins u && decide (u < j + 1)) fun _ => (r, f, bk, x)) := putRow_set row _ _ (fun _ => (r, f, bk, x)) j (by rw [HRL.out]; exact hjn) (fun u hu => by
                by_cases huj : u = j
                · subst huj
                  rw [HP.out u hjn]
                  simp; omega
                · simp only [huj, decide_false, Bool.or_false]
                  rw [show decide (u < j + 1) = decide (u < j) by rw [decide_eq_decide]; omega])
              have hjl : j < (putRow row (fun u => ins u && decide (u < j)) fun _ => (r, f, bk, x)).length := by rw [putRow_len, HRL.out]; exact hjn
              have hth := there_cell (w := wr.drew) (pre := []) (by rw [List.nil_append]; exact hgj) j hjl
              have hsv := store_cell (w := wr.drew) (pre := []) (by rw [List.nil_append]; exact hgj) j hjl (r, f, bk, x)
              rw [List.length_nil, Nat.zero_add] at hth hsv
              rw [List.nil_append, HNX.out] at hsv
              have haz := hap.drew.setCells gk0 (j * 4) (words (r, f, bk, x)) (by simp) (by omega)
              have HSV : Hid ((wr.drew.setCells gk0 (j * 4) (words (r, f, bk, x))).heap[gk0]? = some (.cells (flat (putRow row (fun u => ins u && decide (u < j + 1)) fun _ => (r, f, bk, x)) ++ restk).toArray 40 (0, 0))) := hsv
              have HAZ : Hid (Apart (w.heap.size + 4) [gk0] V (wr.drew.setCells gk0 (j * 4) (words (r, f, bk, x)))) := haz
              have ⟨o0, o1, o2, o3⟩ := (cellsAt_flat hgj) j hjl
              rw [Nat.zero_add] at o0 o1 o2 o3
              have z0 : wr.cell? ⟨w.heap.size + 1 + 1, 0, none⟩ = _ := t0
              have z1 : wr.cell? ⟨w.heap.size + 1 + 1, 1, none⟩ = _ := t1
              have z2 : wr.cell? ⟨w.heap.size + 1 + 1, 2, none⟩ = _ := t2
              have z3 : wr.cell? ⟨w.heap.size + 1 + 1, 3, none⟩ = _ := t3
              have q0 : wr.frozen? ⟨gk0, j * 4, none⟩ = false := frozen_of hgj _
              have q1 : wr.frozen? ⟨gk0, j * 4 + 1, none⟩ = false := frozen_of hgj _
              have q2 : wr.frozen? ⟨gk0, j * 4 + 2, none⟩ = false := frozen_of hgj _
              have q3 : wr.frozen? ⟨gk0, j * 4 + 3, none⟩ = false := frozen_of hgj _
              generalize (putRow row (fun u => ins u && decide (u < j)) fun _ => (r, f, bk, x)).getD j Grd.z0 = oc at o0 o1 o2 o3
              clear hth hsv haz hjl HNX hgj t0 t1 t2 t3
              go_wp2_with fail
              go_region
              go_wp2_with fail
              go_roundg (n - (j + 1))
              case measure => omega
              case rel => exact ⟨j + 1, rfl, by omega, by omega, HAZ.out, HSV.out⟩
            · have HNX : Hid ((putRow row (fun u => ins u && decide (u < j)) fun _ => (r, f, bk, x)) = putRow row (fun u => ins u && decide (u < j + 1)) fun _ => (r, f, bk, x)) := putRow_congr _ _ _ _ _ (fun u hu => ⟨by
                by_cases huj : u = j
                · subst huj
                  rw [HP.out u hjn]
                  simp
                  exact fun h1 => Int.not_lt.1 fun h2 => hin ⟨h1, h2⟩
                · rw [show decide (u < j + 1) = decide (u < j) by rw [decide_eq_decide]; omega], fun _ => rfl⟩)
              have hxx : (decide (X0 ≤ (j : Int)) = false) ∨ (X0 ≤ (j : Int) ∧ decide ((j : Int) < X1) = false) := by
                by_cases h0 : X0 ≤ (j : Int)
                · right; exact ⟨h0, by rw [decide_eq_false_iff_not]; exact fun h => hin ⟨h0, h⟩⟩
                · left; rw [decide_eq_false_iff_not]; exact h0
              rw [HNX.out] at hgj
              clear hin HNX
              rcases hxx with g0 | ⟨g0, g1⟩
              · go_wp2_with fail
                go_roundg (n - (j + 1))
                case measure => omega
                case rel => exact ⟨j + 1, rfl, by omega, by omega, hap, hgj⟩
              · go_wp2_with fail
                go_roundg (n - (j + 1))
                case measure => omega
                case rel => exact ⟨j + 1, rfl, by omega, by omega, hap, hgj⟩
          · have lt2 : ¬ ((j : Int) < (n : Int)) := by omega
            have HPE : Hid ((putRow row (fun u => ins u && decide (u < j)) fun _ => (r, f, bk, x)) = putRow row ins fun _ => (r, f, bk, x)) := putRow_congr _ _ _ _ _ (fun u hu => ⟨by rw [HRL.out] at hu; simp; omega, fun _ => rfl⟩)
            rw [HPE.out] at hgj
            have KM := mendRow_any gk0 0 capk (putRow row ins fun _ => (r, f, bk, x)) wr (cellsAt_flat hgj) (by rw [putRow_len, HRL.out]; omega)
            rw [putRow_len, HRL.out] at KM
            have HKM : Hid (Calls Tryd.prog 29 #[.slice (some ⟨gk0, 0, none⟩) n capk] wr fun e w' => ∃ v' g, e = .returned v' ∧ wr.heap.size ≤ g ∧ RowB w' g v' (mendL (putRow row ins fun _ => (r, f, bk, x))) ∧ Below wr.heap.size wr w') := KM
            clear KM HPE
            have hkv : k < vs.length := by omega
            go_wp2_with (go_at_call 29; refine HKM.out.mono ?_; rintro e W6 ⟨v6, g6, rfl, hg6, hr6, b6⟩
                         have wG6 := carry wG b6
                         have hce : W6.cell? ⟨G, k, none⟩ = some (vs.getD k nilV) := out_cell wG6 k hkv
                         have hfz : W6.frozen? ⟨G, k, none⟩ = false := frozen_of wG6 _
                         have HR6 : Hid (RowB W6 g6 v6 (mendL (putRow row ins fun _ => (r, f, bk, x)))) := hr6
                         obtain ⟨cap6, _, rfl, _⟩ := hr6)
            have hGl : G < V.heap.size := blk_lt hG
            have hsV := hap.1.size
            have hs6 := b6.size
            go_roundg (hh - (k + 1))
            case measure => omega
            case rel =>
              refine ⟨k + 1, vs.set k (.slice (some ⟨g6, 0, none⟩) (mendL (putRow row ins fun _ => (r, f, bk, x))).length cap6), gs.set k g6, rfl, by omega, by omega, ?_, ?_, ?_⟩
              · exact ((hb.trans hap.1).trans (b6.mono (by have := hb.size; omega))).setCell (by dsimp only; omega) _
              · have := heap_setCell_same W6 G k _ _ (.slice (some ⟨g6, 0, none⟩) (mendL (putRow row ins fun _ => (r, f, bk, x))).length cap6) wG6
                rw [this]
                simp [List.set_append_left _ _ hkv]
              · rw [HFk.out]
                refine HR.out.set k (by rw [rowsF_len]; exact hlt) g6 _ _ (by omega) ?_ (fun i hi hik => ?_) (fun i hi hik => ?_)
                · obtain ⟨cp, rs, e1, e2, e3, e4⟩ := HR6.out
                  exact ⟨cp, rs, e1, e2, e3, by rw [heap_setCell_other _ _ _ _ (by dsimp only; omega)]; exact e4⟩
                · have := HR.out.lt i hi
                  omega
                · have h1 := HR.out.lt i hi
                  have h2 := HR.out.ne i k hi (by rw [rowsF_len]; exact hlt) hik
                  rw [HGK.out] at h2
                  have h3 : gs.getD i 0 ≠ G := by
                    intro e
                    obtain ⟨_, _, _, _, _, _, h5⟩ := HR.out.2.2.2 i hi
                    rw [e, hG] at h5
                    simp at h5
                  rw [heap_setCell_other _ _ _ _ (by dsimp only; exact h3), b6.block _ (by omega), hap.2 _ (by simpa using h2) h1]
      · have HFk : Hid (rowsF n hh cs F (k + 1) = rowsF n hh cs F k) := rowsF_same n hh cs F k hlt (HF0.out k hlt hy _)
        have hyy : (decide (Y0 ≤ (k : Int)) = false) ∨ (Y0 ≤ (k : Int) ∧ decide ((k : Int) < Y1) = false) := by
          by_cases h0 : Y0 ≤ (k : Int)
          · right; exact ⟨h0, by rw [decide_eq_false_iff_not]; exact fun h => hy ⟨h0, h⟩⟩
          · left; rw [decide_eq_false_iff_not]; exact h0
        clear hy
        go_wp2_with fail
        have hwr : wr = wr := rfl
        generalize hV : wr = V at *
        go_loopg [44] n (fun q xx wv => ∃ j : Nat, xx = .int .i64 (j : Int) ∧ j ≤ n ∧ n - j ≤ q ∧ wv = V)
        case atStart => exact ⟨0, rfl, by omega, by omega, rfl⟩
        case round =>
          obtain ⟨j, rfl, hj, hq2, rfl⟩ := hrel
          by_cases hjn : j < n
          · have lt2 : ((j : Int) < (n : Int)) := by omega
            rcases hyy with g0 | ⟨g0, g1⟩
            · go_wp2_with fail
              go_roundg (n - (j + 1))
              case measure => omega
              case rel => exact ⟨j + 1, rfl, by omega, by omega, rfl⟩
            · go_wp2_with fail
              go_roundg (n - (j + 1))
              case measure => omega
              case rel => exact ⟨j + 1, rfl, by omega, by omega, rfl⟩
          · have lt2 : ¬ ((j : Int) < (n : Int)) := by omega
            rcases hyy with g0 | ⟨g0, g1⟩
            · go_wp2_with fail
              go_roundg (hh - (k + 1))
              case measure => omega
              case rel => exact ⟨k + 1, vs, gs, rfl, by omega, by omega, hb, hG, by rw [HFk.out]; exact HR.out⟩
            · go_wp2_with fail
              go_roundg (hh - (k + 1))
              case measure => omega
              case rel => exact ⟨k + 1, vs, gs, rfl, by omega, by omega, hb, hG, by rw [HFk.out]; exact HR.out⟩
    · have lt1 : ¬ ((k : Int) < (hh : Int)) := by omega
      have hkh : k = hh := by omega
      subst hkh
      have KG := gridOf_any n k G cap (w.heap.size + 4) vs rest gs (rowsF n k cs F k) wr (by omega) (by omega) (by omega) (by omega) hG HR.out (rowsF_len _ _ _ _ _) (fun i hi => by
        rw [rowsF_len] at hi
        rw [rowsF_at n k cs F k i hi, if_pos hi]
        exact HFL.out i _ (row_len n k cs i HL.out hi))
      rw [rowsF_flat, HFG.out] at KG
      have HKG : Hid (Calls Tryd.prog 30 #[.slice (some ⟨G, 0, none⟩) k cap] wr fun e w' => ∃ v, e = .returned (.agg #[.int .i64 (n : Int), .int .i64 (k : Int), v]) ∧ OwnG w' wr.heap.size v (fillG n k cs rx ry rw rh (r, f, bk, x)) ∧ Below wr.heap.size wr w') := KG
      have kW : Below w.heap.size w wr := kN.trans (hb.mono (by omega))
      have hNw : w.heap.size + 3 < wr.heap.size := blk_lt v3
      clear KG
      generalize hres : fillG n k cs rx ry rw rh (r, f, bk, x) = res at HKG
      have HRES : Hid (fillG n k cs rx ry rw rh (r, f, bk, x) = res) := hres
      clear hres
      go_wp2_with (first
        | (go_at_call 30; refine HKG.out.mono ?_; rintro e W7 ⟨_, rfl, ⟨g7, c7, r7, t7, rfl, hg7, hc7, hm7, h7⟩, b7⟩; have u3 := carry v3 b7)
        | (refine wpList_store_row rfl 24 (.tmp 6) _ rfl (w.heap.size + 3) #[.int .i64 (n : Int), .int .i64 (k : Int), .slice (some ⟨g7, 0, none⟩) res.length c7] rfl rfl _ _ u3 (by kernel_rfl) rfl (one3v _ _ _ _ _) ?_))
      (try simp only [Exit.inBlock, Exit.then])
      refine bodyPost_ret (v := .agg #[.int .i64 (n : Int), .int .i64 (k : Int), .slice (some ⟨g7, 0, none⟩) res.length c7]) ?_ rfl ⟨_, rfl, ⟨g7, c7, r7, t7, by rw [HRES.out], by have := kW.size; omega, by rw [HRES.out]; exact hc7, hm7, ?_⟩, below_setRow (kW.trans (b7.mono kW.size)) (by omega) _⟩
      · exact results_cell_row rfl _ _ (w.heap.size + 3) _ _ _ _ rfl (setRow_heap _ _ _ _ _ _ u3) Tryd.underlying24 rfl (by kernel_rfl)
      · rw [setRow_other _ _ _ _ (by omega), HRES.out]
        exact h7
end Grd
end Go.Proofs.YtlpoahhlggnmfaaDoor
