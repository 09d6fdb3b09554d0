/- The walk of the reference's FillGrid. -/
import Derived.Test.YtinhmklpnkikgaaDoorPartG
import Derived.Test.YtinhmklpnkikgaaDoorPartK
import Derived.Deep.RegionHeld3
import Derived.Test.YtinhmklpnkikgaaDoorPartJ
namespace Go.Proofs.YtinhmklpnkikgaaDoor
open Go.ChangeShapes Go.WideShapes Go.ChangeAt Go.RowKit Go.Maps
namespace Grd
end Grd
end Go.Proofs.YtinhmklpnkikgaaDoor

/- The walk of the reference's LayGrid. -/
namespace Go.Proofs.YtinhmklpnkikgaaDoor
open Go.ChangeShapes Go.WideShapes Go.ChangeAt Go.RowKit Go.Maps
namespace Grd
theorem sub_in (a Y : Int) (h0 : -9223372036854775808 ≤ a - Y) (h1 : a - Y ≤ 9223372036854775807) : IntKind.i64.wrap (a - Y) = a - Y := IntWalk.i64_in _ ⟨h0, h1⟩
set_option maxHeartbeats 8000000 in
set_option maxRecDepth 100000 in
theorem layGrid_any (m p b1 o1 c1 n hh b2 o2 c2 : Nat) (px py : Int) (fs cs : List C) (w : World) (hC1 : CellsAt w b1 o1 fs) (hC2 : CellsAt w b2 o2 cs) (hok : gridErr m p fs = 0) (hok2 : gridErr n hh cs = 0) (hl1 : fs.length ≤ c1) (hl2 : cs.length ≤ c2) :
    Calls Tryd.prog 25 #[.agg #[.int .i64 (m : Int), .int .i64 (p : Int), .slice (some ⟨b1, o1, none⟩) fs.length c1], .agg #[.int .i64 (n : Int), .int .i64 (hh : Int), .slice (some ⟨b2, o2, none⟩) cs.length c2], .int .i64 px, .int .i64 py] w fun e w' => ∃ v, e = .returned (.agg #[.int .i64 (n : Int), .int .i64 (hh : Int), v]) ∧ OwnG w' w.heap.size v (layG n hh cs m p fs (nearI px) (nearI py)) ∧ Below w.heap.size w w' := by
  obtain ⟨hs1, hL1, hR1⟩ := (gridErr_zero m p fs).1 hok
  obtain ⟨hs2, hL2, hR2⟩ := (gridErr_zero n hh cs).1 hok2
  have HRR : Hid (∀ k, k < hh → mendL (rowAt n cs k) = rowAt n cs k) := fun k hk => mendL_fix _ (hR2 k hk).2
  have ⟨u0, u1, u2, u3, u4, u5⟩ := prod_in m p hs1
  have ⟨p0, p1, p2, p3, p4, p5⟩ := prod_in n hh hs2
  obtain ⟨x0, x1, x2, kk, hsz⟩ := alloc3 w (.cells #[.int .i64 (m : Int), .int .i64 (p : Int), .slice (some ⟨b1, o1, none⟩) fs.length c1] 24) (.cells #[.int .i64 (n : Int), .int .i64 (hh : Int), .slice (some ⟨b2, o2, none⟩) cs.length c2] 24) (.cells #[.int .i64 0, .int .i64 0, .slice none 0 0] 24)
  have HC1 : Hid (∀ W, Below w.heap.size w W → Calls Tryd.prog 28 #[.agg #[.int .i64 (m : Int), .int .i64 (p : Int), .slice (some ⟨b1, o1, none⟩) fs.length c1]] W fun e w' => ∃ v vs gs, e = .returned v ∧ w'.ownsRow W.heap.size 22 1 v p vs ∧ RowsAt w' W.heap.size vs gs (rowsL m fs p) ∧ Below W.heap.size W w') := fun W k => rows_any m p b1 o1 c1 fs W (hC1.below k) hs1 hL1 hl1
  have HC2 : Hid (∀ W, Below w.heap.size w W → Calls Tryd.prog 28 #[.agg #[.int .i64 (n : Int), .int .i64 (hh : Int), .slice (some ⟨b2, o2, none⟩) cs.length c2]] W fun e w' => ∃ v vs gs, e = .returned v ∧ w'.ownsRow W.heap.size 22 1 v hh vs ∧ RowsAt w' W.heap.size vs gs (rowsL n cs hh) ∧ Below W.heap.size W w') := fun W k => rows_any n hh b2 o2 c2 cs W (hC2.below k) hs2 hL2 hl2
  have HL1 : Hid (fs.length = m * p) := hL1
  have HL2 : Hid (cs.length = n * hh) := hL2
  clear hC1 hC2 hok hok2 hs1 hs2 hL1 hL2 hR1 hR2 p0 p1 u0 u1
  generalize hW0 : (((w.alloc (.cells #[.int .i64 (m : Int), .int .i64 (p : Int), .slice (some ⟨b1, o1, none⟩) fs.length c1] 24)).alloc (.cells #[.int .i64 (n : Int), .int .i64 (hh : Int), .slice (some ⟨b2, o2, none⟩) cs.length c2] 24)).alloc (.cells #[.int .i64 0, .int .i64 0, .slice none 0 0] 24)) = W0 at x0 x1 x2 kk hsz
  have HW0 : Hid (_ = W0) := hW0
  clear hW0
  have k0 : Below W0.heap.size W0 W0.drew := (Below.refl _ _).drew
  have HS : Hid (∀ W, Below W0.heap.size W0 W → (W.cell? ⟨w.heap.size, 0, none⟩ = some (.int .i64 (m : Int)) ∧ W.cell? ⟨w.heap.size, 1, none⟩ = some (.int .i64 (p : Int)) ∧ W.cell? ⟨w.heap.size, 2, none⟩ = some (.slice (some ⟨b1, o1, none⟩) fs.length c1)) ∧ (W.cell? ⟨w.heap.size + 1, 0, none⟩ = some (.int .i64 (n : Int)) ∧ W.cell? ⟨w.heap.size + 1, 1, none⟩ = some (.int .i64 (hh : Int)) ∧ W.cell? ⟨w.heap.size + 1, 2, none⟩ = some (.slice (some ⟨b2, o2, none⟩) cs.length c2))) := fun W k => by
    have a := cells3 (carry x0 k)
    have b := cells3 (carry x1 k)
    exact ⟨⟨a.1, a.2.1, a.2.2.1⟩, b.1, b.2.1, b.2.2.1⟩
  have HXL : Hid (∀ p : Int, nearI p ≤ 1000 ∧ -1000 ≤ nearI p) := fun p => ⟨(near_in p).2, (near_in p).1⟩
  go_enter Tryd.func25, Tryd.ntmps25
  go_wp2_with fail
  rw [HW0.out]
  go_region_held3 (fun W => (W.cell? ⟨w.heap.size, 0, none⟩ = some (.int .i64 (m : Int)) ∧ W.cell? ⟨w.heap.size, 1, none⟩ = some (.int .i64 (p : Int)) ∧ W.cell? ⟨w.heap.size, 2, none⟩ = some (.slice (some ⟨b1, o1, none⟩) fs.length c1)) ∧ (W.cell? ⟨w.heap.size + 1, 0, none⟩ = some (.int .i64 (n : Int)) ∧ W.cell? ⟨w.heap.size + 1, 1, none⟩ = some (.int .i64 (hh : Int)) ∧ W.cell? ⟨w.heap.size + 1, 2, none⟩ = some (.slice (some ⟨b2, o2, none⟩) cs.length c2)))
    (first
      | (exact HS.out _ k2)
      | (exact HS.out _ k1)
      | (exact HS.out _ k0))
    (first
      | (go_at_call_of 28 b1; refine (HC1.out _ (kk.trans (k0.mono kk.size))).mono ?_; rintro e W1 ⟨v1, vs1, gs1, rfl, ho1, hr1, d1⟩; have k1 := k0.trans (d1.mono k0.size))
      | (go_at_call_of 28 b2; refine (HC2.out _ (kk.trans (k1.mono kk.size))).mono ?_; rintro e W2 ⟨v2, vs2, gs2, rfl, ho2, hr2, d2⟩; have k2 := k1.trans (d2.mono k1.size)))
  have hvl1 : vs1.length = p := by rw [hr1.1, rowsL_len]
  rw [← hvl1] at ho1
  obtain ⟨G1, cap1, rest1, rfl, hGb1, hlc1, hcm1, hGh1⟩ := out_of_own ho1 (by omega)
  rw [hvl1] at hlc1
  have e1v : vs1.length = p := hvl1
  simp only [e1v]
  have hvl2 : vs2.length = hh := by rw [hr2.1, rowsL_len]
  rw [← hvl2] at ho2
  obtain ⟨G2, cap2, rest2, rfl, hGb2, hlc2, hcm2, hGh2⟩ := out_of_own ho2 (by omega)
  rw [hvl2] at hlc2
  have e2v : vs2.length = hh := hvl2
  simp only [e2v]
  clear e1v e2v ho1 ho2 HC1 HC2 HS HW0
  go_wp2_with fail
  refine (limit_same _ _).mono ?_
  rintro e W3 ⟨rfl, h3⟩
  rw [h3]
  clear h3
  go_wp2_with fail
  refine (limit_same _ _).mono ?_
  rintro e W4 ⟨rfl, h4⟩
  rw [h4]
  clear h4
  go_wp2_with fail
  have ⟨l1, l2⟩ := HXL.out px
  have ⟨l3, l4⟩ := HXL.out py
  have HFG : Hid (preF n cs (layFn m p fs (nearI px) (nearI py)) hh = layG n hh cs m p fs (nearI px) (nearI py)) := rfl
  generalize hLG : layG n hh cs m p fs (nearI px) (nearI py) = LG at HFG
  have HLG : Hid (layG n hh cs m p fs (nearI px) (nearI py) = LG) := hLG
  have HFL : Hid (KeepLen n (layFn m p fs (nearI px) (nearI py))) := layFn_len n m p fs _ _
  have HF1 : Hid (∀ y : Nat, nearI py ≤ (y : Int) → (y : Int) < nearI py + p → ∀ row, layFn m p fs (nearI px) (nearI py) y row = mendL (putRow row (layP m (nearI px)) (layF (rowAt m fs ((y : Int) - nearI py).toNat) (nearI px)))) := fun y h1 h2 row => by
    unfold layFn
    rw [if_pos (by omega)]
  have HF0 : Hid (∀ y : Nat, ¬ (nearI py ≤ (y : Int) ∧ (y : Int) < nearI py + p) → ∀ row, layFn m p fs (nearI px) (nearI py) y row = row) := fun y h1 row => by
    unfold layFn
    rw [if_neg h1]
  clear hLG HXL
  generalize layFn m p fs (nearI px) (nearI py) = F at HFG HFL HF0 HF1
  generalize nearI px = X at HF1 l1 l2 ⊢
  generalize nearI py = Y at HF0 HF1 l3 l4 ⊢
  rw [← rowsF_zero n hh cs F] at hr2
  have HR0 : Hid (RowsAt W2 W1.heap.size vs2 gs2 (rowsF n hh cs F 0)) := hr2
  have HR1 : Hid (RowsAt W1 W0.drew.heap.size vs1 gs1 (rowsL m fs p)) := hr1
  have y0 := carry x0 k1
  have y2 := carry x2 k1
  have hw1 : w.heap.size + 2 < W1.heap.size := blk_lt y2
  have hGl1 : G1 < W1.heap.size := blk_lt hGh1
  have kN1 : Below w.heap.size w W1 := kk.trans (k1.mono kk.size)
  have HD2 : Hid (Below W1.heap.size W1 W2) := d2
  clear x0 x1 x2 kk k0 k1 k2 d1 d2 hr1 hr2
  go_loopg [24] hh (fun q i wr => ∃ (k : Nat) (vs : List Value) (gs : List Nat), i = .int .i64 (k : Int) ∧ k ≤ hh ∧ hh - k ≤ q ∧ Below W1.heap.size W1 wr ∧ wr.heap[G2]? = some (.cells (vs ++ rest2).toArray 22 (0, 0)) ∧ RowsAt wr W1.heap.size vs gs (rowsF n hh cs F k))
  case atStart => exact ⟨0, vs2, gs2, rfl, by omega, by omega, HD2.out, hGh2, HR0.out⟩
  case round =>
    clear hGh2 HR0
    obtain ⟨k, vs, gs, rfl, hk, hq, hb, hG, hR⟩ := hrel
    have HR : Hid (RowsAt wr W1.heap.size vs gs (rowsF n hh cs F k)) := hR
    have v0 : wr.heap[w.heap.size]? = _ := (hb.block _ (by omega)).trans y0
    have v2 : wr.heap[w.heap.size + 2]? = _ := (hb.block _ (by omega)).trans y2
    have hvl : vs.length = hh := by rw [hR.1, rowsF_len]
    by_cases hlt : k < hh
    · have lt1 : ((k : Int) < (hh : Int)) := by omega
      have hrow := (hR.2.2.2 k (by rw [rowsF_len]; exact hlt))
      rw [rowsF_at n hh cs F k k hlt, if_neg (by omega)] at hrow
      obtain ⟨hgb, capk, restk, hvk, hlk, hck, hgk⟩ := hrow
      have hrl := row_len n hh cs k HL2.out hlt
      rw [hrl] at hvk hlk
      have hcell := out_cell hG k (by omega)
      rw [hvk] at hcell
      generalize hgk0 : gs.getD k 0 = gk0 at *
      have HGK : Hid (gs.getD k 0 = gk0) := hgk0
      have HVK : Hid (vs.getD k nilV = .slice (some ⟨gk0, 0, none⟩) n capk) := hvk
      have HRL : Hid ((rowAt n cs k).length = n) := hrl
      have HGG : Hid (G2 ≠ gk0) := by
        intro e
        rw [e] at hG
        rw [hgk] at hG
        simp at hG
      clear hgk0 hR hvk hrl
      by_cases hy : Y ≤ (k : Int) ∧ (k : Int) < Y + p
      · obtain ⟨qy, hqy⟩ := Int.eq_ofNat_of_zero_le (show 0 ≤ (k : Int) - Y by omega)
        have hqp : qy < p := by omega
        have hsub : IntKind.i64.wrap ((k : Int) - Y) = (qy : Int) := by rw [hqy]; exact IntWalk.i64_in _ (by omega)
        have HFk : Hid (rowsF n hh cs F (k + 1) = (rowsF n hh cs F k).set k (mendL (putRow (rowAt n cs k) (layP m X) (layF (rowAt m fs qy) X)))) := by
          unfold Hid
          rw [rowsF_set n hh cs F k hlt, HF1.out k hy.1 hy.2, hqy]
          rfl
        have HFs : Hid (putRow (rowAt n cs k) (layP m X) (layF (rowAt m fs qy) X) = rowAt n cs k → rowsF n hh cs F (k + 1) = rowsF n hh cs F k) := fun h => by
          refine rowsF_same n hh cs F k hlt ?_
          rw [HF1.out k hy.1 hy.2, hqy]
          show mendL (putRow (rowAt n cs k) (layP m X) (layF (rowAt m fs qy) X)) = _
          rw [h, HRR.out k hlt]
        have hfr := (HR1.out.2.2.2 qy (by rw [rowsL_len]; exact hqp))
        have hfl := row_len m p fs qy HL1.out hqp
        rw [show (rowsL m fs p).getD qy [] = rowAt m fs qy by simp [rowsL, List.getD, hqp]] at hfr
        obtain ⟨-, capa, resta, hva, hla, hca, hga⟩ := hfr
        rw [hfl] at hva hla
        have hce1 := out_cell hGh1 qy (by omega)
        rw [hva] at hce1
        generalize gs1.getD qy 0 = ga at *
        have hgal : ga < W1.heap.size := blk_lt hga
        have HFRL : Hid ((rowAt m fs qy).length = m) := hfl
        have HGA : Hid (W1.heap[ga]? = some (.cells (flat (rowAt m fs qy) ++ resta).toArray 40 (0, 0))) := hga
        have HG1 : Hid (W1.heap[G1]? = some (.cells (vs1 ++ rest1).toArray 22 (0, 0))) := hGh1
        have HVA : Hid (vs1.getD qy nilV = .slice (some ⟨ga, 0, none⟩) m capa) := hva
        have hqp' : (qy : Int) < (p : Int) := by omega
        clear hqy hy hva hce1 hga hfl hGh1
        generalize rowAt n cs k = row at *
        generalize rowAt m fs qy = frow at *
        go_wp2_with fail
        generalize hV : wr = V at *
        go_loopg [12, 32] n (fun q tt xx wv => ∃ (j : Nat) (t : Bool), tt = .bool t ∧ xx = .int .i64 (j : Int) ∧ j ≤ n ∧ n - j ≤ q ∧ Hid (t = false → ∀ u, u < j → layP m X u = false) ∧ Apart W1.heap.size [gk0] V wv ∧ wv.heap[gk0]? = some (.cells (flat (putRow row (fun u => layP m X u && decide (u < j)) (layF frow X)) ++ restk).toArray 40 (0, 0)))
        case atStart =>
          refine ⟨0, false, rfl, rfl, by omega, by omega, fun _ u hu => absurd hu (by omega), Apart.refl _ _ _, ?_⟩
          rw [putRow_none _ _ _ (fun u _ => by simp)]
          exact hgk
        case round =>
          obtain ⟨j, t, rfl, rfl, hj, hq2, ht, hap, hgj⟩ := hrel
          have w0 := hap.carry v0 (by simp; omega)
          have wG := hap.carry hG (by simpa using HGG.out)
          have hcj := out_cell wG k (by omega)
          rw [HVK.out] at hcj
          have wA := (hap.1.block ga hgal).trans ((hb.block ga hgal).trans HGA.out)
          have wB := (hap.1.block G1 hGl1).trans ((hb.block G1 hGl1).trans HG1.out)
          have hca1 := out_cell wB qy (by omega)
          rw [HVA.out] at hca1
          obtain ⟨t0, t1, t2, _⟩ := cells3 w0
          by_cases hjn : j < n
          · have lt2 : ((j : Int) < (n : Int)) := by omega
            by_cases hin : X ≤ (j : Int) ∧ (j : Int) < X + m
            · obtain ⟨u, hu⟩ := Int.eq_ofNat_of_zero_le (show 0 ≤ (j : Int) - X by omega)
              have hum : u < m := by omega
              have hum' : (u : Int) < (m : Int) := by omega
              have hsu : IntKind.i64.wrap ((j : Int) - X) = (u : Int) := by rw [hu]; exact IntWalk.i64_in _ (by omega)
              have HLF : Hid (layF frow X j = frow.getD u z0) := by unfold Hid layF; rw [hu]; rfl
              have hjl : j < (putRow row (fun u => layP m X u && decide (u < j)) (layF frow X)).length := by rw [putRow_len, HRL.out]; exact hjn
              have hsv := store_cell (w := wr.drew) (pre := []) (by rw [List.nil_append]; exact hgj) j hjl (layF frow X j)
              rw [List.length_nil, Nat.zero_add] at hsv
              rw [List.nil_append, putRow_set row _ (fun u => layP m X u && decide (u < j + 1)) (layF frow X) j (by rw [HRL.out]; exact hjn) (fun v _ => by
                by_cases hvj : v = j
                · subst hvj; unfold layP; simp; omega
                · simp only [hvj, decide_false, Bool.or_false]
                  rw [show decide (v < j + 1) = decide (v < j) by rw [decide_eq_decide]; omega])] at hsv
              rw [HLF.out] at hsv
              have ⟨c0, c1', c2', c3⟩ := (cellsAt_flat wA) u (by rw [HFRL.out]; exact hum)
              rw [Nat.zero_add] at c0 c1' c2' c3
              rcases hce : frow.getD u z0 with ⟨r, f, bk, x⟩
              rw [hce] at hsv c0 c1' c2' c3
              dsimp only at c0 c1' c2' c3
              have HSV : Hid ((wr.drew.setCells gk0 (j * 4) (words (r, f, bk, x))).heap[gk0]? = some (.cells (flat (putRow row (fun u => layP m X u && decide (u < j + 1)) (layF frow X)) ++ restk).toArray 40 (0, 0))) := hsv
              have HAZ : Hid (Apart W1.heap.size [gk0] V (wr.drew.setCells gk0 (j * 4) (words (r, f, bk, x)))) := hap.drew.setCells gk0 (j * 4) (words (r, f, bk, x)) (by simp) (by omega)
              have ⟨o0, o1', o2', o3⟩ := (cellsAt_flat hgj) j hjl
              rw [Nat.zero_add] at o0 o1' o2' o3
              have q0 : wr.frozen? ⟨gk0, j * 4, none⟩ = false := frozen_of hgj _
              have q1 : wr.frozen? ⟨gk0, j * 4 + 1, none⟩ = false := frozen_of hgj _
              have q2 : wr.frozen? ⟨gk0, j * 4 + 2, none⟩ = false := frozen_of hgj _
              have q3 : wr.frozen? ⟨gk0, j * 4 + 3, none⟩ = false := frozen_of hgj _
              generalize (putRow row (fun u => layP m X u && decide (u < j)) (layF frow X)).getD j Grd.z0 = oc at o0 o1' o2' o3
              clear hsv hjl hgj hce hu hin HLF wA wB wG w0
              go_wp2_with fail
              go_region
              go_wp2_with fail
              go_roundg (n - (j + 1))
              case measure => omega
              case rel => exact ⟨j + 1, true, rfl, rfl, by omega, by omega, (fun h => by cases h), HAZ.out, HSV.out⟩
            · have HLP : Hid (layP m X j = false) := by unfold Hid layP; rw [decide_eq_false_iff_not]; exact hin
              have HNX : Hid ((putRow row (fun u => layP m X u && decide (u < j)) (layF frow X)) = putRow row (fun u => layP m X u && decide (u < j + 1)) (layF frow X)) := putRow_congr _ _ _ _ _ (fun u hu => ⟨by
                by_cases huj : u = j
                · subst huj
                  rw [HLP.out]; simp
                · rw [show decide (u < j + 1) = decide (u < j) by rw [decide_eq_decide]; omega], fun _ => rfl⟩)
              have HT2 : Hid (t = false → ∀ u, u < j + 1 → layP m X u = false) := fun h u hu => by
                by_cases huj : u = j
                · subst huj; exact HLP.out
                · exact ht.out h u (by omega)
              rw [HNX.out] at hgj
              by_cases h0 : 0 ≤ (j : Int) - X
              · obtain ⟨u, hu⟩ := Int.eq_ofNat_of_zero_le h0
                have hsu : IntKind.i64.wrap ((j : Int) - X) = (u : Int) := by rw [hu]; exact IntWalk.i64_in _ (by omega)
                have f1 : ¬ ((u : Int) < (m : Int)) := by omega
                have g1 : decide ((u : Int) < (m : Int)) = false := by rw [decide_eq_false_iff_not]; omega
                clear hin hu h0
                go_wp2_with fail
                go_roundg (n - (j + 1))
                case measure => omega
                case rel => exact ⟨j + 1, t, rfl, rfl, by omega, by omega, HT2, hap, hgj⟩
              · have hsu : IntKind.i64.wrap ((j : Int) - X) = (j : Int) - X := IntWalk.i64_in _ (by omega)
                have f1 : ¬ (0 ≤ (j : Int) - X) := h0
                have g1 : decide (0 ≤ (j : Int) - X) = false := by rw [decide_eq_false_iff_not]; exact h0
                clear hin h0
                go_wp2_with fail
                go_roundg (n - (j + 1))
                case measure => omega
                case rel => exact ⟨j + 1, t, rfl, rfl, by omega, by omega, HT2, hap, hgj⟩
          · have lt2 : ¬ ((j : Int) < (n : Int)) := by omega
            have HPE : Hid ((putRow row (fun u => layP m X u && decide (u < j)) (layF frow X)) = putRow row (layP m X) (layF frow X)) := putRow_congr _ _ _ _ _ (fun u hu => ⟨by rw [HRL.out] at hu; simp; omega, fun _ => rfl⟩)
            rw [HPE.out] at hgj
            clear wA wB t0 t1 t2 w0 hca1
            cases t
            · have HSM : Hid (putRow row (layP m X) (layF frow X) = row) := putRow_none _ _ _ (fun u hu => ht.out rfl u (by rw [HRL.out] at hu; omega))
              rw [HSM.out] at hgj
              go_wp2_with fail
              go_roundg (hh - (k + 1))
              case measure => omega
              case rel =>
                refine ⟨k + 1, vs, gs, rfl, by omega, by omega, hb.trans hap.1, wG, ?_⟩
                rw [HFs.out HSM.out]
                refine HR.out.kept fun i hi => ?_
                by_cases hik : i = k
                · subst hik
                  rw [HGK.out, hgj, hgk]
                · have h1 := HR.out.lt i hi
                  have h2 := HR.out.ne i k hi (by rw [rowsF_len]; exact hlt) hik
                  rw [HGK.out] at h2
                  exact hap.2 _ (by simpa using h2) h1
            · have KM := mendRow_any gk0 0 capk (putRow row (layP m X) (layF frow X)) wr (cellsAt_flat hgj) (by rw [putRow_len, HRL.out]; omega)
              rw [putRow_len, HRL.out] at KM
              have HKM : Hid (Calls Tryd.prog 29 #[.slice (some ⟨gk0, 0, none⟩) n capk] wr fun e w' => ∃ v' g, e = .returned v' ∧ wr.heap.size ≤ g ∧ RowB w' g v' (mendL (putRow row (layP m X) (layF frow X))) ∧ Below wr.heap.size wr w') := KM
              clear KM HPE
              have hkv : k < vs.length := by omega
              go_wp2_with (go_at_call 29; refine HKM.out.mono ?_; rintro e W6 ⟨v6, g6, rfl, hg6, hr6, b6⟩
                           have wG6 := carry wG b6
                           have hce : W6.cell? ⟨G2, k, none⟩ = some (vs.getD k nilV) := out_cell wG6 k hkv
                           have hfz : W6.frozen? ⟨G2, k, none⟩ = false := frozen_of wG6 _
                           have HR6 : Hid (RowB W6 g6 v6 (mendL (putRow row (layP m X) (layF frow X)))) := hr6
                           obtain ⟨cap6, _, rfl, _⟩ := hr6)
              have hGl : G2 < V.heap.size := blk_lt hG
              have hsV := hap.1.size
              have hs6 := b6.size
              have hbs := hb.size
              go_roundg (hh - (k + 1))
              case measure => omega
              case rel =>
                refine ⟨k + 1, vs.set k (.slice (some ⟨g6, 0, none⟩) (mendL (putRow row (layP m X) (layF frow X))).length cap6), gs.set k g6, rfl, by omega, by omega, ?_, ?_, ?_⟩
                · exact ((hb.trans hap.1).trans (b6.mono (by omega))).setCell (by dsimp only; omega) _
                · have := heap_setCell_same W6 G2 k _ _ (.slice (some ⟨g6, 0, none⟩) (mendL (putRow row (layP m X) (layF frow X))).length cap6) wG6
                  rw [this]
                  simp [List.set_append_left _ _ hkv]
                · rw [HFk.out]
                  refine HR.out.set k (by rw [rowsF_len]; exact hlt) g6 _ _ (by omega) ?_ (fun i hi hik => ?_) (fun i hi hik => ?_)
                  · obtain ⟨cp, rs, e1, e2, e3, e4⟩ := HR6.out
                    exact ⟨cp, rs, e1, e2, e3, by rw [heap_setCell_other _ _ _ _ (by dsimp only; omega)]; exact e4⟩
                  · have := HR.out.lt i hi
                    omega
                  · have h1 := HR.out.lt i hi
                    have h2 := HR.out.ne i k hi (by rw [rowsF_len]; exact hlt) hik
                    rw [HGK.out] at h2
                    have h3 : gs.getD i 0 ≠ G2 := by
                      intro e
                      obtain ⟨_, _, _, _, _, _, h5⟩ := HR.out.2.2.2 i hi
                      rw [e, hG] at h5
                      simp at h5
                    rw [heap_setCell_other _ _ _ _ (by dsimp only; exact h3), b6.block _ (by omega), hap.2 _ (by simpa using h2) h1]
      · have HFk : Hid (rowsF n hh cs F (k + 1) = rowsF n hh cs F k) := rowsF_same n hh cs F k hlt (HF0.out k hy _)
        have hyy : (IntKind.i64.wrap ((k : Int) - Y) = (k : Int) - Y ∧ decide (0 ≤ (k : Int) - Y) = false) ∨ (∃ qy : Nat, IntKind.i64.wrap ((k : Int) - Y) = (qy : Int) ∧ decide ((qy : Int) < (p : Int)) = false) := by
          by_cases h0 : 0 ≤ (k : Int) - Y
          · right
            obtain ⟨qy, hqy⟩ := Int.eq_ofNat_of_zero_le h0
            exact ⟨qy, by rw [hqy]; exact IntWalk.i64_in _ (by omega), by rw [decide_eq_false_iff_not]; omega⟩
          · left; exact ⟨IntWalk.i64_in _ (by omega), by rw [decide_eq_false_iff_not]; exact h0⟩
        obtain ⟨t0, t1, t2, _⟩ := cells3 v0
        clear hy
        go_wp2_with fail
        generalize hV : wr = V at *
        go_loopg [12, 32] n (fun q tt xx wv => ∃ j : Nat, tt = .bool false ∧ xx = .int .i64 (j : Int) ∧ j ≤ n ∧ n - j ≤ q ∧ wv = V)
        case atStart => exact ⟨0, rfl, rfl, by omega, by omega, rfl⟩
        case round =>
          obtain ⟨j, rfl, rfl, hj, hq2, rfl⟩ := hrel
          by_cases hjn : j < n
          · have lt2 : ((j : Int) < (n : Int)) := by omega
            rcases hyy with ⟨hsub, g1⟩ | ⟨qy, hsub, g1⟩
            · have f1 := of_decide_eq_false g1
              go_wp2_with fail
              go_roundg (n - (j + 1))
              case measure => omega
              case rel => exact ⟨j + 1, rfl, rfl, by omega, by omega, rfl⟩
            · have f1 := of_decide_eq_false g1
              go_wp2_with fail
              go_roundg (n - (j + 1))
              case measure => omega
              case rel => exact ⟨j + 1, rfl, rfl, by omega, by omega, rfl⟩
          · have lt2 : ¬ ((j : Int) < (n : Int)) := by omega
            clear hyy
            go_wp2_with fail
            go_roundg (hh - (k + 1))
            case measure => omega
            case rel => exact ⟨k + 1, vs, gs, rfl, by omega, by omega, hb, hG, by rw [HFk.out]; exact HR.out⟩
    · have lt1 : ¬ ((k : Int) < (hh : Int)) := by omega
      have hkh : k = hh := by omega
      subst hkh
      have KG := gridOf_any n k G2 cap2 W1.heap.size vs rest2 gs (rowsF n k cs F k) wr (by omega) (by omega) (by omega) (by omega) hG HR.out (rowsF_len _ _ _ _ _) (fun i hi => by
        rw [rowsF_len] at hi
        rw [rowsF_at n k cs F k i hi, if_pos hi]
        exact HFL.out i _ (row_len n k cs i HL2.out hi))
      rw [rowsF_flat, HFG.out] at KG
      have HKG : Hid (Calls Tryd.prog 30 #[.slice (some ⟨G2, 0, none⟩) k cap2] wr fun e w' => ∃ v, e = .returned (.agg #[.int .i64 (n : Int), .int .i64 (k : Int), v]) ∧ OwnG w' wr.heap.size v LG ∧ Below wr.heap.size wr w') := KG
      have kW : Below w.heap.size w wr := kN1.trans (hb.mono (by omega))
      have hNw : w.heap.size + 2 < wr.heap.size := blk_lt v2
      clear KG
      go_wp2_with (first
        | (go_at_call 30; refine HKG.out.mono ?_; rintro e W7 ⟨_, rfl, ⟨g7, c7, r7, t7, rfl, hg7, hc7, hm7, h7⟩, b7⟩; have u3' := carry v2 b7)
        | (refine wpList_store_row rfl 24 (.tmp 8) _ rfl (w.heap.size + 2) #[.int .i64 (n : Int), .int .i64 (k : Int), .slice (some ⟨g7, 0, none⟩) LG.length c7] rfl rfl _ _ u3' (by kernel_rfl) rfl (one3v _ _ _ _ _) ?_))
      (try simp only [Exit.inBlock, Exit.then])
      refine bodyPost_ret (v := .agg #[.int .i64 (n : Int), .int .i64 (k : Int), .slice (some ⟨g7, 0, none⟩) LG.length c7]) ?_ rfl ⟨_, rfl, ⟨g7, c7, r7, t7, by rw [HLG.out], by have := kW.size; omega, by rw [HLG.out]; exact hc7, hm7, ?_⟩, below_setRow (kW.trans (b7.mono kW.size)) (by omega) _⟩
      · exact results_cell_row rfl _ _ (w.heap.size + 2) _ _ _ _ rfl (setRow_heap _ _ _ _ _ _ u3') Tryd.underlying24 rfl (by kernel_rfl)
      · rw [setRow_other _ _ _ _ (by omega), HLG.out]
        exact h7
end Grd
end Go.Proofs.YtinhmklpnkikgaaDoor

/- The walks of layOnNew, Part and Resize. -/
namespace Go.Proofs.YtinhmklpnkikgaaDoor
open Go.ChangeShapes Go.WideShapes Go.ChangeAt Go.RowKit
namespace Grd
def newL (n hh : Nat) : List C := List.replicate (n * hh) blank
theorem newL_len (n hh : Nat) : (newL n hh).length = n * hh := by simp [newL]
theorem layG_len (n hh m p : Nat) (cs fs : List C) (X Y : Int) (hL : cs.length = n * hh) : (layG n hh cs m p fs X Y).length = n * hh := by
  unfold layG
  rw [preF_len n hh cs _ hL (layFn_len n m p fs _ _) hh (Nat.le_refl _), Nat.mul_comm]
set_option maxHeartbeats 1000000 in
theorem lon_bad (a h pw ph X Y : Int) (v : Value) (w : World) (hs : isSize pw ph = false) :
    Calls Tryd.prog 49 #[.agg #[.int .i64 a, .int .i64 h, v], .int .i64 pw, .int .i64 ph, .int .i64 X, .int .i64 Y] w fun e w' => e = .returned (.tuple #[.agg #[.int .i64 0, .int .i64 0, .slice none 0 0], .int .i64 3]) ∧ Below w.heap.size w w' := by
  obtain ⟨x0, x1, kk, hsz⟩ := alloc2' w (.cells #[.int .i64 a, .int .i64 h, v] 24) (.cells #[.int .i64 0, .int .i64 0, .slice none 0 0] 24)
  go_enter Tryd.func49, Tryd.ntmps49
  go_wp2_with fail
  refine (new_bad pw ph _ hs).mono ?_
  rintro e W1 ⟨rfl, b1⟩
  have y1 := carry x1 b1
  have k1 := kk.trans (b1.mono kk.size)
  go_wp2_with (first
    | (refine wpList_store_row rfl 24 (.tmp 12) _ rfl W1.heap.size #[.int .i64 0, .int .i64 0, .slice none 0 0] rfl rfl _ _ (heap_alloc_new W1 _) (by kernel_rfl) rfl (one3v _ _ _ _ _) ?_
       obtain ⟨mX, aX⟩ := var_newL W1 24 #[.int .i64 0, .int .i64 0, .slice none 0 0] #[.int .i64 0, .int .i64 0, .slice none 0 0]
       generalize ((W1.alloc (.cells #[.int .i64 0, .int .i64 0, .slice none 0 0] 24)).setRow W1.heap.size #[.int .i64 0, .int .i64 0, .slice none 0 0]) = X1 at *
       have kX := k1.trans (aX.mono k1.size)
       have v1 := carry y1 aX)
    | (refine wpList_load_row rfl 24 (.tmp 12) rfl W1.heap.size rfl _ _ _ _ mX Tryd.underlying24 rfl (by kernel_rfl) ?_)
    | (refine wpList_store_row rfl 24 (.tmp 10) _ rfl (w.heap.size + 1) #[.int .i64 0, .int .i64 0, .slice none 0 0] rfl rfl _ _ v1 (by kernel_rfl) rfl (one3v _ _ _ _ _) ?_))
  (try simp only [Exit.inBlock, Exit.then])
  refine bodyPost_ret (v := .tuple #[.agg #[.int .i64 0, .int .i64 0, .slice none 0 0], .int .i64 3]) ?_ rfl ⟨rfl, below_setRow kX (by omega) _⟩
  exact results_row_tmp rfl _ _ (w.heap.size + 1) _ _ _ _ rfl (setRow_heap _ _ _ _ _ _ v1) Tryd.underlying24 rfl (by kernel_rfl) _ rfl
set_option maxHeartbeats 4000000 in
theorem lon_good (m p b o cx n hh : Nat) (X Y : Int) (fs : List C) (w : World) (hT : Txt.Tab w) (hC : CellsAt w b o fs) (hok : gridErr m p fs = 0) (hl : fs.length ≤ cx) (hm : cx ≤ 9223372036854775807) (hs : isSize n hh = true) (hX : -1000 ≤ X) (hX' : X ≤ 1000) (hY : -1000 ≤ Y) (hY' : Y ≤ 1000) :
    Calls Tryd.prog 49 #[.agg #[.int .i64 (m : Int), .int .i64 (p : Int), .slice (some ⟨b, o, none⟩) fs.length cx], .int .i64 (n : Int), .int .i64 (hh : Int), .int .i64 X, .int .i64 Y] w fun e w' => ∃ v, e = .returned (.tuple #[.agg #[.int .i64 (n : Int), .int .i64 (hh : Int), v], .int .i64 0]) ∧ OwnG w' w.heap.size v (layG n hh (newL n hh) m p fs X Y) ∧ Below w.heap.size w w' := by
  obtain ⟨hL1, q1, q2, q3, q4, q5, hne1⟩ := okRange m p fs hok
  have ⟨_, _, p2, p3, p4, p5⟩ := prod_in n hh hs
  have hb1 := slice_block hC hne1
  obtain ⟨x0, x1, kk, hsz⟩ := alloc2' w (.cells #[.int .i64 (m : Int), .int .i64 (p : Int), .slice (some ⟨b, o, none⟩) fs.length cx] 24) (.cells #[.int .i64 0, .int .i64 0, .slice none 0 0] 24)
  have HT : Hid (∀ W, Below w.heap.size w W → Txt.Tab W) := fun W k => Tab.next hT k
  have HTP : Hid (0 < w.heap.size) := hT.pos
  have HC : Hid (CellsAt w b o fs) := hC
  have HL1 : Hid (fs.length = m * p) := hL1
  have HN : Hid (∀ W, Calls Tryd.prog 9 #[.int .i64 (n : Int), .int .i64 (hh : Int)] W fun e w' => ∃ v, e = .returned (.tuple #[.agg #[.int .i64 (n : Int), .int .i64 (hh : Int), v], .int .i64 0]) ∧ OwnG w' W.heap.size v (newL n hh) ∧ Below W.heap.size W w') := fun W => by
    have := new_good n hh W hs
    have e : ((n : Int) * (hh : Int)).toNat = n * hh := by rw [← Int.natCast_mul, Int.toNat_natCast]
    rw [e] at this
    exact this
  have HMC : Hid (∀ y, y < hh → Meant (rowAt n (newL n hh) y)) := fun y hy => by unfold newL; rw [rowAt_replicate n hh y _ hy]; exact (replicate_right n).1
  have HRF : Hid (∀ y, y < p → RightRow (rowAt m fs y)) := ((gridErr_zero m p fs).1 hok).2.2
  have HGL : Hid ((layG n hh (newL n hh) m p fs X Y).length = (newL n hh).length) := by unfold Hid; rw [layG_len n hh m p _ fs X Y (newL_len n hh), newL_len]
  clear hT hC hok hL1 hne1 hs
  go_enter Tryd.func49, Tryd.ntmps49
  go_wp2_with fail
  refine (HN.out _).mono ?_
  rintro e W4 ⟨_, rfl, ⟨g, cap, rest, t, rfl, hgb, hlc, hcm, hgh⟩, b4⟩
  have u0 := carry x0 b4
  have u1 := carry x1 b4
  have k4 := kk.trans (b4.mono kk.size)
  have hgN : w.heap.size + 2 ≤ g := by rw [← hsz]; exact hgb
  have hgM : g < W4.heap.size := blk_lt hgh
  have hNL := newL_len n hh
  have HNL : Hid ((newL n hh).length = n * hh) := hNL
  generalize hnl : newL n hh = nl at *
  clear hNL hgb
  go_wp2_with (refine wpList_store_row rfl 24 (.tmp 12) _ rfl W4.heap.size #[.int .i64 (n : Int), .int .i64 (hh : Int), .slice (some ⟨g, 0, none⟩) nl.length cap] rfl rfl _ _ (heap_alloc_new W4 _) (by kernel_rfl) rfl (one3v _ _ _ _ _) ?_
               obtain ⟨mX, aX⟩ := var_newL W4 24 #[.int .i64 0, .int .i64 0, .slice none 0 0] #[.int .i64 (n : Int), .int .i64 (hh : Int), .slice (some ⟨g, 0, none⟩) nl.length cap]
               generalize ((W4.alloc (.cells #[.int .i64 0, .int .i64 0, .slice none 0 0] 24)).setRow W4.heap.size #[.int .i64 (n : Int), .int .i64 (hh : Int), .slice (some ⟨g, 0, none⟩) nl.length cap]) = X1 at *
               have kX := k4.trans (aX.mono k4.size)
               have v0 := carry u0 aX
               have v1 := carry u1 aX
               have vg := carry hgh aX
               obtain ⟨c0, c1, c2, _⟩ := cells3 mX
               obtain ⟨d0, d1, d2, _⟩ := cells3 v0)
  generalize hM : W4.heap.size = M at *
  refine (overwrite_any n hh g cap nl rest t m p b o cx fs X Y X1 (HT.out _ kX) (by have := HTP.out; omega) vg HNL.out (by omega) (by omega) (by omega) hlc hcm (HC.out.below kX) (by omega) HL1.out q1 q2 q4 hl hm hX hX' hY hY' HMC.out HRF.out).mono ?_
  rintro e W5 ⟨rfl, hv5, ap5⟩
  have w2 := ap5.carry (k := w.heap.size + 1) v1 (by simp; omega)
  have wM := ap5.carry (k := M) mX (by simp; omega)
  have kW : Below w.heap.size w W5 := kX.trans (ap5.1.mono (by omega))
  clear c0 c1 c2 d0 d1 d2
  go_wp2_with (first
    | (refine wpList_load_row rfl 24 (.tmp 12) rfl M rfl _ _ _ _ wM Tryd.underlying24 rfl (by kernel_rfl) ?_)
    | (refine wpList_store_row rfl 24 (.tmp 10) _ rfl (w.heap.size + 1) #[.int .i64 (n : Int), .int .i64 (hh : Int), .slice (some ⟨g, 0, none⟩) nl.length cap] rfl rfl _ _ w2 (by kernel_rfl) rfl (one3v _ _ _ _ _) ?_))
  (try simp only [Exit.inBlock, Exit.then])
  refine bodyPost_ret (v := .tuple #[.agg #[.int .i64 (n : Int), .int .i64 (hh : Int), .slice (some ⟨g, 0, none⟩) nl.length cap], .int .i64 0]) ?_ rfl ⟨_, rfl, ⟨g, cap, rest, t, ?_, by omega, ?_, hcm, ?_⟩, below_setRow kW (by omega) _⟩
  · exact results_row_tmp rfl _ _ (w.heap.size + 1) _ _ _ _ rfl (setRow_heap _ _ _ _ _ _ w2) Tryd.underlying24 rfl (by kernel_rfl) _ rfl
  · rw [hnl, HGL.out]
  · rw [hnl, HGL.out]; exact hlc
  · rw [setRow_other _ _ _ _ (by omega), hnl]
    exact hv5
set_option maxHeartbeats 1000000 in
theorem part_bad1 (a h : Int) (v : Value) (cs : List C) (rx ry rw rh : Int) (w : World) (hT : Txt.Tab w) (hS : SliceAt w v cs) (hok : gridErr a h cs ≠ 0) :
    Calls Tryd.prog 26 #[.agg #[.int .i64 a, .int .i64 h, v], .agg #[.int .i64 rx, .int .i64 ry, .int .i64 rw, .int .i64 rh]] w fun e w' => e = .returned (.tuple #[.agg #[.int .i64 0, .int .i64 0, .slice none 0 0], .int .i64 (gridErr a h cs)]) ∧ Below w.heap.size w w' := by
  obtain ⟨_, _, xr, kk, hsz⟩ := alloc3 w (.cells #[.int .i64 a, .int .i64 h, v] 24) (.cells #[.int .i64 rx, .int .i64 ry, .int .i64 rw, .int .i64 rh] 36) (.cells #[.int .i64 0, .int .i64 0, .slice none 0 0] 24)
  have HK := check_any a h v cs _ (Tab.next hT kk) (hS.below kk)
  generalize gridErr a h cs = er at *
  have ne : (er != 0) = true := by simpa using hok
  clear hok hT hS
  go_enter Tryd.func26, Tryd.ntmps26
  go_wp2_with fail
  refine HK.mono ?_
  rintro e W1 ⟨rfl, b1⟩
  have y2 := carry xr b1
  go_wp2_with (refine wpList_store_row rfl 24 (.tmp 4) _ rfl (w.heap.size + 2) #[.int .i64 0, .int .i64 0, .slice none 0 0] rfl rfl _ _ y2 (by kernel_rfl) rfl (one3v _ _ _ _ _) ?_)
  (try simp only [Exit.inBlock, Exit.then])
  refine bodyPost_ret (v := .tuple #[.agg #[.int .i64 0, .int .i64 0, .slice none 0 0], .int .i64 er]) ?_ rfl ⟨rfl, below_setRow (kk.trans (b1.mono kk.size)) (by omega) _⟩
  exact results_row_tmp rfl _ _ (w.heap.size + 2) _ _ _ _ rfl (setRow_heap _ _ _ _ _ _ y2) Tryd.underlying24 rfl (by kernel_rfl) _ rfl
set_option maxHeartbeats 1000000 in
theorem resize_bad1 (a h : Int) (v : Value) (cs : List C) (pw ph : Int) (w : World) (hT : Txt.Tab w) (hS : SliceAt w v cs) (hok : gridErr a h cs ≠ 0) :
    Calls Tryd.prog 27 #[.agg #[.int .i64 a, .int .i64 h, v], .int .i64 pw, .int .i64 ph] w fun e w' => e = .returned (.tuple #[.agg #[.int .i64 0, .int .i64 0, .slice none 0 0], .int .i64 (gridErr a h cs)]) ∧ Below w.heap.size w w' := by
  obtain ⟨_, xr, kk, hsz⟩ := alloc2' w (.cells #[.int .i64 a, .int .i64 h, v] 24) (.cells #[.int .i64 0, .int .i64 0, .slice none 0 0] 24)
  have HK := check_any a h v cs _ (Tab.next hT kk) (hS.below kk)
  generalize gridErr a h cs = er at *
  have ne : (er != 0) = true := by simpa using hok
  clear hok hT hS
  go_enter Tryd.func27, Tryd.ntmps27
  go_wp2_with fail
  refine HK.mono ?_
  rintro e W1 ⟨rfl, b1⟩
  have y2 := carry xr b1
  go_wp2_with (refine wpList_store_row rfl 24 (.tmp 6) _ rfl (w.heap.size + 1) #[.int .i64 0, .int .i64 0, .slice none 0 0] rfl rfl _ _ y2 (by kernel_rfl) rfl (one3v _ _ _ _ _) ?_)
  (try simp only [Exit.inBlock, Exit.then])
  refine bodyPost_ret (v := .tuple #[.agg #[.int .i64 0, .int .i64 0, .slice none 0 0], .int .i64 er]) ?_ rfl ⟨rfl, below_setRow (kk.trans (b1.mono kk.size)) (by omega) _⟩
  exact results_row_tmp rfl _ _ (w.heap.size + 1) _ _ _ _ rfl (setRow_heap _ _ _ _ _ _ y2) Tryd.underlying24 rfl (by kernel_rfl) _ rfl
set_option maxHeartbeats 1000000 in
theorem part_bad2 (m p : Nat) (v : Value) (fs : List C) (rx ry rw rh : Int) (w : World) (hT : Txt.Tab w) (hS : SliceAt w v fs) (hok : gridErr m p fs = 0) (hx0 : -9223372036854775808 ≤ rx) (hx1 : rx ≤ 9223372036854775807) (hy0 : -9223372036854775808 ≤ ry) (hy1 : ry ≤ 9223372036854775807) (hold : holdsI m p rx ry rw rh = false) :
    Calls Tryd.prog 26 #[.agg #[.int .i64 (m : Int), .int .i64 (p : Int), v], .agg #[.int .i64 rx, .int .i64 ry, .int .i64 rw, .int .i64 rh]] w fun e w' => e = .returned (.tuple #[.agg #[.int .i64 0, .int .i64 0, .slice none 0 0], .int .i64 4]) ∧ Below w.heap.size w w' := by
  obtain ⟨-, q1, q2, q3, q4, -, -⟩ := okRange m p fs hok
  obtain ⟨x0, x1, xr, kk, hsz⟩ := alloc3 w (.cells #[.int .i64 (m : Int), .int .i64 (p : Int), v] 24) (.cells #[.int .i64 rx, .int .i64 ry, .int .i64 rw, .int .i64 rh] 36) (.cells #[.int .i64 0, .int .i64 0, .slice none 0 0] 24)
  have HK := check_ok m p v fs _ (Tab.next hT kk) (hS.below kk) hok
  have HH : Hid (∀ W, Calls Tryd.prog 47 #[.agg #[.int .i64 (m : Int), .int .i64 (p : Int), v], .agg #[.int .i64 rx, .int .i64 ry, .int .i64 rw, .int .i64 rh]] W fun e w' => e = .returned (.bool false) ∧ Below W.heap.size W w') := fun W => by
    have := holds_any m p v rx ry rw rh W (by omega) (by omega) hx0 hx1 hy0 hy1
    rwa [hold] at this
  clear hok hT hS hold
  go_enter Tryd.func26, Tryd.ntmps26
  go_wp2_with fail
  refine HK.mono ?_
  rintro e W1 ⟨rfl, b1⟩
  have k1 := kk.trans (b1.mono kk.size)
  have y2 := carry xr b1
  obtain ⟨c0, c1, c2, _⟩ := cells3 (carry x0 b1)
  obtain ⟨d0, d1, d2, d3⟩ := cells4 (carry x1 b1)
  go_wp2_with fail
  refine (HH.out _).mono ?_
  rintro e W2 ⟨rfl, b2⟩
  have z2 := carry y2 b2
  go_wp2_with (refine wpList_store_row rfl 24 (.tmp 4) _ rfl (w.heap.size + 2) #[.int .i64 0, .int .i64 0, .slice none 0 0] rfl rfl _ _ z2 (by kernel_rfl) rfl (one3v _ _ _ _ _) ?_)
  (try simp only [Exit.inBlock, Exit.then])
  refine bodyPost_ret (v := .tuple #[.agg #[.int .i64 0, .int .i64 0, .slice none 0 0], .int .i64 4]) ?_ rfl ⟨rfl, below_setRow (k1.trans (b2.mono k1.size)) (by omega) _⟩
  exact results_row_tmp rfl _ _ (w.heap.size + 2) _ _ _ _ rfl (setRow_heap _ _ _ _ _ _ z2) Tryd.underlying24 rfl (by kernel_rfl) _ rfl
set_option maxHeartbeats 4000000 in
theorem part_good (m p b o cx rx ry n hh : Nat) (fs : List C) (w : World) (hT : Txt.Tab w) (hC : CellsAt w b o fs) (hl : fs.length ≤ cx) (hm : cx ≤ 9223372036854775807) (hok : gridErr m p fs = 0) (hn : 1 ≤ n) (hh1 : 1 ≤ hh) (hxn : rx + n ≤ m) (hyh : ry + hh ≤ p) :
    Calls Tryd.prog 26 #[.agg #[.int .i64 (m : Int), .int .i64 (p : Int), .slice (some ⟨b, o, none⟩) fs.length cx], .agg #[.int .i64 (rx : Int), .int .i64 (ry : Int), .int .i64 (n : Int), .int .i64 (hh : Int)]] w fun e w' => ∃ v, e = .returned (.tuple #[.agg #[.int .i64 (n : Int), .int .i64 (hh : Int), v], .int .i64 0]) ∧ OwnG w' w.heap.size v (layG n hh (newL n hh) m p fs (-(rx : Int)) (-(ry : Int))) ∧ Below w.heap.size w w' := by
  obtain ⟨-, q1, q2, q3, q4, -, hne⟩ := okRange m p fs hok
  have hS : SliceAt w (.slice (some ⟨b, o, none⟩) fs.length cx) fs := .inr ⟨hne, b, o, cx, rfl, hl, hm, hC⟩
  obtain ⟨x0, x1, xr, kk, hsz⟩ := alloc3 w (.cells #[.int .i64 (m : Int), .int .i64 (p : Int), .slice (some ⟨b, o, none⟩) fs.length cx] 24) (.cells #[.int .i64 (rx : Int), .int .i64 (ry : Int), .int .i64 (n : Int), .int .i64 (hh : Int)] 36) (.cells #[.int .i64 0, .int .i64 0, .slice none 0 0] 24)
  have HK := check_ok m p _ fs _ (Tab.next hT kk) (hS.below kk) hok
  have HH : Hid (∀ W, Calls Tryd.prog 47 #[.agg #[.int .i64 (m : Int), .int .i64 (p : Int), .slice (some ⟨b, o, none⟩) fs.length cx], .agg #[.int .i64 (rx : Int), .int .i64 (ry : Int), .int .i64 (n : Int), .int .i64 (hh : Int)]] W fun e w' => e = .returned (.bool true) ∧ Below W.heap.size W w') := fun W => by
    have := holds_any m p (.slice (some ⟨b, o, none⟩) fs.length cx) rx ry n hh W (by omega) (by omega) (by omega) (by omega) (by omega) (by omega)
    have e : holdsI m p rx ry n hh = true := by unfold holdsI; rw [decide_eq_true_eq]; omega
    rwa [e] at this
  have HLN : Hid (∀ W, Below w.heap.size w W → Calls Tryd.prog 49 #[.agg #[.int .i64 (m : Int), .int .i64 (p : Int), .slice (some ⟨b, o, none⟩) fs.length cx], .int .i64 (n : Int), .int .i64 (hh : Int), .int .i64 (-(rx : Int)), .int .i64 (-(ry : Int))] W fun e w' => ∃ v, e = .returned (.tuple #[.agg #[.int .i64 (n : Int), .int .i64 (hh : Int), v], .int .i64 0]) ∧ OwnG w' W.heap.size v (layG n hh (newL n hh) m p fs (-(rx : Int)) (-(ry : Int))) ∧ Below W.heap.size W w') := fun W k =>
    lon_good m p b o cx n hh (-(rx : Int)) (-(ry : Int)) fs W (Tab.next hT k) (hC.below k) hok hl hm (by unfold isSize; rw [decide_eq_true_eq]; omega) (by omega) (by omega) (by omega) (by omega)
  generalize layG n hh (newL n hh) m p fs (-(rx : Int)) (-(ry : Int)) = res at HLN ⊢
  clear hok hT hS hC
  go_enter Tryd.func26, Tryd.ntmps26
  go_wp2_with fail
  refine HK.mono ?_
  rintro e W1 ⟨rfl, b1⟩
  have k1 := kk.trans (b1.mono kk.size)
  have y0 := carry x0 b1
  have y1 := carry x1 b1
  have y2 := carry xr b1
  obtain ⟨c0, c1, c2, _⟩ := cells3 y0
  obtain ⟨d0, d1, d2, d3⟩ := cells4 y1
  go_wp2_with fail
  refine (HH.out _).mono ?_
  rintro e W2 ⟨rfl, b2⟩
  have k2 := k1.trans (b2.mono k1.size)
  have z2 := carry y2 b2
  clear c0 c1 c2 d0 d1 d2 d3
  obtain ⟨c0, c1, c2, _⟩ := cells3 (carry y0 b2)
  obtain ⟨d0, d1, d2, d3⟩ := cells4 (carry y1 b2)
  go_wp2_with fail
  refine (HLN.out _ k2).mono ?_
  rintro e W3 ⟨_, rfl, ⟨g, cap, rest, t, rfl, hgb, hlc, hcm, hgh⟩, b3⟩
  have k3 := k2.trans (b3.mono k2.size)
  have u2 := carry z2 b3
  have hN2 : w.heap.size + 2 < W2.heap.size := blk_lt z2
  go_wp2_with (refine wpList_store_row rfl 24 (.tmp 4) _ rfl (w.heap.size + 2) #[.int .i64 (n : Int), .int .i64 (hh : Int), .slice (some ⟨g, 0, none⟩) res.length cap] rfl rfl _ _ u2 (by kernel_rfl) rfl (one3v _ _ _ _ _) ?_)
  (try simp only [Exit.inBlock, Exit.then])
  refine bodyPost_ret (v := .tuple #[.agg #[.int .i64 (n : Int), .int .i64 (hh : Int), .slice (some ⟨g, 0, none⟩) res.length cap], .int .i64 0]) ?_ rfl ⟨_, rfl, ⟨g, cap, rest, t, rfl, by omega, hlc, hcm, ?_⟩, below_setRow k3 (by omega) _⟩
  · exact results_row_tmp rfl _ _ (w.heap.size + 2) _ _ _ _ rfl (setRow_heap _ _ _ _ _ _ u2) Tryd.underlying24 rfl (by kernel_rfl) _ rfl
  · rw [setRow_other _ _ _ _ (by omega)]
    exact hgh
set_option maxHeartbeats 1000000 in
theorem resize_bad2 (m p : Nat) (v : Value) (fs : List C) (pw ph : Int) (w : World) (hT : Txt.Tab w) (hS : SliceAt w v fs) (hok : gridErr m p fs = 0) (hs : isSize pw ph = false) :
    Calls Tryd.prog 27 #[.agg #[.int .i64 (m : Int), .int .i64 (p : Int), v], .int .i64 pw, .int .i64 ph] w fun e w' => e = .returned (.tuple #[.agg #[.int .i64 0, .int .i64 0, .slice none 0 0], .int .i64 3]) ∧ Below w.heap.size w w' := by
  obtain ⟨x0, xr, kk, hsz⟩ := alloc2' w (.cells #[.int .i64 (m : Int), .int .i64 (p : Int), v] 24) (.cells #[.int .i64 0, .int .i64 0, .slice none 0 0] 24)
  have HK := check_ok m p v fs _ (Tab.next hT kk) (hS.below kk) hok
  clear hok hT hS
  go_enter Tryd.func27, Tryd.ntmps27
  go_wp2_with fail
  refine HK.mono ?_
  rintro e W1 ⟨rfl, b1⟩
  have k1 := kk.trans (b1.mono kk.size)
  have y2 := carry xr b1
  obtain ⟨c0, c1, c2, _⟩ := cells3 (carry x0 b1)
  go_wp2_with fail
  refine (lon_bad m p pw ph 0 0 v _ hs).mono ?_
  rintro e W2 ⟨rfl, b2⟩
  have z2 := carry y2 b2
  go_wp2_with (refine wpList_store_row rfl 24 (.tmp 6) _ rfl (w.heap.size + 1) #[.int .i64 0, .int .i64 0, .slice none 0 0] rfl rfl _ _ z2 (by kernel_rfl) rfl (one3v _ _ _ _ _) ?_)
  (try simp only [Exit.inBlock, Exit.then])
  refine bodyPost_ret (v := .tuple #[.agg #[.int .i64 0, .int .i64 0, .slice none 0 0], .int .i64 3]) ?_ rfl ⟨rfl, below_setRow (k1.trans (b2.mono k1.size)) (by omega) _⟩
  exact results_row_tmp rfl _ _ (w.heap.size + 1) _ _ _ _ rfl (setRow_heap _ _ _ _ _ _ z2) Tryd.underlying24 rfl (by kernel_rfl) _ rfl
set_option maxHeartbeats 4000000 in
theorem resize_good (m p b o cx n hh : Nat) (fs : List C) (w : World) (hT : Txt.Tab w) (hC : CellsAt w b o fs) (hl : fs.length ≤ cx) (hm : cx ≤ 9223372036854775807) (hok : gridErr m p fs = 0) (hs : isSize n hh = true) :
    Calls Tryd.prog 27 #[.agg #[.int .i64 (m : Int), .int .i64 (p : Int), .slice (some ⟨b, o, none⟩) fs.length cx], .int .i64 (n : Int), .int .i64 (hh : Int)] w fun e w' => ∃ v, e = .returned (.tuple #[.agg #[.int .i64 (n : Int), .int .i64 (hh : Int), v], .int .i64 0]) ∧ OwnG w' w.heap.size v (layG n hh (newL n hh) m p fs 0 0) ∧ Below w.heap.size w w' := by
  obtain ⟨-, q1, q2, q3, q4, -, hne⟩ := okRange m p fs hok
  have hS : SliceAt w (.slice (some ⟨b, o, none⟩) fs.length cx) fs := .inr ⟨hne, b, o, cx, rfl, hl, hm, hC⟩
  obtain ⟨x0, xr, kk, hsz⟩ := alloc2' w (.cells #[.int .i64 (m : Int), .int .i64 (p : Int), .slice (some ⟨b, o, none⟩) fs.length cx] 24) (.cells #[.int .i64 0, .int .i64 0, .slice none 0 0] 24)
  have HK := check_ok m p _ fs _ (Tab.next hT kk) (hS.below kk) hok
  have HLN : Hid (∀ W, Below w.heap.size w W → Calls Tryd.prog 49 #[.agg #[.int .i64 (m : Int), .int .i64 (p : Int), .slice (some ⟨b, o, none⟩) fs.length cx], .int .i64 (n : Int), .int .i64 (hh : Int), .int .i64 0, .int .i64 0] W fun e w' => ∃ v, e = .returned (.tuple #[.agg #[.int .i64 (n : Int), .int .i64 (hh : Int), v], .int .i64 0]) ∧ OwnG w' W.heap.size v (layG n hh (newL n hh) m p fs 0 0) ∧ Below W.heap.size W w') := fun W k =>
    lon_good m p b o cx n hh 0 0 fs W (Tab.next hT k) (hC.below k) hok hl hm hs (by omega) (by omega) (by omega) (by omega)
  generalize layG n hh (newL n hh) m p fs 0 0 = res at HLN ⊢
  clear hok hT hS hC hs
  go_enter Tryd.func27, Tryd.ntmps27
  go_wp2_with fail
  refine HK.mono ?_
  rintro e W1 ⟨rfl, b1⟩
  have k1 := kk.trans (b1.mono kk.size)
  have y2 := carry xr b1
  obtain ⟨c0, c1, c2, _⟩ := cells3 (carry x0 b1)
  go_wp2_with fail
  refine (HLN.out _ k1).mono ?_
  rintro e W3 ⟨_, rfl, ⟨g, cap, rest, t, rfl, hgb, hlc, hcm, hgh⟩, b3⟩
  have k3 := k1.trans (b3.mono k1.size)
  have u2 := carry y2 b3
  have hN2 : w.heap.size + 1 < W1.heap.size := blk_lt y2
  go_wp2_with (refine wpList_store_row rfl 24 (.tmp 6) _ rfl (w.heap.size + 1) #[.int .i64 (n : Int), .int .i64 (hh : Int), .slice (some ⟨g, 0, none⟩) res.length cap] rfl rfl _ _ u2 (by kernel_rfl) rfl (one3v _ _ _ _ _) ?_)
  (try simp only [Exit.inBlock, Exit.then])
  refine bodyPost_ret (v := .tuple #[.agg #[.int .i64 (n : Int), .int .i64 (hh : Int), .slice (some ⟨g, 0, none⟩) res.length cap], .int .i64 0]) ?_ rfl ⟨_, rfl, ⟨g, cap, rest, t, rfl, by omega, hlc, hcm, ?_⟩, below_setRow k3 (by omega) _⟩
  · exact results_row_tmp rfl _ _ (w.heap.size + 1) _ _ _ _ rfl (setRow_heap _ _ _ _ _ _ u2) Tryd.underlying24 rfl (by kernel_rfl) _ rfl
  · rw [setRow_other _ _ _ _ (by omega)]
    exact hgh
end Grd
end Go.Proofs.YtinhmklpnkikgaaDoor
